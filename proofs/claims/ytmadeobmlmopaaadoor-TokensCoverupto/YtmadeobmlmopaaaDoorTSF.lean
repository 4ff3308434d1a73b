/-
  The law's gapless: blanks and comments alone.
-/
import Derived.Test.YtmadeobmlmopaaaDoorTSE
import Derived.Test.YtmadeobmlmopaaaDoorTKB
namespace Go.Proofs.YtmadeobmlmopaaaDoor
open Go.RowKit
set_option linter.unusedVariables false
set_option linter.unusedSimpArgs false

theorem byS_byt {s : ByteArray} {k : Nat} (h : k < s.size) : byS s.data.toList k = byt s k := by
  rw [byt_of h]
  unfold byS
  rw [List.getD_eq_getElem?_getD, Array.getElem?_toList]
  have h2 : k < s.data.size := h
  rw [Array.getElem?_eq_getElem h2]
  rfl
theorem blank_is (c : Nat) (w : World) : Calls Tryd.prog 12 #[.int .u8 c] w fun e w' => e = .returned (.bool (blN c)) ∧ w' = w := by
  have key : blN c = (((c : Int) == 9) || ((c : Int) == 10) || ((c : Int) == 13) || ((c : Int) == 32)) := by
    unfold blN
    have e : ∀ n : Nat, decide (c = n) = ((c : Int) == (n : Int)) := fun n => by
      by_cases h : c = n
      · subst h; simp
      · rw [decide_eq_false h]; symm; rw [beq_eq_false_iff_ne]; omega
    rw [e 9, e 10, e 13, e 32]
    rfl
  rw [key]
  go_enter Tryd.func12, Tryd.ntmps12
  cases h9 : ((c : Int) == 9) <;> cases h10 : ((c : Int) == 10) <;> cases h13 : ((c : Int) == 13) <;> cases h32 : ((c : Int) == 32)
  all_goals (go_wp2; go_ret; first | exact ⟨rfl, rfl⟩ | simp_all)
set_option maxHeartbeats 2000000 in
set_option maxRecDepth 100000 in
theorem gap_is (s : ByteArray) (w : World) (hsz : s.size ≤ 4294967280) (hg : gapAt s.data.toList 0 s.size ≠ none) : Calls Tryd.prog 5 #[.string s] w fun e w' => e = .returned (.bool true) ∧ w' = w := by
  have hy := fun k (h : k < s.size) => byS_byt h
  have hm := fun k (h : k ≤ s.size) => gap_mono hg h
  obtain ⟨S, hS⟩ : ∃ S, s.data.toList = S := ⟨_, rfl⟩
  rw [hS] at hy hm
  clear hg hS
  have HY := hideT hy
  have HM := hideT hm
  clear hy hm
  go_enter Tryd.func5, Tryd.ntmps5
  go_wp2
  go_loop [3] (fun i => ∃ k : Nat, k ≤ s.size ∧ i = .int .i64 k ∧ (gapAt S 0 k = some 3 ∨ gapAt S 0 k = some 4 ∧ (k < s.size → byt s k = 10 ∨ byt s k = 13))) (fun i => s.size - (intOf i).toNat)
  case atStart => exact ⟨0, Nat.zero_le _, rfl, Or.inl rfl⟩
  case round =>
    obtain ⟨k, hk, rfl, hgk⟩ := hrel
    have HK := hideT hgk
    clear hgk
    by_cases hlt : k < s.size
    · have hki : ((k : Int) < (s.size : Int)) := by omega
      have hb := byt_of hlt
      by_cases h59 : byt s k = 59
      · have x59 : (((s[k]'hlt).toNat : Int) == 59) = true := by rw [← hb, h59]; rfl
        have h3 : gapAt S 0 k = some 3 := by
          rcases HK.out with c | ⟨_, c⟩
          · exact c
          · have := c hlt; omega
        have H3 := hideT h3
        have H59 := hideT h59
        clear h3 HK hb h59
        go_wp2
        go_loop [3] (fun i => ∃ j : Nat, k ≤ j ∧ j ≤ s.size ∧ i = .int .i64 j ∧ (j = k ∨ k < j ∧ gapAt S 0 j = some 4)) (fun i => s.size - (intOf i).toNat)
        case atStart => exact ⟨k, Nat.le_refl _, hk, rfl, Or.inl rfl⟩
        case round =>
          obtain ⟨j, hkj, hj, rfl, hgj⟩ := hrel
          have HJ := hideT hgj
          clear hgj
          by_cases hjl : j < s.size
          · have hji : ((j : Int) < (s.size : Int)) := by omega
            have hbj := byt_of hjl
            by_cases h10 : byt s j = 10
            · have y10 : (((s[j]'hjl).toNat : Int) != 10) = false := by rw [← hbj, h10]; rfl
              have h4 : k < j ∧ gapAt S 0 j = some 4 := by
                rcases HJ.out with c | c
                · exfalso; rw [c] at h10; have := H59.out; omega
                · exact c
              have HD := hideT (show byt s j = 10 ∨ byt s j = 13 by omega)
              have H4 := hideT h4
              clear h4 HJ hbj h10
              go_wp2
              go_round
              case rel => exact ⟨j, hj, rfl, Or.inr ⟨H4.out.2, fun _ => HD.out⟩⟩
              case measure => have := H4.out.1; simp [intOf]; omega
            by_cases h13 : byt s j = 13
            · have y13 : (((s[j]'hjl).toNat : Int) != 13) = false := by rw [← hbj, h13]; rfl
              have y10 : (((s[j]'hjl).toNat : Int) != 10) = true := by rw [← hbj, bne_iff_ne]; omega
              have h4 : k < j ∧ gapAt S 0 j = some 4 := by
                rcases HJ.out with c | c
                · exfalso; rw [c] at h13; have := H59.out; omega
                · exact c
              have HD := hideT (show byt s j = 10 ∨ byt s j = 13 by omega)
              have H4 := hideT h4
              clear h4 HJ hbj h13 h10
              go_wp2
              go_round
              case rel => exact ⟨j, hj, rfl, Or.inr ⟨H4.out.2, fun _ => HD.out⟩⟩
              case measure => have := H4.out.1; simp [intOf]; omega
            have y10 : (((s[j]'hjl).toNat : Int) != 10) = true := by rw [← hbj, bne_iff_ne]; omega
            have y13 : (((s[j]'hjl).toNat : Int) != 13) = true := by rw [← hbj, bne_iff_ne]; omega
            have h4 : gapAt S 0 (j + 1) = some 4 := by
              rcases HJ.out with c | ⟨_, c⟩
              · subst c
                rcases gap_three H3.out (HM.out (j + 1) (by omega)) with ⟨_, q⟩ | ⟨q, _⟩
                · exact q
                · rw [Nat.zero_add, HY.out j hjl] at q; exact absurd H59.out q
              · rw [gap_four c, Nat.zero_add, HY.out j hjl, if_neg (by omega)]
            have H4 := hideT h4
            clear h4 HJ hbj h10 h13
            go_wp2
            go_round
            case rel => exact ⟨j + 1, by omega, by omega, by go_num, Or.inr ⟨by omega, H4.out⟩⟩
            case measure => simp [intOf]; omega
          · have hji : ¬ ((j : Int) < (s.size : Int)) := by omega
            have h4 : k < j ∧ gapAt S 0 j = some 4 := by
              rcases HJ.out with c | c
              · omega
              · exact c
            have H4 := hideT h4
            clear h4 HJ
            go_wp2
            go_round
            case rel => exact ⟨j, hj, rfl, Or.inr ⟨H4.out.2, fun c => absurd c hjl⟩⟩
            case measure => have := H4.out.1; simp [intOf]; omega
      · have x59 : (((s[k]'hlt).toNat : Int) == 59) = false := by rw [← hb, beq_eq_false_iff_ne]; omega
        have hbl : blN (byt s k) = true ∧ gapAt S 0 (k + 1) = some 3 := by
          rcases HK.out with c | ⟨c, d⟩
          · rcases gap_three c (HM.out (k + 1) (by omega)) with ⟨q, _⟩ | ⟨_, q, r⟩
            · rw [Nat.zero_add, HY.out k hlt] at q; exact absurd q h59
            · rw [Nat.zero_add, HY.out k hlt] at q; exact ⟨q, r⟩
          · have := d hlt
            refine ⟨by unfold blN; simp; omega, ?_⟩
            rw [gap_four c, Nat.zero_add, HY.out k hlt, if_pos this]
        have GB := hideT (fun W => blank_is (byt s k) W)
        rw [hbl.1, hb] at GB
        have HBL := hideT hbl.2
        clear hbl HK hb h59
        go_wp2_with fail
        refine (GB.out _).mono ?_
        rintro e w1 ⟨rfl, rfl⟩
        go_wp2
        go_round
        case rel => exact ⟨k + 1, by omega, by go_num, Or.inl HBL.out⟩
        case measure => simp [intOf]; omega
    · have hki : ¬ ((k : Int) < (s.size : Int)) := by omega
      go_wp2
      go_ret
      exact ⟨rfl, rfl⟩

end Go.Proofs.YtmadeobmlmopaaaDoor
