/-
  The reference's symbolEnd, digitsEnd and gap.
-/
import Derived.Test.YtibeiggedmabkaaDoorTSE
import Derived.Test.YtibeiggedmabkaaDoorTKB
import Derived.Test.YtibeiggedmabkaaDoorTRA
import Derived.Test.YtibeiggedmabkaaDoorTK2
namespace Go.Proofs.YtibeiggedmabkaaDoor
open Go.RowKit
set_option linter.unusedVariables false
set_option linter.unusedSimpArgs false

theorem byS_byt {s : ByteArray} {k : Nat} (h : k < s.size) : byS s.data.toList k = byt s k := by
  rw [byt_of h]
  unfold byS
  rw [List.getD_eq_getElem?_getD, Array.getElem?_toList]
  have h2 : k < s.data.size := h
  rw [Array.getElem?_eq_getElem h2]
  rfl
end Go.Proofs.YtibeiggedmabkaaDoor

namespace Go.Proofs.YtibeiggedmabkaaDoor
open Go.RowKit
set_option linter.unusedVariables false
set_option linter.unusedSimpArgs false

theorem start_bl {c : Nat} (h : blN c = true) : startN c = 3 := by
  have : c = 9 ∨ c = 10 ∨ c = 13 ∨ c = 32 := by unfold blN at h; simp at h; omega
  rcases this with e | e | e | e <;> subst e <;> decide
theorem folx3 (c : Nat) : folN 3 c = startN c := by simp [folN]
theorem folx4 (c : Nat) : folN 4 c = if c = 10 ∨ c = 13 then 3 else 4 := by simp [folN]
theorem gapE_bl {S : List UInt8} {k : Nat} (h : k < S.length) (hb : blN (byS S k) = true) : gapE S 3 k = gapE S 3 (k + 1) := by
  have e : folN 3 (byS S k) = 3 := by rw [folx3, start_bl hb]
  rw [gapE_on h (by rw [e]; decide), e]
theorem gapE_59 {S : List UInt8} {k : Nat} (h : k < S.length) (hb : byS S k = 59) : gapE S 3 k = gapE S 4 (k + 1) := by
  have e : folN 3 (byS S k) = 4 := by rw [hb]; decide
  rw [gapE_on h (by rw [e]; decide), e]
theorem gapE_in {S : List UInt8} {k : Nat} (h : k < S.length) (h1 : byS S k ≠ 10) (h2 : byS S k ≠ 13) : gapE S 4 k = gapE S 4 (k + 1) := by
  have e : folN 4 (byS S k) = 4 := by rw [folx4, if_neg (by omega)]
  rw [gapE_on h (by rw [e]; decide), e]
theorem gapE_out {S : List UInt8} {k : Nat} (h : k < S.length → byS S k = 10 ∨ byS S k = 13) : gapE S 4 k = gapE S 3 k := by
  by_cases hl : k < S.length
  · have hb := h hl
    have e : folN 4 (byS S k) = 3 := by rw [folx4, if_pos hb]
    rw [gapE_on hl (by rw [e]; decide), e]
    symm
    exact gapE_bl hl (by unfold blN; simp; omega)
  · rw [gapE_off (fun c => hl c.1), gapE_off (fun c => hl c.1)]
theorem gapE_stop {S : List UInt8} {k : Nat} (h1 : ¬ blN (byS S k) = true) (h2 : byS S k ≠ 59) : gapE S 3 k = k := by
  refine gapE_off (fun c => ?_)
  obtain ⟨_, c⟩ := c
  rw [folx3] at c
  rcases startN_low c with ⟨q, _⟩ | ⟨_, q, _⟩
  · exact h2 q
  · exact h1 q

set_option maxHeartbeats 4000000 in
set_option maxRecDepth 100000 in
theorem symEnd_is (s : ByteArray) (S : List UInt8) (hS : s.data.toList = S) (i : Nat) (w : World) (hsz : s.size ≤ 4294967280) (hi : i ≤ s.size) : Calls Tryd.prog 70 #[.string s, .int .i64 i] w fun e w' => e = .returned (.int .i64 (runE syN S i : Nat)) ∧ w' = w := by
  have hy := fun k (h : k < s.size) => byS_byt h
  have hsl : s.size = S.length := by rw [← hS, Array.length_toList]; rfl
  rw [hS] at hy
  clear hS
  have HY := hideT hy
  have HL := hideT hsl
  clear hy hsl
  go_enter Tryd.func70, Tryd.ntmps70
  go_wp2
  go_loop [1] (fun v => ∃ k : Nat, i ≤ k ∧ k ≤ s.size ∧ v = .int .i64 k ∧ runE syN S k = runE syN S i) (fun v => s.size - (intOf v).toNat)
  case atStart => exact ⟨i, Nat.le_refl _, hi, rfl, rfl⟩
  case round =>
    obtain ⟨k, hik, hk, rfl, hr⟩ := hrel
    have HR := hideT hr
    clear hr
    by_cases hlt : k < s.size
    · have hki : ((k : Int) < (s.size : Int)) := by omega
      have hb := byt_of hlt
      have hyk := HY.out k hlt
      have hkl : k < S.length := by rw [← HL.out]; exact hlt
      have GB := hideT (fun W => symbolByte_is (byt s k) W)
      rcases hf : syN (byt s k) with _ | _
      · rw [hf, hb] at GB
        have HE := hideT (show runE syN S i = k by rw [← HR.out]; exact runE_off (fun c => by rw [hyk, hf] at c; exact absurd c.2 (by decide)))
        clear hf hb hyk hkl HR
        go_wp2_with fail
        refine (GB.out _).mono ?_
        rintro e w1 ⟨rfl, rfl⟩
        go_wp2
        go_ret
        rw [HE.out]
        exact ⟨rfl, rfl⟩
      · rw [hf, hb] at GB
        have HE := hideT (show runE syN S (k + 1) = runE syN S i by rw [← runE_on hkl (by rw [hyk]; exact hf)]; exact HR.out)
        clear hf hb hyk hkl HR
        go_wp2_with fail
        refine (GB.out _).mono ?_
        rintro e w1 ⟨rfl, rfl⟩
        go_wp2
        go_round
        case rel => exact ⟨k + 1, by omega, by omega, by go_num, HE.out⟩
        case measure => simp [intOf]; omega
    · have hki : ¬ ((k : Int) < (s.size : Int)) := by omega
      have HE := hideT (show runE syN S i = k by rw [← HR.out]; exact runE_off (fun c => by rw [← HL.out] at c; exact hlt c.1))
      clear HR
      go_wp2
      go_ret
      rw [HE.out]
      exact ⟨rfl, rfl⟩

set_option maxHeartbeats 4000000 in
set_option maxRecDepth 100000 in
theorem digEnd_d (s : ByteArray) (S : List UInt8) (hS : s.data.toList = S) (i : Nat) (w : World) (hsz : s.size ≤ 4294967280) (hi : i ≤ s.size) : Calls Tryd.prog 81 #[.string s, .int .i64 i, .int .u8 100] w fun e w' => e = .returned (.int .i64 (runE dgN S i : Nat)) ∧ w' = w := by
  have hy := fun k (h : k < s.size) => byS_byt h
  have hsl : s.size = S.length := by rw [← hS, Array.length_toList]; rfl
  rw [hS] at hy
  clear hS
  have HY := hideT hy
  have HL := hideT hsl
  clear hy hsl
  go_enter Tryd.func81, Tryd.ntmps81
  go_wp2
  go_loop [1] (fun v => ∃ k : Nat, i ≤ k ∧ k ≤ s.size ∧ v = .int .i64 k ∧ runE dgN S k = runE dgN S i) (fun v => s.size - (intOf v).toNat)
  case atStart => exact ⟨i, Nat.le_refl _, hi, rfl, rfl⟩
  case round =>
    obtain ⟨k, hik, hk, rfl, hr⟩ := hrel
    have HR := hideT hr
    clear hr
    by_cases hlt : k < s.size
    · have hki : ((k : Int) < (s.size : Int)) := by omega
      have hb := byt_of hlt
      have hyk := HY.out k hlt
      have hkl : k < S.length := by rw [← HL.out]; exact hlt
      have on : dgN (byt s k) = true → runE dgN S (k + 1) = runE dgN S i := fun hf => by rw [← runE_on hkl (by rw [hyk]; exact hf)]; exact HR.out
      have off : dgN (byt s k) = false → runE dgN S i = k := fun hf => by rw [← HR.out]; exact runE_off (fun c => by rw [hyk, hf] at c; exact absurd c.2 (by decide))
      have ON := hideT on
      have OFF := hideT off
      clear on off hyk hkl HR
      have GB := hideT (fun W => digit_is (byt s k) W)
      rw [hb] at GB ON OFF
      generalize hn : (s[k]'hlt).toNat = n at GB ON OFF
      clear hb
      have hv : (n < 65) ∨ (65 ≤ n ∧ n ≤ 70) ∨ (70 < n ∧ n < 97) ∨ (97 ≤ n ∧ n ≤ 102) ∨ (102 < n) := by omega
      rcases hv with hv | hv | hv | hv | hv
      · skip
        have x97 : ¬ ((97 : Int) ≤ (n : Int)) := by omega
        have x65 : ¬ ((65 : Int) ≤ (n : Int)) := by omega
        rcases hd : dgN n with _ | _
        · rw [hd] at GB
          have hfin : dgN n = false := hd
          have HF := hideT (OFF.out hfin)
          clear ON OFF hfin hd hv
          go_wp2_with fail
          try rw [hn]
          refine (GB.out _).mono ?_
          rintro e w1 ⟨rfl, rfl⟩
          go_wp2
          go_ret
          rw [HF.out]
          exact ⟨rfl, rfl⟩
        · rw [hd] at GB
          have hfin : dgN n = true := hd
          have HF := hideT (ON.out hfin)
          clear ON OFF hfin hd hv
          go_wp2_with fail
          try rw [hn]
          refine (GB.out _).mono ?_
          rintro e w1 ⟨rfl, rfl⟩
          go_wp2
          go_round
          case rel => exact ⟨k + 1, by omega, by omega, by go_num, HF.out⟩
          case measure => simp [intOf]; omega
      · skip
        have x97 : ¬ ((97 : Int) ≤ (n : Int)) := by omega
        have x65 : ((65 : Int) ≤ (n : Int)) := by omega
        have x70 : ((n : Int) ≤ 70) := by omega
        rcases hd : dgN n with _ | _
        · rw [hd] at GB
          have hfin : dgN n = false := hd
          have HF := hideT (OFF.out hfin)
          clear ON OFF hfin hd hv
          go_wp2_with fail
          try rw [hn]
          refine (GB.out _).mono ?_
          rintro e w1 ⟨rfl, rfl⟩
          go_wp2
          go_ret
          rw [HF.out]
          exact ⟨rfl, rfl⟩
        · exfalso; unfold dgN at hd; simp at hd; omega
      · skip
        have x97 : ¬ ((97 : Int) ≤ (n : Int)) := by omega
        have x65 : ((65 : Int) ≤ (n : Int)) := by omega
        have x70 : ¬ ((n : Int) ≤ 70) := by omega
        rcases hd : dgN n with _ | _
        · rw [hd] at GB
          have hfin : dgN n = false := hd
          have HF := hideT (OFF.out hfin)
          clear ON OFF hfin hd hv
          go_wp2_with fail
          try rw [hn]
          refine (GB.out _).mono ?_
          rintro e w1 ⟨rfl, rfl⟩
          go_wp2
          go_ret
          rw [HF.out]
          exact ⟨rfl, rfl⟩
        · exfalso; unfold dgN at hd; simp at hd; omega
      · skip
        have x97 : ((97 : Int) ≤ (n : Int)) := by omega
        have x102 : ((n : Int) ≤ 102) := by omega
        rcases hd : dgN n with _ | _
        · rw [hd] at GB
          have hfin : dgN n = false := hd
          have HF := hideT (OFF.out hfin)
          clear ON OFF hfin hd hv
          go_wp2_with fail
          try rw [hn]
          refine (GB.out _).mono ?_
          rintro e w1 ⟨rfl, rfl⟩
          go_wp2
          go_ret
          rw [HF.out]
          exact ⟨rfl, rfl⟩
        · exfalso; unfold dgN at hd; simp at hd; omega
      · skip
        have x97 : ((97 : Int) ≤ (n : Int)) := by omega
        have x102 : ¬ ((n : Int) ≤ 102) := by omega
        have x65 : ((65 : Int) ≤ (n : Int)) := by omega
        have x70 : ¬ ((n : Int) ≤ 70) := by omega
        rcases hd : dgN n with _ | _
        · rw [hd] at GB
          have hfin : dgN n = false := hd
          have HF := hideT (OFF.out hfin)
          clear ON OFF hfin hd hv
          go_wp2_with fail
          try rw [hn]
          refine (GB.out _).mono ?_
          rintro e w1 ⟨rfl, rfl⟩
          go_wp2
          go_ret
          rw [HF.out]
          exact ⟨rfl, rfl⟩
        · exfalso; unfold dgN at hd; simp at hd; omega
    · have hki : ¬ ((k : Int) < (s.size : Int)) := by omega
      have HE := hideT (show runE dgN S i = k by rw [← HR.out]; exact runE_off (fun c => by rw [← HL.out] at c; exact hlt c.1))
      clear HR
      go_wp2
      go_ret
      rw [HE.out]
      exact ⟨rfl, rfl⟩

set_option maxHeartbeats 4000000 in
set_option maxRecDepth 100000 in
theorem digEnd_b (s : ByteArray) (S : List UInt8) (hS : s.data.toList = S) (i : Nat) (w : World) (hsz : s.size ≤ 4294967280) (hi : i ≤ s.size) : Calls Tryd.prog 81 #[.string s, .int .i64 i, .int .u8 98] w fun e w' => e = .returned (.int .i64 (runE biN S i : Nat)) ∧ w' = w := by
  have hy := fun k (h : k < s.size) => byS_byt h
  have hsl : s.size = S.length := by rw [← hS, Array.length_toList]; rfl
  rw [hS] at hy
  clear hS
  have HY := hideT hy
  have HL := hideT hsl
  clear hy hsl
  go_enter Tryd.func81, Tryd.ntmps81
  go_wp2
  go_loop [1] (fun v => ∃ k : Nat, i ≤ k ∧ k ≤ s.size ∧ v = .int .i64 k ∧ runE biN S k = runE biN S i) (fun v => s.size - (intOf v).toNat)
  case atStart => exact ⟨i, Nat.le_refl _, hi, rfl, rfl⟩
  case round =>
    obtain ⟨k, hik, hk, rfl, hr⟩ := hrel
    have HR := hideT hr
    clear hr
    by_cases hlt : k < s.size
    · have hki : ((k : Int) < (s.size : Int)) := by omega
      have hb := byt_of hlt
      have hyk := HY.out k hlt
      have hkl : k < S.length := by rw [← HL.out]; exact hlt
      have on : biN (byt s k) = true → runE biN S (k + 1) = runE biN S i := fun hf => by rw [← runE_on hkl (by rw [hyk]; exact hf)]; exact HR.out
      have off : biN (byt s k) = false → runE biN S i = k := fun hf => by rw [← HR.out]; exact runE_off (fun c => by rw [hyk, hf] at c; exact absurd c.2 (by decide))
      have ON := hideT on
      have OFF := hideT off
      clear on off hyk hkl HR
      have GB := hideT (fun W => digit_is (byt s k) W)
      rw [hb] at GB ON OFF
      generalize hn : (s[k]'hlt).toNat = n at GB ON OFF
      clear hb
      have hv : (n < 65) ∨ (65 ≤ n ∧ n ≤ 70) ∨ (70 < n ∧ n < 97) ∨ (97 ≤ n ∧ n ≤ 102) ∨ (102 < n) := by omega
      rcases hv with hv | hv | hv | hv | hv
      · skip
        have x97 : ¬ ((97 : Int) ≤ (n : Int)) := by omega
        have x65 : ¬ ((65 : Int) ≤ (n : Int)) := by omega
        rcases hd : dgN n with _ | _
        · rw [hd] at GB
          have n48 : n ≠ 48 := fun c => by rw [c] at hd; exact absurd hd (by decide)
          have n49 : n ≠ 49 := fun c => by rw [c] at hd; exact absurd hd (by decide)
          have y48 : ((n : Int) == 48) = false := by rw [beq_eq_false_iff_ne]; omega
          have y49 : ((n : Int) == 49) = false := by rw [beq_eq_false_iff_ne]; omega
          have hfin : biN n = false := by unfold biN; simp [dgN] at hd ⊢; omega
          have HF := hideT (OFF.out hfin)
          clear ON OFF hfin hd hv n48 n49
          go_wp2_with fail
          try rw [hn]
          refine (GB.out _).mono ?_
          rintro e w1 ⟨rfl, rfl⟩
          go_wp2
          go_ret
          rw [HF.out]
          exact ⟨rfl, rfl⟩
        · rw [hd] at GB
          by_cases h48 : n = 48
          · have y48 : ((n : Int) == 48) = true := by rw [h48]; rfl
            have hfin : biN n = true := by unfold biN; simp [dgN] at hd ⊢; omega
            have HF := hideT (ON.out hfin)
            clear ON OFF hfin hd hv h48
            go_wp2_with fail
            try rw [hn]
            refine (GB.out _).mono ?_
            rintro e w1 ⟨rfl, rfl⟩
            go_wp2
            go_round
            case rel => exact ⟨k + 1, by omega, by omega, by go_num, HF.out⟩
            case measure => simp [intOf]; omega
          · have y48 : ((n : Int) == 48) = false := by rw [beq_eq_false_iff_ne]; omega
            by_cases h49 : n = 49
            · have y49 : ((n : Int) == 49) = true := by rw [h49]; rfl
              have hfin : biN n = true := by unfold biN; simp [dgN] at hd ⊢; omega
              have HF := hideT (ON.out hfin)
              clear ON OFF hfin hd hv h48 h49
              go_wp2_with fail
              try rw [hn]
              refine (GB.out _).mono ?_
              rintro e w1 ⟨rfl, rfl⟩
              go_wp2
              go_round
              case rel => exact ⟨k + 1, by omega, by omega, by go_num, HF.out⟩
              case measure => simp [intOf]; omega
            · have y49 : ((n : Int) == 49) = false := by rw [beq_eq_false_iff_ne]; omega
              have hfin : biN n = false := by unfold biN; simp [dgN] at hd ⊢; omega
              have HF := hideT (OFF.out hfin)
              clear ON OFF hfin hd hv h48 h49
              go_wp2_with fail
              try rw [hn]
              refine (GB.out _).mono ?_
              rintro e w1 ⟨rfl, rfl⟩
              go_wp2
              go_ret
              rw [HF.out]
              exact ⟨rfl, rfl⟩
      · skip
        have x97 : ¬ ((97 : Int) ≤ (n : Int)) := by omega
        have x65 : ((65 : Int) ≤ (n : Int)) := by omega
        have x70 : ((n : Int) ≤ 70) := by omega
        rcases hd : dgN n with _ | _
        · rw [hd] at GB
          have n48 : n ≠ 48 := fun c => by rw [c] at hd; exact absurd hd (by decide)
          have n49 : n ≠ 49 := fun c => by rw [c] at hd; exact absurd hd (by decide)
          have y48 : ((n : Int) == 48) = false := by rw [beq_eq_false_iff_ne]; omega
          have y49 : ((n : Int) == 49) = false := by rw [beq_eq_false_iff_ne]; omega
          have hfin : biN n = false := by unfold biN; simp [dgN] at hd ⊢; omega
          have HF := hideT (OFF.out hfin)
          clear ON OFF hfin hd hv n48 n49
          go_wp2_with fail
          try rw [hn]
          refine (GB.out _).mono ?_
          rintro e w1 ⟨rfl, rfl⟩
          go_wp2
          go_ret
          rw [HF.out]
          exact ⟨rfl, rfl⟩
        · exfalso; unfold dgN at hd; simp at hd; omega
      · skip
        have x97 : ¬ ((97 : Int) ≤ (n : Int)) := by omega
        have x65 : ((65 : Int) ≤ (n : Int)) := by omega
        have x70 : ¬ ((n : Int) ≤ 70) := by omega
        rcases hd : dgN n with _ | _
        · rw [hd] at GB
          have n48 : n ≠ 48 := fun c => by rw [c] at hd; exact absurd hd (by decide)
          have n49 : n ≠ 49 := fun c => by rw [c] at hd; exact absurd hd (by decide)
          have y48 : ((n : Int) == 48) = false := by rw [beq_eq_false_iff_ne]; omega
          have y49 : ((n : Int) == 49) = false := by rw [beq_eq_false_iff_ne]; omega
          have hfin : biN n = false := by unfold biN; simp [dgN] at hd ⊢; omega
          have HF := hideT (OFF.out hfin)
          clear ON OFF hfin hd hv n48 n49
          go_wp2_with fail
          try rw [hn]
          refine (GB.out _).mono ?_
          rintro e w1 ⟨rfl, rfl⟩
          go_wp2
          go_ret
          rw [HF.out]
          exact ⟨rfl, rfl⟩
        · exfalso; unfold dgN at hd; simp at hd; omega
      · skip
        have x97 : ((97 : Int) ≤ (n : Int)) := by omega
        have x102 : ((n : Int) ≤ 102) := by omega
        rcases hd : dgN n with _ | _
        · rw [hd] at GB
          have n48 : n ≠ 48 := fun c => by rw [c] at hd; exact absurd hd (by decide)
          have n49 : n ≠ 49 := fun c => by rw [c] at hd; exact absurd hd (by decide)
          have y48 : ((n : Int) == 48) = false := by rw [beq_eq_false_iff_ne]; omega
          have y49 : ((n : Int) == 49) = false := by rw [beq_eq_false_iff_ne]; omega
          have hfin : biN n = false := by unfold biN; simp [dgN] at hd ⊢; omega
          have HF := hideT (OFF.out hfin)
          clear ON OFF hfin hd hv n48 n49
          go_wp2_with fail
          try rw [hn]
          refine (GB.out _).mono ?_
          rintro e w1 ⟨rfl, rfl⟩
          go_wp2
          go_ret
          rw [HF.out]
          exact ⟨rfl, rfl⟩
        · exfalso; unfold dgN at hd; simp at hd; omega
      · skip
        have x97 : ((97 : Int) ≤ (n : Int)) := by omega
        have x102 : ¬ ((n : Int) ≤ 102) := by omega
        have x65 : ((65 : Int) ≤ (n : Int)) := by omega
        have x70 : ¬ ((n : Int) ≤ 70) := by omega
        rcases hd : dgN n with _ | _
        · rw [hd] at GB
          have n48 : n ≠ 48 := fun c => by rw [c] at hd; exact absurd hd (by decide)
          have n49 : n ≠ 49 := fun c => by rw [c] at hd; exact absurd hd (by decide)
          have y48 : ((n : Int) == 48) = false := by rw [beq_eq_false_iff_ne]; omega
          have y49 : ((n : Int) == 49) = false := by rw [beq_eq_false_iff_ne]; omega
          have hfin : biN n = false := by unfold biN; simp [dgN] at hd ⊢; omega
          have HF := hideT (OFF.out hfin)
          clear ON OFF hfin hd hv n48 n49
          go_wp2_with fail
          try rw [hn]
          refine (GB.out _).mono ?_
          rintro e w1 ⟨rfl, rfl⟩
          go_wp2
          go_ret
          rw [HF.out]
          exact ⟨rfl, rfl⟩
        · exfalso; unfold dgN at hd; simp at hd; omega
    · have hki : ¬ ((k : Int) < (s.size : Int)) := by omega
      have HE := hideT (show runE biN S i = k by rw [← HR.out]; exact runE_off (fun c => by rw [← HL.out] at c; exact hlt c.1))
      clear HR
      go_wp2
      go_ret
      rw [HE.out]
      exact ⟨rfl, rfl⟩

set_option maxHeartbeats 4000000 in
set_option maxRecDepth 100000 in
theorem digEnd_x (s : ByteArray) (S : List UInt8) (hS : s.data.toList = S) (i : Nat) (w : World) (hsz : s.size ≤ 4294967280) (hi : i ≤ s.size) : Calls Tryd.prog 81 #[.string s, .int .i64 i, .int .u8 120] w fun e w' => e = .returned (.int .i64 (runE hxN S i : Nat)) ∧ w' = w := by
  have hy := fun k (h : k < s.size) => byS_byt h
  have hsl : s.size = S.length := by rw [← hS, Array.length_toList]; rfl
  rw [hS] at hy
  clear hS
  have HY := hideT hy
  have HL := hideT hsl
  clear hy hsl
  go_enter Tryd.func81, Tryd.ntmps81
  go_wp2
  go_loop [1] (fun v => ∃ k : Nat, i ≤ k ∧ k ≤ s.size ∧ v = .int .i64 k ∧ runE hxN S k = runE hxN S i) (fun v => s.size - (intOf v).toNat)
  case atStart => exact ⟨i, Nat.le_refl _, hi, rfl, rfl⟩
  case round =>
    obtain ⟨k, hik, hk, rfl, hr⟩ := hrel
    have HR := hideT hr
    clear hr
    by_cases hlt : k < s.size
    · have hki : ((k : Int) < (s.size : Int)) := by omega
      have hb := byt_of hlt
      have hyk := HY.out k hlt
      have hkl : k < S.length := by rw [← HL.out]; exact hlt
      have on : hxN (byt s k) = true → runE hxN S (k + 1) = runE hxN S i := fun hf => by rw [← runE_on hkl (by rw [hyk]; exact hf)]; exact HR.out
      have off : hxN (byt s k) = false → runE hxN S i = k := fun hf => by rw [← HR.out]; exact runE_off (fun c => by rw [hyk, hf] at c; exact absurd c.2 (by decide))
      have ON := hideT on
      have OFF := hideT off
      clear on off hyk hkl HR
      have GB := hideT (fun W => digit_is (byt s k) W)
      rw [hb] at GB ON OFF
      generalize hn : (s[k]'hlt).toNat = n at GB ON OFF
      clear hb
      have hv : (n < 65) ∨ (65 ≤ n ∧ n ≤ 70) ∨ (70 < n ∧ n < 97) ∨ (97 ≤ n ∧ n ≤ 102) ∨ (102 < n) := by omega
      rcases hv with hv | hv | hv | hv | hv
      · skip
        have x97 : ¬ ((97 : Int) ≤ (n : Int)) := by omega
        have x65 : ¬ ((65 : Int) ≤ (n : Int)) := by omega
        rcases hd : dgN n with _ | _
        · rw [hd] at GB
          have hfin : hxN n = false := by unfold hxN; simp [dgN] at hd ⊢; omega
          have HF := hideT (OFF.out hfin)
          clear ON OFF hfin hd hv
          go_wp2_with fail
          try rw [hn]
          refine (GB.out _).mono ?_
          rintro e w1 ⟨rfl, rfl⟩
          go_wp2
          go_ret
          rw [HF.out]
          exact ⟨rfl, rfl⟩
        · rw [hd] at GB
          have hfin : hxN n = true := by unfold hxN; simp [dgN] at hd ⊢; omega
          have HF := hideT (ON.out hfin)
          clear ON OFF hfin hd hv
          go_wp2_with fail
          try rw [hn]
          refine (GB.out _).mono ?_
          rintro e w1 ⟨rfl, rfl⟩
          go_wp2
          go_round
          case rel => exact ⟨k + 1, by omega, by omega, by go_num, HF.out⟩
          case measure => simp [intOf]; omega
      · skip
        have x97 : ¬ ((97 : Int) ≤ (n : Int)) := by omega
        have x65 : ((65 : Int) ≤ (n : Int)) := by omega
        have x70 : ((n : Int) ≤ 70) := by omega
        rcases hd : dgN n with _ | _
        · rw [hd] at GB
          have hfin : hxN n = true := by unfold hxN; simp [dgN] at hd ⊢; omega
          have HF := hideT (ON.out hfin)
          clear ON OFF hfin hd hv
          go_wp2_with fail
          try rw [hn]
          refine (GB.out _).mono ?_
          rintro e w1 ⟨rfl, rfl⟩
          go_wp2
          go_round
          case rel => exact ⟨k + 1, by omega, by omega, by go_num, HF.out⟩
          case measure => simp [intOf]; omega
        · exfalso; unfold dgN at hd; simp at hd; omega
      · skip
        have x97 : ¬ ((97 : Int) ≤ (n : Int)) := by omega
        have x65 : ((65 : Int) ≤ (n : Int)) := by omega
        have x70 : ¬ ((n : Int) ≤ 70) := by omega
        rcases hd : dgN n with _ | _
        · rw [hd] at GB
          have hfin : hxN n = false := by unfold hxN; simp [dgN] at hd ⊢; omega
          have HF := hideT (OFF.out hfin)
          clear ON OFF hfin hd hv
          go_wp2_with fail
          try rw [hn]
          refine (GB.out _).mono ?_
          rintro e w1 ⟨rfl, rfl⟩
          go_wp2
          go_ret
          rw [HF.out]
          exact ⟨rfl, rfl⟩
        · exfalso; unfold dgN at hd; simp at hd; omega
      · skip
        have x97 : ((97 : Int) ≤ (n : Int)) := by omega
        have x102 : ((n : Int) ≤ 102) := by omega
        rcases hd : dgN n with _ | _
        · rw [hd] at GB
          have hfin : hxN n = true := by unfold hxN; simp [dgN] at hd ⊢; omega
          have HF := hideT (ON.out hfin)
          clear ON OFF hfin hd hv
          go_wp2_with fail
          try rw [hn]
          refine (GB.out _).mono ?_
          rintro e w1 ⟨rfl, rfl⟩
          go_wp2
          go_round
          case rel => exact ⟨k + 1, by omega, by omega, by go_num, HF.out⟩
          case measure => simp [intOf]; omega
        · exfalso; unfold dgN at hd; simp at hd; omega
      · skip
        have x97 : ((97 : Int) ≤ (n : Int)) := by omega
        have x102 : ¬ ((n : Int) ≤ 102) := by omega
        have x65 : ((65 : Int) ≤ (n : Int)) := by omega
        have x70 : ¬ ((n : Int) ≤ 70) := by omega
        rcases hd : dgN n with _ | _
        · rw [hd] at GB
          have hfin : hxN n = false := by unfold hxN; simp [dgN] at hd ⊢; omega
          have HF := hideT (OFF.out hfin)
          clear ON OFF hfin hd hv
          go_wp2_with fail
          try rw [hn]
          refine (GB.out _).mono ?_
          rintro e w1 ⟨rfl, rfl⟩
          go_wp2
          go_ret
          rw [HF.out]
          exact ⟨rfl, rfl⟩
        · exfalso; unfold dgN at hd; simp at hd; omega
    · have hki : ¬ ((k : Int) < (s.size : Int)) := by omega
      have HE := hideT (show runE hxN S i = k by rw [← HR.out]; exact runE_off (fun c => by rw [← HL.out] at c; exact hlt c.1))
      clear HR
      go_wp2
      go_ret
      rw [HE.out]
      exact ⟨rfl, rfl⟩

set_option maxHeartbeats 4000000 in
set_option maxRecDepth 100000 in
theorem rgap_is (s : ByteArray) (S : List UInt8) (hS : s.data.toList = S) (i : Nat) (w : World) (hsz : s.size ≤ 4294967280) (hi : i ≤ s.size) : Calls Tryd.prog 52 #[.string s, .int .i64 i] w fun e w' => e = .returned (.int .i64 (gapE S 3 i : Nat)) ∧ w' = w := by
  have hy := fun k (h : k < s.size) => byS_byt h
  have hsl : s.size = S.length := by rw [← hS, Array.length_toList]; rfl
  rw [hS] at hy
  clear hS
  have HY := hideT hy
  have HL := hideT hsl
  clear hy hsl
  go_enter Tryd.func52, Tryd.ntmps52
  go_wp2
  go_loop [1] (fun v => ∃ k : Nat, i ≤ k ∧ k ≤ s.size ∧ v = .int .i64 k ∧ gapE S 3 k = gapE S 3 i) (fun v => s.size - (intOf v).toNat)
  case atStart => exact ⟨i, Nat.le_refl _, hi, rfl, rfl⟩
  case round =>
    obtain ⟨k, hik, hk, rfl, hr⟩ := hrel
    have HR := hideT hr
    clear hr
    by_cases hlt : k < s.size
    · have hki : ((k : Int) < (s.size : Int)) := by omega
      have hb := byt_of hlt
      have hyk := HY.out k hlt
      have hkl : k < S.length := by rw [← HL.out]; exact hlt
      have GB := hideT (fun W => blank_is (byt s k) W)
      rcases hf : blN (byt s k) with _ | _
      · rw [hf, hb] at GB
        by_cases h59 : byt s k = 59
        · have x59 : (((s[k]'hlt).toNat : Int) != 59) = false := by rw [← hb, h59]; rfl
          have HE := hideT (show gapE S 4 (k + 1) = gapE S 3 i by rw [← gapE_59 hkl (by rw [hyk]; exact h59)]; exact HR.out)
          have H59 := hideT h59
          clear hf hb hyk hkl HR h59
          go_wp2_with fail
          refine (GB.out _).mono ?_
          rintro e w1 ⟨rfl, rfl⟩
          clear GB
          go_wp2
          go_loop [1] (fun v => ∃ j : Nat, k ≤ j ∧ j ≤ s.size ∧ v = .int .i64 j ∧ (j = k ∨ k < j ∧ gapE S 4 j = gapE S 3 i)) (fun v => s.size - (intOf v).toNat)
          case atStart => exact ⟨k, Nat.le_refl _, hk, rfl, Or.inl rfl⟩
          case round =>
            obtain ⟨j, hkj, hj, rfl, hgj⟩ := hrel
            have HJ := hideT hgj
            clear hgj
            by_cases hjl : j < s.size
            · have hji : ((j : Int) < (s.size : Int)) := by omega
              have hbj := byt_of hjl
              have hyj := HY.out j hjl
              have hjL : j < S.length := by rw [← HL.out]; exact hjl
              by_cases h10 : byt s j = 10
              · have y10 : (((s[j]'hjl).toNat : Int) != 10) = false := by rw [← hbj, h10]; rfl
                have h4 : k < j ∧ gapE S 4 j = gapE S 3 i := by
                  rcases HJ.out with c | c
                  · exfalso; rw [c] at h10; have := H59.out; omega
                  · exact c
                have h5 := gapE_out (S := S) (k := j) (fun _ => by rw [hyj]; omega)
                have H4 := hideT (show k < j ∧ gapE S 3 j = gapE S 3 i from ⟨h4.1, by rw [← h5]; exact h4.2⟩)
                clear h4 h5 HJ hbj hyj hjL h10
                go_wp2
                go_round
                case rel => exact ⟨j, by omega, hj, rfl, H4.out.2⟩
                case measure => have := H4.out.1; simp [intOf]; omega
              by_cases h13 : byt s j = 13
              · have y13 : (((s[j]'hjl).toNat : Int) != 13) = false := by rw [← hbj, h13]; rfl
                have y10 : (((s[j]'hjl).toNat : Int) != 10) = true := by rw [← hbj, bne_iff_ne]; omega
                have h4 : k < j ∧ gapE S 4 j = gapE S 3 i := by
                  rcases HJ.out with c | c
                  · exfalso; rw [c] at h13; have := H59.out; omega
                  · exact c
                have h5 := gapE_out (S := S) (k := j) (fun _ => by rw [hyj]; omega)
                have H4 := hideT (show k < j ∧ gapE S 3 j = gapE S 3 i from ⟨h4.1, by rw [← h5]; exact h4.2⟩)
                clear h4 h5 HJ hbj hyj hjL h13 h10
                go_wp2
                go_round
                case rel => exact ⟨j, by omega, hj, rfl, H4.out.2⟩
                case measure => have := H4.out.1; simp [intOf]; omega
              have y10 : (((s[j]'hjl).toNat : Int) != 10) = true := by rw [← hbj, bne_iff_ne]; omega
              have y13 : (((s[j]'hjl).toNat : Int) != 13) = true := by rw [← hbj, bne_iff_ne]; omega
              have h4 : gapE S 4 (j + 1) = gapE S 3 i := by
                rcases HJ.out with c | ⟨_, c⟩
                · rw [c]; exact HE.out
                · rw [← gapE_in hjL (by rw [hyj]; exact h10) (by rw [hyj]; exact h13)]; exact c
              have H4 := hideT h4
              clear h4 HJ hbj hyj hjL h10 h13
              go_wp2
              go_round
              case rel => exact ⟨j + 1, by omega, by omega, by go_num, Or.inr ⟨by omega, H4.out⟩⟩
              case measure => simp [intOf]; omega
            · have hji : ¬ ((j : Int) < (s.size : Int)) := by omega
              have h4 : k < j ∧ gapE S 4 j = gapE S 3 i := by
                rcases HJ.out with c | c
                · omega
                · exact c
              have h5 := gapE_out (S := S) (k := j) (fun c => absurd c (by rw [← HL.out]; exact hjl))
              have H4 := hideT (show k < j ∧ gapE S 3 j = gapE S 3 i from ⟨h4.1, by rw [← h5]; exact h4.2⟩)
              clear h4 h5 HJ
              go_wp2
              go_round
              case rel => exact ⟨j, by omega, hj, rfl, H4.out.2⟩
              case measure => have := H4.out.1; simp [intOf]; omega
        · have x59 : (((s[k]'hlt).toNat : Int) != 59) = true := by rw [← hb, bne_iff_ne]; omega
          have HE := hideT (show gapE S 3 i = k by rw [← HR.out]; exact gapE_stop (by rw [hyk, hf]; decide) (by rw [hyk]; exact h59))
          clear hf hb hyk hkl HR h59
          go_wp2_with fail
          refine (GB.out _).mono ?_
          rintro e w1 ⟨rfl, rfl⟩
          go_wp2
          go_ret
          rw [HE.out]
          exact ⟨rfl, rfl⟩
      · rw [hf, hb] at GB
        have HE := hideT (show gapE S 3 (k + 1) = gapE S 3 i by rw [← gapE_bl hkl (by rw [hyk]; exact hf)]; exact HR.out)
        clear hf hb hyk hkl HR
        go_wp2_with fail
        refine (GB.out _).mono ?_
        rintro e w1 ⟨rfl, rfl⟩
        go_wp2
        go_round
        case rel => exact ⟨k + 1, by omega, by omega, by go_num, HE.out⟩
        case measure => simp [intOf]; omega
    · have hki : ¬ ((k : Int) < (s.size : Int)) := by omega
      have HE := hideT (show gapE S 3 i = k by rw [← HR.out]; exact gapE_off (fun c => by rw [← HL.out] at c; exact hlt c.1))
      clear HR
      go_wp2
      go_ret
      rw [HE.out]
      exact ⟨rfl, rfl⟩

end Go.Proofs.YtibeiggedmabkaaDoor
