/-
  Layer 2: the reference's Parse, of any text.
-/
import Derived.Test.YtancpkegjgmlmaaDoorWU5
import Derived.Test.YtancpkegjgmlmaaDoorWT7
import Derived.Test.YtancpkegjgmlmaaDoorWI2
namespace Go.Proofs.YtancpkegjgmlmaaDoor
open Go.RowKit
set_option linter.unusedVariables false

theorem dig_lo {c : Nat} (h : c < 48) : ¬ dval c < 10 := by unfold dval; split <;> (try split) <;> omega
theorem dig_hi {c : Nat} (h : 57 < c) : ¬ dval c < 10 := by unfold dval; split <;> (try split) <;> omega
theorem dig_ok {c : Nat} (h : ¬ c < 48) (h2 : ¬ 57 < c) : dval c < 10 := by unfold dval; rw [if_pos ⟨by omega, by omega⟩]; omega
theorem isT.val_ne {d : ByteArray} (h : isT 10 d) (h2 : byt d 0 ≠ 48) : val 10 d ≠ 0 := by
  intro e
  have k := h.isTx (by omega) (by omega)
  rw [e] at k
  have h1 : d.size = 1 := by
    rcases k.2.2.1 with h | h
    · exact h
    · have := Nat.pow_pos (n := d.size - 1) (show 0 < 10 by omega); omega
  have h3 := k.2.2.2 0 k.1
  rw [h1] at h3
  exact h2 (by rw [h3]; decide)
def Ok (t : Bool) (d : ByteArray) : Prop := isT 10 d ∧ (t = true → val 10 d ≠ 0)
/-- what the reference's Parse tells of a text d behind a sign t -/
def VP (t : Bool) (d : ByteArray) (V : Nat) (w : World) (e : Ending) (w' : World) : Prop :=
  (Ok t d → ∃ a, e = .returned (.tuple #[.agg #[.bool t, .slice a (ln V) (ln V)], .int .i64 0]) ∧ New w w' a V (ln V)) ∧
  (¬ Ok t d → e = .returned (.tuple #[.agg #[.bool false, .slice none 0 0], .int .i64 15]) ∧ Below w.heap.size w w')
theorem made_t (t : Bool) (pa : Option Addr) (V : Nat) (w : World) (hm : ln V ≤ 70368744177664) (hS : Seg w pa V (ln V)) (ht : t = true → V ≠ 0) :
    Calls Tryd.prog 20 #[.bool t, .slice pa (ln V) (ln V)] w fun e w' => ∃ a, e = .returned (.agg #[.bool t, .slice a (ln V) (ln V)]) ∧ New w w' a V (ln V) := by
  have h := made_is t pa (ln V) (ln V) V _ w hm hS rfl
  have e : ng (sg t V) = t := by
    rw [ng_sg]
    cases t
    · rfl
    · rw [decide_eq_true (Nat.pos_of_ne_zero fun e => ht rfl (ln_eq_zero.1 e))]; rfl
  rw [am_sg, e] at h
  exact h
set_option maxHeartbeats 4000000 in
set_option maxRecDepth 100000 in
theorem vParse_empty (s : ByteArray) (w : World) (hs : s.size ≤ 140737488355328) (hz : s.size = 0) (V : Nat) (hV : val 10 s = V) : Calls Tryd.prog 8 #[.string s] w (VP false s V w) := by
  have hx : s.extract 0 s.size = s := by
    refine ba_ext (by rw [ByteArray.size_extract]; omega) fun j hj => ?_
    rw [ByteArray.size_extract] at hj
    rw [byt_extract (Nat.le_refl _) (by omega), Nat.zero_add]
  have hn : ¬ Ok false s := fun h => by have := h.1.1; omega
  have z1 : (s.size : Int) = 0 := by omega
  have z2 : ((s.size : Int) == 0) = true := by rw [z1]; rfl
  have z3 : ¬ ((0 : Int) < (s.size : Int)) := by omega
  have HN := hide' hn
  clear hn
  go_enter Tryd.func8, Tryd.ntmps8
  go_wp2_with fail
  obtain ⟨W, hW⟩ : ∃ W, (w.alloc (.cells #[.bool false, .slice none 0 0] 25)) = W := ⟨_, rfl⟩
  have r00 : W.cell? ⟨w.heap.size, 0, none⟩ = some (.bool false) := by subst hW; go_simp
  have r01 : W.cell? ⟨w.heap.size, 1, none⟩ = some (.slice none 0 0) := by subst hW; go_simp
  have hB : Below w.heap.size w W := by subst hW; exact ((Below.refl _ _).alloc (by (try simp only [World.size_alloc]); omega) _)
  have hR0 : Row W (w.heap.size) := by
    have := row_new (w) #[.bool false, .slice none 0 0] 25
    try simp only [World.size_alloc] at this
    subst hW; exact this
  have hz : W.heap.size = w.heap.size + 1 := by subst hW; simp only [World.size_alloc]
  rw [hW]
  clear hW
  have hBW : Below W.heap.size W W := Below.refl _ _
  have fz0 := fun o => hR0.frozen o
  go_wp2
  all_goals refine bodyPost_ret (v := .tuple #[.agg #[.bool false, .slice none 0 0], .int .i64 15]) (by rw [results_ctU rfl]; go_simp) rfl ?_
  all_goals exact ⟨fun h => absurd h HN.out, fun _ => ⟨rfl, by first | exact hB.trans (hBW.mono hB.size) | exact ((bsetU (bsetU (hB.trans (hBW.mono hB.size)) (by omega)) (by omega)))⟩⟩

set_option maxHeartbeats 4000000 in
set_option maxRecDepth 100000 in
theorem vParse_lead (s : ByteArray) (w : World) (hs : s.size ≤ 140737488355328) (h1 : 1 < s.size) (hz : byt s 0 = 48) (V : Nat) (hV : val 10 s = V) : Calls Tryd.prog 8 #[.string s] w (VP false s V w) := by
  have hx : s.extract 0 s.size = s := by
    refine ba_ext (by rw [ByteArray.size_extract]; omega) fun j hj => ?_
    rw [ByteArray.size_extract] at hj
    rw [byt_extract (Nat.le_refl _) (by omega), Nat.zero_add]
  have hm : ¬ (0 < s.size ∧ byt s 0 = 45) := fun h => by omega
  have h0 : 0 < s.size := by omega
  have hm1 : ∀ h0 : 0 < s.size, (((s[0]'h0).toNat : Int) == 45) = false := fun h0 => by rw [← byt_of h0, beq_eq_false_iff_ne]; intro e; exact hm ⟨h0, by omega⟩
  have hm2 := hm1 h0
  have hn : ¬ Ok false s := fun h => h.1.2.1 h1 hz
  have h0i : (0 : Int) < (s.size : Int) := by omega
  have h1i : (1 : Int) < (s.size : Int) := by omega
  have hx2 : (((s[0]'h0).toNat : Int) == 48) = true := by rw [← byt_of h0, hz]; rfl
  have z2 : ((s.size : Int) == 0) = false := by rw [beq_eq_false_iff_ne]; omega
  clear hm1 hm
  have HN := hide' hn
  clear hn
  go_enter Tryd.func8, Tryd.ntmps8
  go_wp2_with fail
  obtain ⟨W, hW⟩ : ∃ W, (w.alloc (.cells #[.bool false, .slice none 0 0] 25)) = W := ⟨_, rfl⟩
  have r00 : W.cell? ⟨w.heap.size, 0, none⟩ = some (.bool false) := by subst hW; go_simp
  have r01 : W.cell? ⟨w.heap.size, 1, none⟩ = some (.slice none 0 0) := by subst hW; go_simp
  have hB : Below w.heap.size w W := by subst hW; exact ((Below.refl _ _).alloc (by (try simp only [World.size_alloc]); omega) _)
  have hR0 : Row W (w.heap.size) := by
    have := row_new (w) #[.bool false, .slice none 0 0] 25
    try simp only [World.size_alloc] at this
    subst hW; exact this
  have hz : W.heap.size = w.heap.size + 1 := by subst hW; simp only [World.size_alloc]
  rw [hW]
  clear hW
  have hBW : Below W.heap.size W W := Below.refl _ _
  have fz0 := fun o => hR0.frozen o
  go_wp2
  all_goals refine bodyPost_ret (v := .tuple #[.agg #[.bool false, .slice none 0 0], .int .i64 15]) (by rw [results_ctU rfl]; go_simp) rfl ?_
  all_goals exact ⟨fun h => absurd h HN.out, fun _ => ⟨rfl, by first | exact hB.trans (hBW.mono hB.size) | exact ((bsetU (bsetU (hB.trans (hBW.mono hB.size)) (by omega)) (by omega)))⟩⟩

set_option maxHeartbeats 4000000 in
set_option maxRecDepth 100000 in
theorem vParse_mempty (s : ByteArray) (w : World) (hs : s.size ≤ 140737488355328) (h0 : 0 < s.size) (hm : byt s 0 = 45) (hz : (s.extract 1 s.size).size = 0) (V : Nat) (hV : val 10 (s.extract 1 s.size) = V) : Calls Tryd.prog 8 #[.string s] w (VP true (s.extract 1 s.size) V w) := by
  have hm1 : (((s[0]'h0).toNat : Int) == 45) = true := by rw [← byt_of h0, hm]; rfl
  have h0i : (0 : Int) < (s.size : Int) := by omega
  obtain ⟨d, hx⟩ : ∃ d, s.extract 1 s.size = d := ⟨_, rfl⟩
  rw [hx] at hz hV ⊢
  have hn : ¬ Ok true d := fun h => by have := h.1.1; omega
  have z1 : (d.size : Int) = 0 := by omega
  have z2 : ((d.size : Int) == 0) = true := by rw [z1]; rfl
  have h1i : (1 : Int) ≤ (s.size : Int) := by omega
  have h1n : 1 ≤ s.size := h0
  clear hm
  have HN := hide' hn
  clear hn
  go_enter Tryd.func8, Tryd.ntmps8
  go_wp2_with fail
  obtain ⟨W, hW⟩ : ∃ W, (w.alloc (.cells #[.bool false, .slice none 0 0] 25)) = W := ⟨_, rfl⟩
  have r00 : W.cell? ⟨w.heap.size, 0, none⟩ = some (.bool false) := by subst hW; go_simp
  have r01 : W.cell? ⟨w.heap.size, 1, none⟩ = some (.slice none 0 0) := by subst hW; go_simp
  have hB : Below w.heap.size w W := by subst hW; exact ((Below.refl _ _).alloc (by (try simp only [World.size_alloc]); omega) _)
  have hR0 : Row W (w.heap.size) := by
    have := row_new (w) #[.bool false, .slice none 0 0] 25
    try simp only [World.size_alloc] at this
    subst hW; exact this
  have hz : W.heap.size = w.heap.size + 1 := by subst hW; simp only [World.size_alloc]
  rw [hW]
  clear hW
  have hBW : Below W.heap.size W W := Below.refl _ _
  have fz0 := fun o => hR0.frozen o
  go_wp2
  all_goals refine bodyPost_ret (v := .tuple #[.agg #[.bool false, .slice none 0 0], .int .i64 15]) (by rw [results_ctU rfl]; go_simp) rfl ?_
  all_goals exact ⟨fun h => absurd h HN.out, fun _ => ⟨rfl, by first | exact hB.trans (hBW.mono hB.size) | exact ((bsetU (bsetU (hB.trans (hBW.mono hB.size)) (by omega)) (by omega)))⟩⟩

set_option maxHeartbeats 4000000 in
set_option maxRecDepth 100000 in
theorem vParse_mlead (s : ByteArray) (w : World) (hs : s.size ≤ 140737488355328) (h0 : 0 < s.size) (hm : byt s 0 = 45) (hd : 0 < (s.extract 1 s.size).size) (hz : byt (s.extract 1 s.size) 0 = 48) (V : Nat) (hV : val 10 (s.extract 1 s.size) = V) : Calls Tryd.prog 8 #[.string s] w (VP true (s.extract 1 s.size) V w) := by
  have hm1 : (((s[0]'h0).toNat : Int) == 45) = true := by rw [← byt_of h0, hm]; rfl
  have h0i : (0 : Int) < (s.size : Int) := by omega
  have h1 : 1 < s.size := by rw [ByteArray.size_extract] at hd; omega
  obtain ⟨d, hx⟩ : ∃ d, s.extract 1 s.size = d := ⟨_, rfl⟩
  rw [hx] at hz hd hV ⊢
  have hn : ¬ Ok true d := fun h => by
    by_cases h1 : 1 < d.size
    · exact h.1.2.1 h1 hz
    · apply h.2 rfl
      have e : d.size = 1 := by omega
      unfold val
      rw [e]
      simp [tvr, hz, dval]
  have hx2 : (((d[0]'hd).toNat : Int) == 48) = true := by rw [← byt_of hd, hz]; rfl
  have z2 : ((d.size : Int) == 0) = false := by rw [beq_eq_false_iff_ne]; omega
  have h1i : (1 : Int) < (s.size : Int) := by omega
  have h1j : (1 : Int) ≤ (s.size : Int) := by omega
  have h1n : 1 ≤ s.size := h0
  have hdi : (0 : Int) < (d.size : Int) := by omega
  clear hm
  have HN := hide' hn
  clear hn
  go_enter Tryd.func8, Tryd.ntmps8
  go_wp2_with fail
  obtain ⟨W, hW⟩ : ∃ W, (w.alloc (.cells #[.bool false, .slice none 0 0] 25)) = W := ⟨_, rfl⟩
  have r00 : W.cell? ⟨w.heap.size, 0, none⟩ = some (.bool false) := by subst hW; go_simp
  have r01 : W.cell? ⟨w.heap.size, 1, none⟩ = some (.slice none 0 0) := by subst hW; go_simp
  have hB : Below w.heap.size w W := by subst hW; exact ((Below.refl _ _).alloc (by (try simp only [World.size_alloc]); omega) _)
  have hR0 : Row W (w.heap.size) := by
    have := row_new (w) #[.bool false, .slice none 0 0] 25
    try simp only [World.size_alloc] at this
    subst hW; exact this
  have hz : W.heap.size = w.heap.size + 1 := by subst hW; simp only [World.size_alloc]
  rw [hW]
  clear hW
  have hBW : Below W.heap.size W W := Below.refl _ _
  have fz0 := fun o => hR0.frozen o
  go_wp2
  all_goals refine bodyPost_ret (v := .tuple #[.agg #[.bool false, .slice none 0 0], .int .i64 15]) (by rw [results_ctU rfl]; go_simp) rfl ?_
  all_goals exact ⟨fun h => absurd h HN.out, fun _ => ⟨rfl, by first | exact hB.trans (hBW.mono hB.size) | exact ((bsetU (bsetU (hB.trans (hBW.mono hB.size)) (by omega)) (by omega)))⟩⟩

set_option maxHeartbeats 4000000 in
set_option maxRecDepth 100000 in
theorem vParse_ne (s : ByteArray) (w : World) (hs : s.size ≤ 140737488355328) (hm : ¬ (0 < s.size ∧ byt s 0 = 45)) (h0 : 0 < s.size) (hz : byt s 0 ≠ 48) (V : Nat) (hV : val 10 s = V) : Calls Tryd.prog 8 #[.string s] w (VP false s V w) := by
  have hx : s.extract 0 s.size = s := by
    refine ba_ext (by rw [ByteArray.size_extract]; omega) fun j hj => ?_
    rw [ByteArray.size_extract] at hj
    rw [byt_extract (Nat.le_refl _) (by omega), Nat.zero_add]
  have hm1 : ∀ h0 : 0 < s.size, (((s[0]'h0).toNat : Int) == 45) = false := fun h0 => by rw [← byt_of h0, beq_eq_false_iff_ne]; intro e; exact hm ⟨h0, by omega⟩
  have hm2 := hm1 h0
  have h0i : (0 : Int) < (s.size : Int) := by omega
  have hx2 : (((s[0]'h0).toNat : Int) == 48) = false := by rw [← byt_of h0, beq_eq_false_iff_ne]; omega
  have z2 : ((s.size : Int) == 0) = false := by rw [beq_eq_false_iff_ne]; omega
  have hgo : isT 10 s → Ok false s := fun k => ⟨k, fun h => by cases h⟩
  have hld : 1 < s.size → byt s 0 ≠ 48 := fun _ => hz
  have hds : s.size ≤ s.size := Nat.le_refl _
  have hdp := h0
  clear hm1 hm
  have HV := hide' hV
  have HG := hide' hgo
  have HL := hide' hld
  have HP := hide' (fun w' => rParse_any s 10 (by omega) (by omega) (by omega) w')
  clear hgo hld hV
  go_enter Tryd.func8, Tryd.ntmps8
  go_wp2_with fail
  obtain ⟨W, hW⟩ : ∃ W, (w.alloc (.cells #[.bool false, .slice none 0 0] 25)) = W := ⟨_, rfl⟩
  have r00 : W.cell? ⟨w.heap.size, 0, none⟩ = some (.bool false) := by subst hW; go_simp
  have r01 : W.cell? ⟨w.heap.size, 1, none⟩ = some (.slice none 0 0) := by subst hW; go_simp
  have hB : Below w.heap.size w W := by subst hW; exact ((Below.refl _ _).alloc (by (try simp only [World.size_alloc]); omega) _)
  have hR0 : Row W (w.heap.size) := by
    have := row_new (w) #[.bool false, .slice none 0 0] 25
    try simp only [World.size_alloc] at this
    subst hW; exact this
  have hz : W.heap.size = w.heap.size + 1 := by subst hW; simp only [World.size_alloc]
  rw [hW]
  clear hW
  have hBW : Below W.heap.size W W := Below.refl _ _
  go_loopw [6] (fun i wr => ∃ k : Nat, k ≤ s.size ∧ i = .int .i64 k ∧ Below W.heap.size W wr ∧ ∀ j, j < k → dval (byt s j) < 10) (fun i _ => s.size - (intOf i).toNat)
  case atStart => exact ⟨0, Nat.zero_le _, rfl, Below.refl _ _, fun j hj => absurd hj (by omega)⟩
  case round =>
    obtain ⟨k, hk, rfl, b41, hj⟩ := hrel
    have HJ := hide' hj
    clear hj
    replace hBW := hBW.trans (b41.mono hBW.size)
    replace r00 := below_cell b41 r00
    replace r01 := below_cell b41 r01
    replace hR0 := below_row b41 hR0
    by_cases hlt : k < s.size
    · have hki : ((k : Int) < (s.size : Int)) := by omega
      have ek := byt_of hlt
      by_cases c1 : byt s k < 48
      · have hn : ¬ Ok false s := fun h => dig_lo c1 (h.1.2.2 k hlt)
        have HN := hide' hn
        have c2 : ((s[k]'hlt).toNat : Int) < 48 := by rw [← ek]; omega
        clear hn
        have fz0 := fun o => hR0.frozen o
        go_wp2
        all_goals refine bodyPost_ret (v := .tuple #[.agg #[.bool false, .slice none 0 0], .int .i64 15]) (by rw [results_ctU rfl]; go_simp) rfl ?_
        all_goals exact ⟨fun h => absurd h HN.out, fun _ => ⟨rfl, by first | exact hB.trans (hBW.mono hB.size) | exact ((bsetU (bsetU (hB.trans (hBW.mono hB.size)) (by omega)) (by omega)))⟩⟩
      · have c2 : ¬ (((s[k]'hlt).toNat : Int) < 48) := by rw [← ek]; omega
        by_cases c3 : 57 < byt s k
        · have hn : ¬ Ok false s := fun h => dig_hi c3 (h.1.2.2 k hlt)
          have HN := hide' hn
          have c4 : (57 : Int) < ((s[k]'hlt).toNat : Int) := by rw [← ek]; omega
          clear hn
          have fz0 := fun o => hR0.frozen o
          go_wp2
          all_goals refine bodyPost_ret (v := .tuple #[.agg #[.bool false, .slice none 0 0], .int .i64 15]) (by rw [results_ctU rfl]; go_simp) rfl ?_
          all_goals exact ⟨fun h => absurd h HN.out, fun _ => ⟨rfl, by first | exact hB.trans (hBW.mono hB.size) | exact ((bsetU (bsetU (hB.trans (hBW.mono hB.size)) (by omega)) (by omega)))⟩⟩
        · have c4 : ¬ ((57 : Int) < ((s[k]'hlt).toNat : Int)) := by rw [← ek]; omega
          have hv := dig_ok c1 c3
          go_wp2
          go_roundw
          case rel => exact ⟨k + 1, by omega, by go_num, hBW, fun j hj => by
            by_cases e : j = k
            · rw [e]; exact hv
            · exact HJ.out j (by omega)⟩
          case measure => simp [intOf]; omega
    · have e : k = s.size := by omega
      subst e
      have hT : isT 10 s := ⟨hdp, HL.out, HJ.out⟩
      have hne := HG.out hT
      have H2' := fun w' => (HP.out w').mono fun e w'' h => (⟨(h.1 hT).choose, (h.1 hT).choose_spec.1, (h.1 hT).choose_spec.2, h.2.2⟩ : ∃ a, e = Ending.returned (Value.tuple #[Value.slice a (ln (val 10 s)) (ln (val 10 s)), Value.int .i64 0]) ∧ Seg w'' a (val 10 s) (ln (val 10 s)) ∧ Below w'.heap.size w' w'')
      have hln : ln (val 10 s) ≤ s.size / 8 + 1 := ln_le_of_lt (Nat.lt_trans (val_lt hT.2.2) (lt8 (by omega)))
      have HY := hide' hne
      have hnz : false = true → V ≠ 0 := by rw [← HV.out]; exact hne.2
      rw [HV.out] at H2' hln
      have H2 := hide' H2'
      have HNE := hide' hnz
      clear H2' hT hne hnz HP HJ HL HG
      go_wp2_with fail
      refine (H2.out _).mono ?_
      rintro e w42 ⟨pa, rfl, sp, b42⟩
      replace hBW := hBW.trans (b42.mono hBW.size)
      replace r00 := below_cell b42 r00
      replace r01 := below_cell b42 r01
      replace hR0 := below_row b42 hR0
      go_wp2_with fail
      refine (made_t false pa V _ (by omega) sp (by intro h; first | exact HNE.out h | exact HNE.out trivial)).mono ?_
      rintro e w43 ⟨p43, rfl, hp43⟩
      have b43 := hp43.below
      replace hp43 := hp43.back hBW
      replace hBW := hBW.trans (b43.mono hBW.size)
      replace r00 := below_cell b43 r00
      replace r01 := below_cell b43 r01
      replace hR0 := below_row b43 hR0
      have fz0 := fun o => hR0.frozen o
      go_wp2
      all_goals refine bodyPost_ret (v := .tuple #[.agg #[.bool false, .slice p43 (ln V) (ln V)], .int .i64 0]) (by rw [results_ctU rfl]; go_simp) rfl ?_
      all_goals exact ⟨fun _ => ⟨p43, rfl, hp43.mid hB ((((Mid.refl _ _ _).set _ _ (by omega) (by omega) _).set _ _ (by omega) (by omega) _))⟩, fun h => absurd HY.out h⟩

set_option maxHeartbeats 4000000 in
set_option maxRecDepth 100000 in
theorem vParse_zero (s : ByteArray) (w : World) (hs : s.size ≤ 140737488355328) (h1 : s.size = 1) (hz : byt s 0 = 48) (V : Nat) (hV : val 10 s = V) : Calls Tryd.prog 8 #[.string s] w (VP false s V w) := by
  have hx : s.extract 0 s.size = s := by
    refine ba_ext (by rw [ByteArray.size_extract]; omega) fun j hj => ?_
    rw [ByteArray.size_extract] at hj
    rw [byt_extract (Nat.le_refl _) (by omega), Nat.zero_add]
  have h0 : 0 < s.size := by omega
  have hm : ¬ (0 < s.size ∧ byt s 0 = 45) := fun h => by omega
  have hm1 : ∀ h0 : 0 < s.size, (((s[0]'h0).toNat : Int) == 45) = false := fun h0 => by rw [← byt_of h0, beq_eq_false_iff_ne]; intro e; exact hm ⟨h0, by omega⟩
  have hm2 := hm1 h0
  have h0i : (0 : Int) < (s.size : Int) := by omega
  have hx2 : (((s[0]'h0).toNat : Int) == 48) = true := by rw [← byt_of h0, hz]; rfl
  have z2 : ((s.size : Int) == 0) = false := by rw [beq_eq_false_iff_ne]; omega
  have h1i : ¬ ((1 : Int) < (s.size : Int)) := by omega
  have h1d : decide ((1 : Int) < (s.size : Int)) = false := by rw [decide_eq_false_iff_not]; omega
  have hgo : isT 10 s → Ok false s := fun k => ⟨k, fun h => by cases h⟩
  have hld : 1 < s.size → byt s 0 ≠ 48 := fun h => by omega
  have hds : s.size ≤ s.size := Nat.le_refl _
  have hdp := h0
  clear hm1 hm h1
  have HV := hide' hV
  have HG := hide' hgo
  have HL := hide' hld
  have HP := hide' (fun w' => rParse_any s 10 (by omega) (by omega) (by omega) w')
  clear hgo hld hV
  go_enter Tryd.func8, Tryd.ntmps8
  go_wp2_with fail
  obtain ⟨W, hW⟩ : ∃ W, (w.alloc (.cells #[.bool false, .slice none 0 0] 25)) = W := ⟨_, rfl⟩
  have r00 : W.cell? ⟨w.heap.size, 0, none⟩ = some (.bool false) := by subst hW; go_simp
  have r01 : W.cell? ⟨w.heap.size, 1, none⟩ = some (.slice none 0 0) := by subst hW; go_simp
  have hB : Below w.heap.size w W := by subst hW; exact ((Below.refl _ _).alloc (by (try simp only [World.size_alloc]); omega) _)
  have hR0 : Row W (w.heap.size) := by
    have := row_new (w) #[.bool false, .slice none 0 0] 25
    try simp only [World.size_alloc] at this
    subst hW; exact this
  have hz : W.heap.size = w.heap.size + 1 := by subst hW; simp only [World.size_alloc]
  rw [hW]
  clear hW
  have hBW : Below W.heap.size W W := Below.refl _ _
  go_loopw [6] (fun i wr => ∃ k : Nat, k ≤ s.size ∧ i = .int .i64 k ∧ Below W.heap.size W wr ∧ ∀ j, j < k → dval (byt s j) < 10) (fun i _ => s.size - (intOf i).toNat)
  case atStart => exact ⟨0, Nat.zero_le _, rfl, Below.refl _ _, fun j hj => absurd hj (by omega)⟩
  case round =>
    obtain ⟨k, hk, rfl, b41, hj⟩ := hrel
    have HJ := hide' hj
    clear hj
    replace hBW := hBW.trans (b41.mono hBW.size)
    replace r00 := below_cell b41 r00
    replace r01 := below_cell b41 r01
    replace hR0 := below_row b41 hR0
    by_cases hlt : k < s.size
    · have hki : ((k : Int) < (s.size : Int)) := by omega
      have ek := byt_of hlt
      by_cases c1 : byt s k < 48
      · have hn : ¬ Ok false s := fun h => dig_lo c1 (h.1.2.2 k hlt)
        have HN := hide' hn
        have c2 : ((s[k]'hlt).toNat : Int) < 48 := by rw [← ek]; omega
        clear hn
        have fz0 := fun o => hR0.frozen o
        go_wp2
        all_goals refine bodyPost_ret (v := .tuple #[.agg #[.bool false, .slice none 0 0], .int .i64 15]) (by rw [results_ctU rfl]; go_simp) rfl ?_
        all_goals exact ⟨fun h => absurd h HN.out, fun _ => ⟨rfl, by first | exact hB.trans (hBW.mono hB.size) | exact ((bsetU (bsetU (hB.trans (hBW.mono hB.size)) (by omega)) (by omega)))⟩⟩
      · have c2 : ¬ (((s[k]'hlt).toNat : Int) < 48) := by rw [← ek]; omega
        by_cases c3 : 57 < byt s k
        · have hn : ¬ Ok false s := fun h => dig_hi c3 (h.1.2.2 k hlt)
          have HN := hide' hn
          have c4 : (57 : Int) < ((s[k]'hlt).toNat : Int) := by rw [← ek]; omega
          clear hn
          have fz0 := fun o => hR0.frozen o
          go_wp2
          all_goals refine bodyPost_ret (v := .tuple #[.agg #[.bool false, .slice none 0 0], .int .i64 15]) (by rw [results_ctU rfl]; go_simp) rfl ?_
          all_goals exact ⟨fun h => absurd h HN.out, fun _ => ⟨rfl, by first | exact hB.trans (hBW.mono hB.size) | exact ((bsetU (bsetU (hB.trans (hBW.mono hB.size)) (by omega)) (by omega)))⟩⟩
        · have c4 : ¬ ((57 : Int) < ((s[k]'hlt).toNat : Int)) := by rw [← ek]; omega
          have hv := dig_ok c1 c3
          go_wp2
          go_roundw
          case rel => exact ⟨k + 1, by omega, by go_num, hBW, fun j hj => by
            by_cases e : j = k
            · rw [e]; exact hv
            · exact HJ.out j (by omega)⟩
          case measure => simp [intOf]; omega
    · have e : k = s.size := by omega
      subst e
      have hT : isT 10 s := ⟨hdp, HL.out, HJ.out⟩
      have hne := HG.out hT
      have H2' := fun w' => (HP.out w').mono fun e w'' h => (⟨(h.1 hT).choose, (h.1 hT).choose_spec.1, (h.1 hT).choose_spec.2, h.2.2⟩ : ∃ a, e = Ending.returned (Value.tuple #[Value.slice a (ln (val 10 s)) (ln (val 10 s)), Value.int .i64 0]) ∧ Seg w'' a (val 10 s) (ln (val 10 s)) ∧ Below w'.heap.size w' w'')
      have hln : ln (val 10 s) ≤ s.size / 8 + 1 := ln_le_of_lt (Nat.lt_trans (val_lt hT.2.2) (lt8 (by omega)))
      have HY := hide' hne
      have hnz : false = true → V ≠ 0 := by rw [← HV.out]; exact hne.2
      rw [HV.out] at H2' hln
      have H2 := hide' H2'
      have HNE := hide' hnz
      clear H2' hT hne hnz HP HJ HL HG
      go_wp2_with fail
      refine (H2.out _).mono ?_
      rintro e w42 ⟨pa, rfl, sp, b42⟩
      replace hBW := hBW.trans (b42.mono hBW.size)
      replace r00 := below_cell b42 r00
      replace r01 := below_cell b42 r01
      replace hR0 := below_row b42 hR0
      go_wp2_with fail
      refine (made_t false pa V _ (by omega) sp (by intro h; first | exact HNE.out h | exact HNE.out trivial)).mono ?_
      rintro e w43 ⟨p43, rfl, hp43⟩
      have b43 := hp43.below
      replace hp43 := hp43.back hBW
      replace hBW := hBW.trans (b43.mono hBW.size)
      replace r00 := below_cell b43 r00
      replace r01 := below_cell b43 r01
      replace hR0 := below_row b43 hR0
      have fz0 := fun o => hR0.frozen o
      go_wp2
      all_goals refine bodyPost_ret (v := .tuple #[.agg #[.bool false, .slice p43 (ln V) (ln V)], .int .i64 0]) (by rw [results_ctU rfl]; go_simp) rfl ?_
      all_goals exact ⟨fun _ => ⟨p43, rfl, hp43.mid hB ((((Mid.refl _ _ _).set _ _ (by omega) (by omega) _).set _ _ (by omega) (by omega) _))⟩, fun h => absurd HY.out h⟩

set_option maxHeartbeats 4000000 in
set_option maxRecDepth 100000 in
theorem vParse_mne (s : ByteArray) (w : World) (hs : s.size ≤ 140737488355328) (h0 : 0 < s.size) (hm : byt s 0 = 45) (hdp : 0 < (s.extract 1 s.size).size) (hz : byt (s.extract 1 s.size) 0 ≠ 48) (V : Nat) (hV : val 10 (s.extract 1 s.size) = V) : Calls Tryd.prog 8 #[.string s] w (VP true (s.extract 1 s.size) V w) := by
  have hm1 : (((s[0]'h0).toNat : Int) == 45) = true := by rw [← byt_of h0, hm]; rfl
  have h0i : (0 : Int) < (s.size : Int) := by omega
  have hds : (s.extract 1 s.size).size ≤ s.size := by rw [ByteArray.size_extract]; omega
  obtain ⟨d, hx⟩ : ∃ d, s.extract 1 s.size = d := ⟨_, rfl⟩
  rw [hx] at hz hdp hds hV ⊢
  have h1j : (1 : Int) ≤ (s.size : Int) := by omega
  have h1n : 1 ≤ s.size := h0
  have hdi : (0 : Int) < (d.size : Int) := by omega
  have hx2 : (((d[0]'hdp).toNat : Int) == 48) = false := by rw [← byt_of hdp, beq_eq_false_iff_ne]; omega
  have z2 : ((d.size : Int) == 0) = false := by rw [beq_eq_false_iff_ne]; omega
  have hgo : isT 10 d → Ok true d := fun h => ⟨h, fun _ => h.val_ne hz⟩
  have hld : 1 < d.size → byt d 0 ≠ 48 := fun _ => hz
  clear hm
  have HV := hide' hV
  have HG := hide' hgo
  have HL := hide' hld
  have HP := hide' (fun w' => rParse_any d 10 (by omega) (by omega) (by omega) w')
  clear hgo hld hV
  go_enter Tryd.func8, Tryd.ntmps8
  go_wp2_with fail
  obtain ⟨W, hW⟩ : ∃ W, (w.alloc (.cells #[.bool false, .slice none 0 0] 25)) = W := ⟨_, rfl⟩
  have r00 : W.cell? ⟨w.heap.size, 0, none⟩ = some (.bool false) := by subst hW; go_simp
  have r01 : W.cell? ⟨w.heap.size, 1, none⟩ = some (.slice none 0 0) := by subst hW; go_simp
  have hB : Below w.heap.size w W := by subst hW; exact ((Below.refl _ _).alloc (by (try simp only [World.size_alloc]); omega) _)
  have hR0 : Row W (w.heap.size) := by
    have := row_new (w) #[.bool false, .slice none 0 0] 25
    try simp only [World.size_alloc] at this
    subst hW; exact this
  have hz : W.heap.size = w.heap.size + 1 := by subst hW; simp only [World.size_alloc]
  rw [hW]
  clear hW
  have hBW : Below W.heap.size W W := Below.refl _ _
  go_loopw [6] (fun i wr => ∃ k : Nat, k ≤ d.size ∧ i = .int .i64 k ∧ Below W.heap.size W wr ∧ ∀ j, j < k → dval (byt d j) < 10) (fun i _ => d.size - (intOf i).toNat)
  case atStart => exact ⟨0, Nat.zero_le _, rfl, Below.refl _ _, fun j hj => absurd hj (by omega)⟩
  case round =>
    obtain ⟨k, hk, rfl, b41, hj⟩ := hrel
    have HJ := hide' hj
    clear hj
    replace hBW := hBW.trans (b41.mono hBW.size)
    replace r00 := below_cell b41 r00
    replace r01 := below_cell b41 r01
    replace hR0 := below_row b41 hR0
    by_cases hlt : k < d.size
    · have hki : ((k : Int) < (d.size : Int)) := by omega
      have ek := byt_of hlt
      by_cases c1 : byt d k < 48
      · have hn : ¬ Ok true d := fun h => dig_lo c1 (h.1.2.2 k hlt)
        have HN := hide' hn
        have c2 : ((d[k]'hlt).toNat : Int) < 48 := by rw [← ek]; omega
        clear hn
        have fz0 := fun o => hR0.frozen o
        go_wp2
        all_goals refine bodyPost_ret (v := .tuple #[.agg #[.bool false, .slice none 0 0], .int .i64 15]) (by rw [results_ctU rfl]; go_simp) rfl ?_
        all_goals exact ⟨fun h => absurd h HN.out, fun _ => ⟨rfl, by first | exact hB.trans (hBW.mono hB.size) | exact ((bsetU (bsetU (hB.trans (hBW.mono hB.size)) (by omega)) (by omega)))⟩⟩
      · have c2 : ¬ (((d[k]'hlt).toNat : Int) < 48) := by rw [← ek]; omega
        by_cases c3 : 57 < byt d k
        · have hn : ¬ Ok true d := fun h => dig_hi c3 (h.1.2.2 k hlt)
          have HN := hide' hn
          have c4 : (57 : Int) < ((d[k]'hlt).toNat : Int) := by rw [← ek]; omega
          clear hn
          have fz0 := fun o => hR0.frozen o
          go_wp2
          all_goals refine bodyPost_ret (v := .tuple #[.agg #[.bool false, .slice none 0 0], .int .i64 15]) (by rw [results_ctU rfl]; go_simp) rfl ?_
          all_goals exact ⟨fun h => absurd h HN.out, fun _ => ⟨rfl, by first | exact hB.trans (hBW.mono hB.size) | exact ((bsetU (bsetU (hB.trans (hBW.mono hB.size)) (by omega)) (by omega)))⟩⟩
        · have c4 : ¬ ((57 : Int) < ((d[k]'hlt).toNat : Int)) := by rw [← ek]; omega
          have hv := dig_ok c1 c3
          go_wp2
          go_roundw
          case rel => exact ⟨k + 1, by omega, by go_num, hBW, fun j hj => by
            by_cases e : j = k
            · rw [e]; exact hv
            · exact HJ.out j (by omega)⟩
          case measure => simp [intOf]; omega
    · have e : k = d.size := by omega
      subst e
      have hT : isT 10 d := ⟨hdp, HL.out, HJ.out⟩
      have hne := HG.out hT
      have H2' := fun w' => (HP.out w').mono fun e w'' h => (⟨(h.1 hT).choose, (h.1 hT).choose_spec.1, (h.1 hT).choose_spec.2, h.2.2⟩ : ∃ a, e = Ending.returned (Value.tuple #[Value.slice a (ln (val 10 d)) (ln (val 10 d)), Value.int .i64 0]) ∧ Seg w'' a (val 10 d) (ln (val 10 d)) ∧ Below w'.heap.size w' w'')
      have hln : ln (val 10 d) ≤ d.size / 8 + 1 := ln_le_of_lt (Nat.lt_trans (val_lt hT.2.2) (lt8 (by omega)))
      have HY := hide' hne
      have hnz : true = true → V ≠ 0 := by rw [← HV.out]; exact hne.2
      rw [HV.out] at H2' hln
      have H2 := hide' H2'
      have HNE := hide' hnz
      clear H2' hT hne hnz HP HJ HL HG
      go_wp2_with fail
      refine (H2.out _).mono ?_
      rintro e w42 ⟨pa, rfl, sp, b42⟩
      replace hBW := hBW.trans (b42.mono hBW.size)
      replace r00 := below_cell b42 r00
      replace r01 := below_cell b42 r01
      replace hR0 := below_row b42 hR0
      go_wp2_with fail
      refine (made_t true pa V _ (by omega) sp (by intro h; first | exact HNE.out h | exact HNE.out trivial)).mono ?_
      rintro e w43 ⟨p43, rfl, hp43⟩
      have b43 := hp43.below
      replace hp43 := hp43.back hBW
      replace hBW := hBW.trans (b43.mono hBW.size)
      replace r00 := below_cell b43 r00
      replace r01 := below_cell b43 r01
      replace hR0 := below_row b43 hR0
      have fz0 := fun o => hR0.frozen o
      go_wp2
      all_goals refine bodyPost_ret (v := .tuple #[.agg #[.bool true, .slice p43 (ln V) (ln V)], .int .i64 0]) (by rw [results_ctU rfl]; go_simp) rfl ?_
      all_goals exact ⟨fun _ => ⟨p43, rfl, hp43.mid hB ((((Mid.refl _ _ _).set _ _ (by omega) (by omega) _).set _ _ (by omega) (by omega) _))⟩, fun h => absurd HY.out h⟩

/-- a text with a number's reading, and one without -/
theorem vParse_any (s : ByteArray) (w : World) (hs : s.size ≤ 140737488355328) :
    Calls Tryd.prog 8 #[.string s] w fun e w' => (0 < s.size ∧ byt s 0 = 45 → VP true (s.extract 1 s.size) (val 10 (s.extract 1 s.size)) w e w') ∧ (¬ (0 < s.size ∧ byt s 0 = 45) → VP false s (val 10 s) w e w') := by
  by_cases hm : 0 < s.size ∧ byt s 0 = 45
  · have h : Calls Tryd.prog 8 #[.string s] w (VP true (s.extract 1 s.size) (val 10 (s.extract 1 s.size)) w) := by
      by_cases h0 : (s.extract 1 s.size).size = 0
      · exact vParse_mempty s w hs hm.1 hm.2 h0 _ rfl
      · by_cases hz : byt (s.extract 1 s.size) 0 = 48
        · exact vParse_mlead s w hs hm.1 hm.2 (by omega) hz _ rfl
        · exact vParse_mne s w hs hm.1 hm.2 (by omega) hz _ rfl
    exact h.mono fun e w' k => ⟨fun _ => k, fun h => absurd hm h⟩
  · have h : Calls Tryd.prog 8 #[.string s] w (VP false s (val 10 s) w) := by
      by_cases h0 : s.size = 0
      · exact vParse_empty s w hs h0 _ rfl
      · by_cases hz : byt s 0 = 48
        · by_cases h1 : 1 < s.size
          · exact vParse_lead s w hs h1 hz _ rfl
          · exact vParse_zero s w hs (by omega) hz _ rfl
        · exact vParse_ne s w hs hm (by omega) hz _ rfl
    exact h.mono fun e w' k => ⟨fun h => absurd h hm, fun _ => k⟩
/-- the text of a number is read so -/
theorem vParse_tz (s : Bool) (X : Nat) (u : ByteArray) (w : World) (hs : u.size ≤ 140737488355328) (hu : isTz s X u) : Calls Tryd.prog 8 #[.string u] w (PG (ng (sg s X)) (am (sg s X)) w) := by
  obtain ⟨t, ht, e⟩ := hu
  have hT := ht.isT (by omega) (by omega)
  have hv := ht.val (by omega) (by omega)
  by_cases c : s = true ∧ X ≠ 0
  · rw [if_pos c] at e
    have hx := cons_ext t
    rw [← e] at hx
    have h1 : byt u 0 = 45 := by rw [e]; exact cons_byt t
    have h2 : 0 < u.size := by rw [e, ByteArray.size_append]; show 0 < 1 + _; omega
    refine (vParse_any u w hs).mono fun e w' h => ?_
    have h3 := (h.1 ⟨h2, h1⟩).1
    rw [hx, hv] at h3
    rw [c.1, am_sg, ng_sg, decide_eq_true (Nat.pos_of_ne_zero fun e => c.2 (ln_eq_zero.1 e)), Bool.and_self]
    exact h3 ⟨hT, fun _ => by rw [hv]; exact c.2⟩
  · rw [if_neg c] at e
    subst e
    refine (vParse_any u w hs).mono fun e w' h => ?_
    have h3 := (h.2 fun h => ht.head h.2).1
    rw [hv] at h3
    have hn : ng (sg s X) = false := by
      by_cases hX : X = 0
      · subst hX; cases s <;> rfl
      · have c1 : s = false := by cases s; rfl; exact absurd ⟨rfl, hX⟩ c
        rw [c1, ng_sg, Bool.false_and]
    rw [am_sg, hn]
    exact h3 ⟨hT, fun h => by cases h⟩
/-- what is no number's text is refused -/
theorem vParse_no (u : ByteArray) (w : World) (hs : u.size ≤ 140737488355328) (hu : ¬ ∃ s X, isTz s X u) : Calls Tryd.prog 8 #[.string u] w fun e w' => e = .returned (.tuple #[.agg #[.bool false, .slice none 0 0], .int .i64 15]) ∧ Below w.heap.size w w' := by
  refine (vParse_any u w hs).mono fun e w' h => ?_
  by_cases hm : 0 < u.size ∧ byt u 0 = 45
  · refine (h.1 hm).2 fun k => hu ⟨true, val 10 (u.extract 1 u.size), _, k.1.isTx (by omega) (by omega), ?_⟩
    rw [if_pos ⟨rfl, k.2 rfl⟩]
    exact (ext_cons hm.1 hm.2).symm
  · refine (h.2 hm).2 fun k => hu ⟨false, val 10 u, _, k.1.isTx (by omega) (by omega), ?_⟩
    rw [if_neg (by simp)]
theorem wParse_no (u : ByteArray) (w : World) (h : Digs w) (hs : u.size ≤ 140737488355328) (hu : ¬ ∃ s X, isTz s X u) : Calls Tryd.prog 7 #[.string u] w fun e w' => e = .returned (.tuple #[.agg #[.bool false, .slice none 0 0], .int .i64 15]) ∧ Below w.heap.size w w' := by
  refine (wParse_any u w h hs).mono fun e w' k => ?_
  rcases k with ⟨t, V, a, he, hn, hz, hl⟩ | k
  · exact absurd ⟨t, V, hz⟩ hu
  · exact k
end Go.Proofs.YtancpkegjgmlmaaDoor
