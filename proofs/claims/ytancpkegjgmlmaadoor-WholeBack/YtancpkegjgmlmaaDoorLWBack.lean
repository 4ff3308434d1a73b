/-
  WholeBack: Parse brings back what Text wrote; two numbers have one text just if they are the same.
-/
import Derived.Test.YtancpkegjgmlmaaDoorWU5
import Derived.Test.YtancpkegjgmlmaaDoorWU6
import Derived.Test.YtancpkegjgmlmaaDoorWI6
import Derived.Test.YtancpkegjgmlmaaDoorOpenI
import Derived.Test.YtancpkegjgmlmaaDoorCards
import Derived.Test.YtancpkegjgmlmaaDoorTie
import Derived.Deep.DeepHandedRow
import Derived.Lib.LaidTab
import Derived.ChangeMaps5
namespace Go.Proofs.YtancpkegjgmlmaaDoor.wholeBack
open Go.ChangeShapes Go.WideShapes Go.ChangeAt Go.RowKit Go.Proofs.YtancpkegjgmlmaaDoor
set_option linter.unusedVariables false

theorem toList_inj {a b : ByteArray} (h : a.toList = b.toList) : a = b := by
  rw [ByteArray.toList_eq, ByteArray.toList_eq] at h
  cases a; cases b
  simpa using h
theorem sgn_ez {x : Int} (h : sgn x = 0) : x = 0 := by
  rcases Int.lt_trichotomy x 0 with h1 | h1 | h1
  · rw [sgn_neg h1] at h; omega
  · exact h1
  · rw [sgn_pos h1] at h; omega
set_option maxHeartbeats 8000000 in
set_option maxRecDepth 100000 in
theorem longA (s0 : Bool) (a0 : Option Addr) (len0 cap0 X0 : Nat) (s1 : Bool) (a1 : Option Addr) (len1 cap1 X1 : Nat) (w : World) (hS0 : Seg w a0 X0 len0) (hc0 : len0 ≤ cap0) (hb0 : len0 ≤ 35184372087808) (hS1 : Seg w a1 X1 len1) (hc1 : len1 ≤ cap1) (hb1 : len1 ≤ 35184372087808) (h : 223000000 < len0) : Calls Tryd.prog 4 #[.agg #[.bool s0, .slice a0 len0 cap0], .agg #[.bool s1, .slice a1 len1 cap1]] w fun e w' => e = .returned (.bool true) ∧ Below w.heap.size w w' := by
  have E0 := hide' (fun w' => endless_is s0 a0 len0 cap0 w' (by omega))
  rw [decide_eq_true h] at E0
  go_enter Tryd.func4, Tryd.ntmps4
  go_wp2_with fail
  obtain ⟨W, hW⟩ : ∃ W, ((w.alloc (.cells #[.bool s0, .slice a0 len0 cap0] 25)).alloc (.cells #[.bool s1, .slice a1 len1 cap1] 25)) = W := ⟨_, rfl⟩
  have q00 : W.cell? ⟨w.heap.size, 0, none⟩ = some (.bool s0) := by subst hW; go_simp
  have q01 : W.cell? ⟨w.heap.size, 1, none⟩ = some (.slice a0 len0 cap0) := by subst hW; go_simp
  have q10 : W.cell? ⟨w.heap.size + 1, 0, none⟩ = some (.bool s1) := by subst hW; go_simp
  have q11 : W.cell? ⟨w.heap.size + 1, 1, none⟩ = some (.slice a1 len1 cap1) := by subst hW; go_simp
  have hB : Below w.heap.size w W := by subst hW; exact (((Below.refl _ _).alloc (by (try simp only [World.size_alloc]); omega) _).alloc (by (try simp only [World.size_alloc]); omega) _)
  have hz : W.heap.size = w.heap.size + 1 + 1 := by subst hW; simp only [World.size_alloc]
  rw [hW]
  clear hW
  have hBW : Below W.heap.size W W := Below.refl _ _
  refine (E0.out _).mono ?_
  rintro e w3 ⟨rfl, b3⟩
  replace hBW := hBW.trans (b3.mono hBW.size)
  replace q00 := below_cell b3 q00
  replace q01 := below_cell b3 q01
  replace q10 := below_cell b3 q10
  replace q11 := below_cell b3 q11
  go_wp2
  go_ret
  exact ⟨rfl, hB.trans (hBW.mono hB.size)⟩

set_option maxHeartbeats 8000000 in
set_option maxRecDepth 100000 in
theorem longB (s0 : Bool) (a0 : Option Addr) (len0 cap0 X0 : Nat) (s1 : Bool) (a1 : Option Addr) (len1 cap1 X1 : Nat) (w : World) (hS0 : Seg w a0 X0 len0) (hc0 : len0 ≤ cap0) (hb0 : len0 ≤ 35184372087808) (hS1 : Seg w a1 X1 len1) (hc1 : len1 ≤ cap1) (hb1 : len1 ≤ 35184372087808) (h0 : ¬ 223000000 < len0) (h : 223000000 < len1) : Calls Tryd.prog 4 #[.agg #[.bool s0, .slice a0 len0 cap0], .agg #[.bool s1, .slice a1 len1 cap1]] w fun e w' => e = .returned (.bool true) ∧ Below w.heap.size w w' := by
  have E0 := hide' (fun w' => endless_is s0 a0 len0 cap0 w' (by omega))
  rw [decide_eq_false h0] at E0
  have E1 := hide' (fun w' => endless_is s1 a1 len1 cap1 w' (by omega))
  rw [decide_eq_true h] at E1
  go_enter Tryd.func4, Tryd.ntmps4
  go_wp2_with fail
  obtain ⟨W, hW⟩ : ∃ W, ((w.alloc (.cells #[.bool s0, .slice a0 len0 cap0] 25)).alloc (.cells #[.bool s1, .slice a1 len1 cap1] 25)) = W := ⟨_, rfl⟩
  have q00 : W.cell? ⟨w.heap.size, 0, none⟩ = some (.bool s0) := by subst hW; go_simp
  have q01 : W.cell? ⟨w.heap.size, 1, none⟩ = some (.slice a0 len0 cap0) := by subst hW; go_simp
  have q10 : W.cell? ⟨w.heap.size + 1, 0, none⟩ = some (.bool s1) := by subst hW; go_simp
  have q11 : W.cell? ⟨w.heap.size + 1, 1, none⟩ = some (.slice a1 len1 cap1) := by subst hW; go_simp
  have hB : Below w.heap.size w W := by subst hW; exact (((Below.refl _ _).alloc (by (try simp only [World.size_alloc]); omega) _).alloc (by (try simp only [World.size_alloc]); omega) _)
  have hz : W.heap.size = w.heap.size + 1 + 1 := by subst hW; simp only [World.size_alloc]
  rw [hW]
  clear hW
  have hBW : Below W.heap.size W W := Below.refl _ _
  refine (E0.out _).mono ?_
  rintro e w3 ⟨rfl, b3⟩
  replace hBW := hBW.trans (b3.mono hBW.size)
  replace q00 := below_cell b3 q00
  replace q01 := below_cell b3 q01
  replace q10 := below_cell b3 q10
  replace q11 := below_cell b3 q11
  go_wp2_with fail
  refine (E1.out _).mono ?_
  rintro e w4 ⟨rfl, b4⟩
  replace hBW := hBW.trans (b4.mono hBW.size)
  replace q00 := below_cell b4 q00
  replace q01 := below_cell b4 q01
  replace q10 := below_cell b4 q10
  replace q11 := below_cell b4 q11
  go_wp2
  go_ret
  exact ⟨rfl, hB.trans (hBW.mono hB.size)⟩

set_option maxHeartbeats 8000000 in
set_option maxRecDepth 100000 in
theorem same (s0 : Bool) (a0 : Option Addr) (len0 cap0 X0 : Nat) (s1 : Bool) (a1 : Option Addr) (len1 cap1 X1 : Nat) (w : World) (hS0 : Seg w a0 X0 len0) (hc0 : len0 ≤ cap0) (hb0 : len0 ≤ 35184372087808) (hS1 : Seg w a1 X1 len1) (hc1 : len1 ≤ cap1) (hb1 : len1 ≤ 35184372087808) (h : Digs w) (h0 : ¬ 223000000 < len0) (h1 : ¬ 223000000 < len1) (hAB : sg s0 X0 = sg s1 X1) : Calls Tryd.prog 4 #[.agg #[.bool s0, .slice a0 len0 cap0], .agg #[.bool s1, .slice a1 len1 cap1]] w fun e w' => e = .returned (.bool true) ∧ Below w.heap.size w w' := by
  have E0 := hide' (fun w' => endless_is s0 a0 len0 cap0 w' (by omega))
  rw [decide_eq_false h0] at E0
  have E1 := hide' (fun w' => endless_is s1 a1 len1 cap1 w' (by omega))
  rw [decide_eq_false h1] at E1
  obtain ⟨u0, hu0⟩ := isTz_ex s0 X0
  obtain ⟨u1, hu1⟩ := isTz_ex s1 X1
  have z0 := hu0.size_le hS0.1
  have z1 := hu0.pos
  have z2 := hu1.size_le hS1.1
  have zb : ((u0.size : Int) == 0) = false := by rw [beq_eq_false_iff_ne]; omega
  have zc : ¬ ((u0.size : Int) = 0) := by omega
  have zd : ¬ (u0.size = 0) := by omega
  have T0 := hide' (fun w' (k : Digs w') (g : Seg w' a0 X0 len0) => (wText_any s0 a0 len0 cap0 X0 w' k hc0 (by omega) g).mono fun e w'' ⟨u, he, hu, hb⟩ => (⟨by rw [he, hu.uniq hu0], hb⟩ : e = Ending.returned (Value.string u0) ∧ Below w'.heap.size w' w''))
  have T1 := hide' (fun w' (k : Digs w') (g : Seg w' a1 X1 len1) => (wText_any s1 a1 len1 cap1 X1 w' k hc1 (by omega) g).mono fun e w'' ⟨u, he, hu, hb⟩ => (⟨by rw [he, hu.uniq hu1], hb⟩ : e = Ending.returned (Value.string u1) ∧ Below w'.heap.size w' w''))
  have P0 := hide' (fun w' k => wParse_tz s0 X0 u0 w' k (by omega) hu0)
  have K := fun w' (k1 : Seg w' a0 X0 len0) (k2 : Seg w' a1 X1 len1) => wCmp_is s0 a0 len0 cap0 X0 s1 a1 len1 cap1 X1 w' hc0 (by omega) k1 hc1 (by omega) k2
  obtain ⟨Z0, hZ0⟩ : ∃ Z, sg s0 X0 = Z := ⟨_, rfl⟩
  obtain ⟨Z1, hZ1⟩ : ∃ Z, sg s1 X1 = Z := ⟨_, rfl⟩
  have l0 : ln (am Z0) ≤ 35184372087808 := by rw [← hZ0, am_sg]; have := ln_le_of_lt hS0.1; omega
  have l1 : ln (am Z1) ≤ 35184372087808 := by rw [← hZ1, am_sg]; have := ln_le_of_lt hS1.1; omega
  obtain rfl : u0 = u1 := by
    obtain ⟨t, ht, e⟩ := hu0
    obtain ⟨t2, ht2, e2⟩ := hu1
    have hX : X0 = X1 := by rw [← am_sg s0 X0, ← am_sg s1 X1, hAB]
    subst hX
    rw [e, e2, ht.uniq (by omega) ht2]
    by_cases c : X0 = 0
    · rw [if_neg (fun h => h.2 c), if_neg (fun h => h.2 c)]
    · have h1 := congrArg ng hAB
      rw [ng_sg, ng_sg, decide_eq_true (Nat.pos_of_ne_zero fun e => c (ln_eq_zero.1 e)), Bool.and_true, Bool.and_true] at h1
      rw [h1]
  have q1 : (u0.toList == u0.toList) = true := by simp
  rw [hAB, Int.sub_self, sgn_zero] at K
  rw [hZ0] at hAB P0
  rw [hZ1] at hAB
  subst hAB
  have HK := hide' K
  have HH := hide' h
  have Q0 := hide' hZ0
  have Q1 := hide' hZ1
  clear K h hu0 hu1 hZ0 hZ1 z0 z1 z2
  go_enter Tryd.func4, Tryd.ntmps4
  go_wp2_with fail
  obtain ⟨W, hW⟩ : ∃ W, ((w.alloc (.cells #[.bool s0, .slice a0 len0 cap0] 25)).alloc (.cells #[.bool s1, .slice a1 len1 cap1] 25)) = W := ⟨_, rfl⟩
  have q00 : W.cell? ⟨w.heap.size, 0, none⟩ = some (.bool s0) := by subst hW; go_simp
  have q01 : W.cell? ⟨w.heap.size, 1, none⟩ = some (.slice a0 len0 cap0) := by subst hW; go_simp
  have q10 : W.cell? ⟨w.heap.size + 1, 0, none⟩ = some (.bool s1) := by subst hW; go_simp
  have q11 : W.cell? ⟨w.heap.size + 1, 1, none⟩ = some (.slice a1 len1 cap1) := by subst hW; go_simp
  have hB : Below w.heap.size w W := by subst hW; exact (((Below.refl _ _).alloc (by (try simp only [World.size_alloc]); omega) _).alloc (by (try simp only [World.size_alloc]); omega) _)
  have hz : W.heap.size = w.heap.size + 1 + 1 := by subst hW; simp only [World.size_alloc]
  rw [hW]
  clear hW
  have hBW : Below W.heap.size W W := Below.refl _ _
  refine (E0.out _).mono ?_
  rintro e w3 ⟨rfl, b3⟩
  replace hBW := hBW.trans (b3.mono hBW.size)
  replace q00 := below_cell b3 q00
  replace q01 := below_cell b3 q01
  replace q10 := below_cell b3 q10
  replace q11 := below_cell b3 q11
  go_wp2_with fail
  refine (E1.out _).mono ?_
  rintro e w4 ⟨rfl, b4⟩
  replace hBW := hBW.trans (b4.mono hBW.size)
  replace q00 := below_cell b4 q00
  replace q01 := below_cell b4 q01
  replace q10 := below_cell b4 q10
  replace q11 := below_cell b4 q11
  go_wp2_with fail
  refine (T0.out _ (HH.out.below (hB.trans (hBW.mono hB.size))) (sb hS0 hB hBW)).mono ?_
  rintro e w5 ⟨rfl, b5⟩
  replace hBW := hBW.trans (b5.mono hBW.size)
  replace q00 := below_cell b5 q00
  replace q01 := below_cell b5 q01
  replace q10 := below_cell b5 q10
  replace q11 := below_cell b5 q11
  go_wp2_with fail
  refine (P0.out _ (HH.out.below (hB.trans (hBW.mono hB.size)))).mono ?_
  rintro e w6 ⟨a6, rfl, h6⟩
  have b6 := h6.below
  replace h6 := h6.back hBW
  replace hBW := hBW.trans (b6.mono hBW.size)
  replace q00 := below_cell b6 q00
  replace q01 := below_cell b6 q01
  replace q10 := below_cell b6 q10
  replace q11 := below_cell b6 q11
  go_wp2_with fail
  have l600 : ((w6.alloc (.cells #[.bool (ng Z0), .slice a6 (ln (am Z0)) (ln (am Z0))] 25))).cell? ⟨w6.heap.size, 0, none⟩ = some (.bool (ng Z0)) := by go_simp
  have l601 : ((w6.alloc (.cells #[.bool (ng Z0), .slice a6 (ln (am Z0)) (ln (am Z0))] 25))).cell? ⟨w6.heap.size, 1, none⟩ = some (.slice a6 (ln (am Z0)) (ln (am Z0))) := by go_simp
  have cb6 : Below w6.heap.size w6 ((w6.alloc (.cells #[.bool (ng Z0), .slice a6 (ln (am Z0)) (ln (am Z0))] 25))) := ((Below.refl _ _).alloc (by (try simp only [World.size_alloc]); omega) _)
  replace hBW := hBW.trans (cb6.mono hBW.size)
  replace q00 := below_cell cb6 q00
  replace q01 := below_cell cb6 q01
  replace q10 := below_cell cb6 q10
  replace q11 := below_cell cb6 q11
  replace h6 := h6.later cb6
  generalize (w6.alloc (.cells #[.bool (ng Z0), .slice a6 (ln (am Z0)) (ln (am Z0))] 25)) = w6x at q00 q01 q10 q11 l600 l601 h6 hBW cb6 ⊢
  clear cb6
  replace hBW := hBW.drew
  replace h6 := h6.drew
  first
    | go_region_held3 (fun w' => w'.cell? ⟨w.heap.size, 0, none⟩ = some (.bool s0) ∧ w'.cell? ⟨w.heap.size, 1, none⟩ = some (.slice a0 len0 cap0) ∧ w'.cell? ⟨w.heap.size + 1, 0, none⟩ = some (.bool s1) ∧ w'.cell? ⟨w.heap.size + 1, 1, none⟩ = some (.slice a1 len1 cap1) ∧ w'.cell? ⟨w6.heap.size, 0, none⟩ = some (.bool (ng Z0)) ∧ w'.cell? ⟨w6.heap.size, 1, none⟩ = some (.slice a6 (ln (am Z0)) (ln (am Z0))) ∧ Below w.heap.size w w')
        (first | exact ⟨q00, q01, q10, q11, l600, l601, hB.trans (hBW.mono hB.size)⟩ | exact kp6 b7 (by assumption) | exact kp6 b8 (by assumption) | exact kp6 (below_alloc _) (by assumption))
        (first
          | (go_at_call 12; go_at_call_of 12 (Value.agg #[Value.bool s0, Value.slice a0 len0 cap0]); refine (wNorm_is s0 a0 len0 cap0 X0 (Z0) _ (by omega) (by omega) (sb hS0 hB hBW) Q0.out).mono ?_; rintro e w7 ⟨a7, rfl, h7⟩; have b7 := h7.below; replace h7 := h7.back hBW; replace hBW := hBW.trans (b7.mono hBW.size); replace q00 := below_cell b7 q00; replace q01 := below_cell b7 q01; replace q10 := below_cell b7 q10; replace q11 := below_cell b7 q11; replace l600 := below_cell b7 l600; replace l601 := below_cell b7 l601; replace h6 := h6.later b7)
          | (go_at_call 9; go_at_call_of 9 (Value.agg #[Value.bool (ng Z0), Value.slice a6 (ln (am Z0)) (ln (am Z0))]); go_at_call_of 9 (Value.agg #[Value.bool (ng Z0), Value.slice a7 (ln (am Z0)) (ln (am Z0))]); refine (sameI_is (Z0) a6 a7 _ _ _ (by omega) h6.seg h7.seg).mono ?_; rintro e w8 ⟨rfl, b8⟩; replace hBW := hBW.trans (b8.mono hBW.size); replace q00 := below_cell b8 q00; replace q01 := below_cell b8 q01; replace q10 := below_cell b8 q10; replace q11 := below_cell b8 q11; replace l600 := below_cell b8 l600; replace l601 := below_cell b8 l601; replace h6 := h6.later b8; replace h7 := h7.later b8))
    | fail
  clear h7
  go_wp2_with fail
  refine (HK.out _ (sb hS0 hB hBW) (sb hS1 hB hBW)).mono ?_
  rintro e w9 ⟨rfl, b9⟩
  replace hBW := hBW.trans (b9.mono hBW.size)
  replace q00 := below_cell b9 q00
  replace q01 := below_cell b9 q01
  replace q10 := below_cell b9 q10
  replace q11 := below_cell b9 q11
  replace l600 := below_cell b9 l600
  replace l601 := below_cell b9 l601
  replace h6 := h6.later b9
  go_wp2_with fail
  replace hBW := hBW.drew
  replace h6 := h6.drew
  first
    | go_region_held3 (fun w' => w'.cell? ⟨w.heap.size, 0, none⟩ = some (.bool s0) ∧ w'.cell? ⟨w.heap.size, 1, none⟩ = some (.slice a0 len0 cap0) ∧ w'.cell? ⟨w.heap.size + 1, 0, none⟩ = some (.bool s1) ∧ w'.cell? ⟨w.heap.size + 1, 1, none⟩ = some (.slice a1 len1 cap1) ∧ w'.cell? ⟨w6.heap.size, 0, none⟩ = some (.bool (ng Z0)) ∧ w'.cell? ⟨w6.heap.size, 1, none⟩ = some (.slice a6 (ln (am Z0)) (ln (am Z0))) ∧ Below w.heap.size w w')
        (first | exact ⟨q00, q01, q10, q11, l600, l601, hB.trans (hBW.mono hB.size)⟩ | exact kp6 b10 (by assumption) | exact kp6 b11 (by assumption) | exact kp6 b12 (by assumption) | exact kp6 b13 (by assumption) | exact kp6 b14 (by assumption) | exact kp6 (below_alloc _) (by assumption))
        (first
          | (go_at_call 10; go_at_call_of 10 (Value.agg #[Value.bool s1, Value.slice a1 len1 cap1]); refine (T1.out _ (HH.out.below (hB.trans (hBW.mono hB.size))) (sb hS1 hB hBW)).mono ?_; rintro e w10 ⟨rfl, b10⟩; replace hBW := hBW.trans (b10.mono hBW.size); replace q00 := below_cell b10 q00; replace q01 := below_cell b10 q01; replace q10 := below_cell b10 q10; replace q11 := below_cell b10 q11; replace l600 := below_cell b10 l600; replace l601 := below_cell b10 l601; replace h6 := h6.later b10)
          | (go_at_call 12; go_at_call_of 12 (Value.agg #[Value.bool s0, Value.slice a0 len0 cap0]); refine (wNorm_is s0 a0 len0 cap0 X0 (Z0) _ (by omega) (by omega) (sb hS0 hB hBW) Q0.out).mono ?_; rintro e w11 ⟨a11, rfl, h11⟩; have b11 := h11.below; replace h11 := h11.back hBW; replace hBW := hBW.trans (b11.mono hBW.size); replace q00 := below_cell b11 q00; replace q01 := below_cell b11 q01; replace q10 := below_cell b11 q10; replace q11 := below_cell b11 q11; replace l600 := below_cell b11 l600; replace l601 := below_cell b11 l601; replace h6 := h6.later b11)
          | (go_at_call 12; go_at_call_of 12 (Value.agg #[Value.bool s1, Value.slice a1 len1 cap1]); refine (wNorm_is s1 a1 len1 cap1 X1 (Z0) _ (by omega) (by omega) (sb hS1 hB hBW) Q1.out).mono ?_; rintro e w12 ⟨a12, rfl, h12⟩; have b12 := h12.below; replace h12 := h12.back hBW; replace hBW := hBW.trans (b12.mono hBW.size); replace q00 := below_cell b12 q00; replace q01 := below_cell b12 q01; replace q10 := below_cell b12 q10; replace q11 := below_cell b12 q11; replace l600 := below_cell b12 l600; replace l601 := below_cell b12 l601; replace h6 := h6.later b12; replace h11 := h11.later b12)
          | (go_at_call 9; go_at_call_of 9 (Value.agg #[Value.bool (ng Z0), Value.slice a11 (ln (am Z0)) (ln (am Z0))]); go_at_call_of 9 (Value.agg #[Value.bool (ng Z0), Value.slice a12 (ln (am Z0)) (ln (am Z0))]); refine (sameI_is (Z0) a11 a12 _ _ _ (by omega) h11.seg h12.seg).mono ?_; rintro e w13 ⟨rfl, b13⟩; replace hBW := hBW.trans (b13.mono hBW.size); replace q00 := below_cell b13 q00; replace q01 := below_cell b13 q01; replace q10 := below_cell b13 q10; replace q11 := below_cell b13 q11; replace l600 := below_cell b13 l600; replace l601 := below_cell b13 l601; replace h6 := h6.later b13; replace h11 := h11.later b13; replace h12 := h12.later b13)
          | (go_at_call 14; refine (awake_is _).mono ?_; rintro e w14 ⟨rfl, b14⟩; replace hBW := hBW.trans (b14.mono hBW.size); replace q00 := below_cell b14 q00; replace q01 := below_cell b14 q01; replace q10 := below_cell b14 q10; replace q11 := below_cell b14 q11; replace l600 := below_cell b14 l600; replace l601 := below_cell b14 l601; replace h6 := h6.later b14; replace h11 := h11.later b14; replace h12 := h12.later b14))
    | fail
  go_wp2
  go_ret
  exact ⟨rfl, hB.trans (hBW.mono hB.size)⟩

set_option maxHeartbeats 8000000 in
set_option maxRecDepth 100000 in
theorem unlike (s0 : Bool) (a0 : Option Addr) (len0 cap0 X0 : Nat) (s1 : Bool) (a1 : Option Addr) (len1 cap1 X1 : Nat) (w : World) (hS0 : Seg w a0 X0 len0) (hc0 : len0 ≤ cap0) (hb0 : len0 ≤ 35184372087808) (hS1 : Seg w a1 X1 len1) (hc1 : len1 ≤ cap1) (hb1 : len1 ≤ 35184372087808) (h : Digs w) (h0 : ¬ 223000000 < len0) (h1 : ¬ 223000000 < len1) (hAB : sg s0 X0 ≠ sg s1 X1) : Calls Tryd.prog 4 #[.agg #[.bool s0, .slice a0 len0 cap0], .agg #[.bool s1, .slice a1 len1 cap1]] w fun e w' => e = .returned (.bool true) ∧ Below w.heap.size w w' := by
  have E0 := hide' (fun w' => endless_is s0 a0 len0 cap0 w' (by omega))
  rw [decide_eq_false h0] at E0
  have E1 := hide' (fun w' => endless_is s1 a1 len1 cap1 w' (by omega))
  rw [decide_eq_false h1] at E1
  obtain ⟨u0, hu0⟩ := isTz_ex s0 X0
  obtain ⟨u1, hu1⟩ := isTz_ex s1 X1
  have z0 := hu0.size_le hS0.1
  have z1 := hu0.pos
  have z2 := hu1.size_le hS1.1
  have zb : ((u0.size : Int) == 0) = false := by rw [beq_eq_false_iff_ne]; omega
  have zc : ¬ ((u0.size : Int) = 0) := by omega
  have zd : ¬ (u0.size = 0) := by omega
  have T0 := hide' (fun w' (k : Digs w') (g : Seg w' a0 X0 len0) => (wText_any s0 a0 len0 cap0 X0 w' k hc0 (by omega) g).mono fun e w'' ⟨u, he, hu, hb⟩ => (⟨by rw [he, hu.uniq hu0], hb⟩ : e = Ending.returned (Value.string u0) ∧ Below w'.heap.size w' w''))
  have T1 := hide' (fun w' (k : Digs w') (g : Seg w' a1 X1 len1) => (wText_any s1 a1 len1 cap1 X1 w' k hc1 (by omega) g).mono fun e w'' ⟨u, he, hu, hb⟩ => (⟨by rw [he, hu.uniq hu1], hb⟩ : e = Ending.returned (Value.string u1) ∧ Below w'.heap.size w' w''))
  have P0 := hide' (fun w' k => wParse_tz s0 X0 u0 w' k (by omega) hu0)
  have K := fun w' (k1 : Seg w' a0 X0 len0) (k2 : Seg w' a1 X1 len1) => wCmp_is s0 a0 len0 cap0 X0 s1 a1 len1 cap1 X1 w' hc0 (by omega) k1 hc1 (by omega) k2
  obtain ⟨Z0, hZ0⟩ : ∃ Z, sg s0 X0 = Z := ⟨_, rfl⟩
  obtain ⟨Z1, hZ1⟩ : ∃ Z, sg s1 X1 = Z := ⟨_, rfl⟩
  have l0 : ln (am Z0) ≤ 35184372087808 := by rw [← hZ0, am_sg]; have := ln_le_of_lt hS0.1; omega
  have l1 : ln (am Z1) ≤ 35184372087808 := by rw [← hZ1, am_sg]; have := ln_le_of_lt hS1.1; omega
  have q1 : (u0.toList == u1.toList) = false := by
    rw [beq_eq_false_iff_ne]
    intro e
    have e2 := toList_inj e
    subst e2
    exact hAB (hu0.inj hu1)
  obtain ⟨c, hc, hcn⟩ : ∃ c, sgn (sg s0 X0 - sg s1 X1) = c ∧ c ≠ 0 := ⟨_, rfl, fun e => hAB (by have := sgn_ez e; omega)⟩
  rw [hc] at K
  have hcb : (c == 0) = false := by rw [beq_eq_false_iff_ne]; exact hcn
  rw [hZ0] at hAB P0
  rw [hZ1] at hAB
  have HK := hide' K
  have HH := hide' h
  have Q0 := hide' hZ0
  have Q1 := hide' hZ1
  clear K h hu0 hu1 hZ0 hZ1 z0 z1 z2
  go_enter Tryd.func4, Tryd.ntmps4
  go_wp2_with fail
  obtain ⟨W, hW⟩ : ∃ W, ((w.alloc (.cells #[.bool s0, .slice a0 len0 cap0] 25)).alloc (.cells #[.bool s1, .slice a1 len1 cap1] 25)) = W := ⟨_, rfl⟩
  have q00 : W.cell? ⟨w.heap.size, 0, none⟩ = some (.bool s0) := by subst hW; go_simp
  have q01 : W.cell? ⟨w.heap.size, 1, none⟩ = some (.slice a0 len0 cap0) := by subst hW; go_simp
  have q10 : W.cell? ⟨w.heap.size + 1, 0, none⟩ = some (.bool s1) := by subst hW; go_simp
  have q11 : W.cell? ⟨w.heap.size + 1, 1, none⟩ = some (.slice a1 len1 cap1) := by subst hW; go_simp
  have hB : Below w.heap.size w W := by subst hW; exact (((Below.refl _ _).alloc (by (try simp only [World.size_alloc]); omega) _).alloc (by (try simp only [World.size_alloc]); omega) _)
  have hz : W.heap.size = w.heap.size + 1 + 1 := by subst hW; simp only [World.size_alloc]
  rw [hW]
  clear hW
  have hBW : Below W.heap.size W W := Below.refl _ _
  refine (E0.out _).mono ?_
  rintro e w3 ⟨rfl, b3⟩
  replace hBW := hBW.trans (b3.mono hBW.size)
  replace q00 := below_cell b3 q00
  replace q01 := below_cell b3 q01
  replace q10 := below_cell b3 q10
  replace q11 := below_cell b3 q11
  go_wp2_with fail
  refine (E1.out _).mono ?_
  rintro e w4 ⟨rfl, b4⟩
  replace hBW := hBW.trans (b4.mono hBW.size)
  replace q00 := below_cell b4 q00
  replace q01 := below_cell b4 q01
  replace q10 := below_cell b4 q10
  replace q11 := below_cell b4 q11
  go_wp2_with fail
  refine (T0.out _ (HH.out.below (hB.trans (hBW.mono hB.size))) (sb hS0 hB hBW)).mono ?_
  rintro e w5 ⟨rfl, b5⟩
  replace hBW := hBW.trans (b5.mono hBW.size)
  replace q00 := below_cell b5 q00
  replace q01 := below_cell b5 q01
  replace q10 := below_cell b5 q10
  replace q11 := below_cell b5 q11
  go_wp2_with fail
  refine (P0.out _ (HH.out.below (hB.trans (hBW.mono hB.size)))).mono ?_
  rintro e w6 ⟨a6, rfl, h6⟩
  have b6 := h6.below
  replace h6 := h6.back hBW
  replace hBW := hBW.trans (b6.mono hBW.size)
  replace q00 := below_cell b6 q00
  replace q01 := below_cell b6 q01
  replace q10 := below_cell b6 q10
  replace q11 := below_cell b6 q11
  go_wp2_with fail
  have l600 : ((w6.alloc (.cells #[.bool (ng Z0), .slice a6 (ln (am Z0)) (ln (am Z0))] 25))).cell? ⟨w6.heap.size, 0, none⟩ = some (.bool (ng Z0)) := by go_simp
  have l601 : ((w6.alloc (.cells #[.bool (ng Z0), .slice a6 (ln (am Z0)) (ln (am Z0))] 25))).cell? ⟨w6.heap.size, 1, none⟩ = some (.slice a6 (ln (am Z0)) (ln (am Z0))) := by go_simp
  have cb6 : Below w6.heap.size w6 ((w6.alloc (.cells #[.bool (ng Z0), .slice a6 (ln (am Z0)) (ln (am Z0))] 25))) := ((Below.refl _ _).alloc (by (try simp only [World.size_alloc]); omega) _)
  replace hBW := hBW.trans (cb6.mono hBW.size)
  replace q00 := below_cell cb6 q00
  replace q01 := below_cell cb6 q01
  replace q10 := below_cell cb6 q10
  replace q11 := below_cell cb6 q11
  replace h6 := h6.later cb6
  generalize (w6.alloc (.cells #[.bool (ng Z0), .slice a6 (ln (am Z0)) (ln (am Z0))] 25)) = w6x at q00 q01 q10 q11 l600 l601 h6 hBW cb6 ⊢
  clear cb6
  replace hBW := hBW.drew
  replace h6 := h6.drew
  first
    | go_region_held3 (fun w' => w'.cell? ⟨w.heap.size, 0, none⟩ = some (.bool s0) ∧ w'.cell? ⟨w.heap.size, 1, none⟩ = some (.slice a0 len0 cap0) ∧ w'.cell? ⟨w.heap.size + 1, 0, none⟩ = some (.bool s1) ∧ w'.cell? ⟨w.heap.size + 1, 1, none⟩ = some (.slice a1 len1 cap1) ∧ w'.cell? ⟨w6.heap.size, 0, none⟩ = some (.bool (ng Z0)) ∧ w'.cell? ⟨w6.heap.size, 1, none⟩ = some (.slice a6 (ln (am Z0)) (ln (am Z0))) ∧ Below w.heap.size w w')
        (first | exact ⟨q00, q01, q10, q11, l600, l601, hB.trans (hBW.mono hB.size)⟩ | exact kp6 b7 (by assumption) | exact kp6 b8 (by assumption) | exact kp6 (below_alloc _) (by assumption))
        (first
          | (go_at_call 12; go_at_call_of 12 (Value.agg #[Value.bool s0, Value.slice a0 len0 cap0]); refine (wNorm_is s0 a0 len0 cap0 X0 (Z0) _ (by omega) (by omega) (sb hS0 hB hBW) Q0.out).mono ?_; rintro e w7 ⟨a7, rfl, h7⟩; have b7 := h7.below; replace h7 := h7.back hBW; replace hBW := hBW.trans (b7.mono hBW.size); replace q00 := below_cell b7 q00; replace q01 := below_cell b7 q01; replace q10 := below_cell b7 q10; replace q11 := below_cell b7 q11; replace l600 := below_cell b7 l600; replace l601 := below_cell b7 l601; replace h6 := h6.later b7)
          | (go_at_call 9; go_at_call_of 9 (Value.agg #[Value.bool (ng Z0), Value.slice a6 (ln (am Z0)) (ln (am Z0))]); go_at_call_of 9 (Value.agg #[Value.bool (ng Z0), Value.slice a7 (ln (am Z0)) (ln (am Z0))]); refine (sameI_is (Z0) a6 a7 _ _ _ (by omega) h6.seg h7.seg).mono ?_; rintro e w8 ⟨rfl, b8⟩; replace hBW := hBW.trans (b8.mono hBW.size); replace q00 := below_cell b8 q00; replace q01 := below_cell b8 q01; replace q10 := below_cell b8 q10; replace q11 := below_cell b8 q11; replace l600 := below_cell b8 l600; replace l601 := below_cell b8 l601; replace h6 := h6.later b8; replace h7 := h7.later b8))
    | fail
  clear h7
  go_wp2_with fail
  refine (HK.out _ (sb hS0 hB hBW) (sb hS1 hB hBW)).mono ?_
  rintro e w9 ⟨rfl, b9⟩
  replace hBW := hBW.trans (b9.mono hBW.size)
  replace q00 := below_cell b9 q00
  replace q01 := below_cell b9 q01
  replace q10 := below_cell b9 q10
  replace q11 := below_cell b9 q11
  replace l600 := below_cell b9 l600
  replace l601 := below_cell b9 l601
  replace h6 := h6.later b9
  go_wp2_with fail
  replace hBW := hBW.drew
  replace h6 := h6.drew
  first
    | go_region_held3 (fun w' => w'.cell? ⟨w.heap.size, 0, none⟩ = some (.bool s0) ∧ w'.cell? ⟨w.heap.size, 1, none⟩ = some (.slice a0 len0 cap0) ∧ w'.cell? ⟨w.heap.size + 1, 0, none⟩ = some (.bool s1) ∧ w'.cell? ⟨w.heap.size + 1, 1, none⟩ = some (.slice a1 len1 cap1) ∧ w'.cell? ⟨w6.heap.size, 0, none⟩ = some (.bool (ng Z0)) ∧ w'.cell? ⟨w6.heap.size, 1, none⟩ = some (.slice a6 (ln (am Z0)) (ln (am Z0))) ∧ Below w.heap.size w w')
        (first | exact ⟨q00, q01, q10, q11, l600, l601, hB.trans (hBW.mono hB.size)⟩ | exact kp6 b10 (by assumption) | exact kp6 b11 (by assumption) | exact kp6 b12 (by assumption) | exact kp6 b13 (by assumption) | exact kp6 b14 (by assumption) | exact kp6 (below_alloc _) (by assumption))
        (first
          | (go_at_call 10; go_at_call_of 10 (Value.agg #[Value.bool s1, Value.slice a1 len1 cap1]); refine (T1.out _ (HH.out.below (hB.trans (hBW.mono hB.size))) (sb hS1 hB hBW)).mono ?_; rintro e w10 ⟨rfl, b10⟩; replace hBW := hBW.trans (b10.mono hBW.size); replace q00 := below_cell b10 q00; replace q01 := below_cell b10 q01; replace q10 := below_cell b10 q10; replace q11 := below_cell b10 q11; replace l600 := below_cell b10 l600; replace l601 := below_cell b10 l601; replace h6 := h6.later b10)
          | (go_at_call 12; go_at_call_of 12 (Value.agg #[Value.bool s0, Value.slice a0 len0 cap0]); refine (wNorm_is s0 a0 len0 cap0 X0 (Z0) _ (by omega) (by omega) (sb hS0 hB hBW) Q0.out).mono ?_; rintro e w11 ⟨a11, rfl, h11⟩; have b11 := h11.below; replace h11 := h11.back hBW; replace hBW := hBW.trans (b11.mono hBW.size); replace q00 := below_cell b11 q00; replace q01 := below_cell b11 q01; replace q10 := below_cell b11 q10; replace q11 := below_cell b11 q11; replace l600 := below_cell b11 l600; replace l601 := below_cell b11 l601; replace h6 := h6.later b11)
          | (go_at_call 12; go_at_call_of 12 (Value.agg #[Value.bool s1, Value.slice a1 len1 cap1]); refine (wNorm_is s1 a1 len1 cap1 X1 (Z1) _ (by omega) (by omega) (sb hS1 hB hBW) Q1.out).mono ?_; rintro e w12 ⟨a12, rfl, h12⟩; have b12 := h12.below; replace h12 := h12.back hBW; replace hBW := hBW.trans (b12.mono hBW.size); replace q00 := below_cell b12 q00; replace q01 := below_cell b12 q01; replace q10 := below_cell b12 q10; replace q11 := below_cell b12 q11; replace l600 := below_cell b12 l600; replace l601 := below_cell b12 l601; replace h6 := h6.later b12; replace h11 := h11.later b12)
          | (go_at_call 9; go_at_call_of 9 (Value.agg #[Value.bool (ng Z0), Value.slice a11 (ln (am Z0)) (ln (am Z0))]); go_at_call_of 9 (Value.agg #[Value.bool (ng Z1), Value.slice a12 (ln (am Z1)) (ln (am Z1))]); refine (sameI_ne Z0 Z1 hAB a11 a12 _ _ _ (by omega) (by omega) h11.seg h12.seg).mono ?_; rintro e w13 ⟨rfl, b13⟩; replace hBW := hBW.trans (b13.mono hBW.size); replace q00 := below_cell b13 q00; replace q01 := below_cell b13 q01; replace q10 := below_cell b13 q10; replace q11 := below_cell b13 q11; replace l600 := below_cell b13 l600; replace l601 := below_cell b13 l601; replace h6 := h6.later b13; replace h11 := h11.later b13; replace h12 := h12.later b13)
          | (go_at_call 14; refine (awake_is _).mono ?_; rintro e w14 ⟨rfl, b14⟩; replace hBW := hBW.trans (b14.mono hBW.size); replace q00 := below_cell b14 q00; replace q01 := below_cell b14 q01; replace q10 := below_cell b14 q10; replace q11 := below_cell b14 q11; replace l600 := below_cell b14 l600; replace l601 := below_cell b14 l601; replace h6 := h6.later b14; replace h11 := h11.later b14; replace h12 := h12.later b14))
    | fail
  go_wp2
  go_ret
  exact ⟨rfl, hB.trans (hBW.mono hB.size)⟩

set_option maxHeartbeats 8000000 in
set_option maxRecDepth 100000 in
theorem walk (s0 : Bool) (a0 : Option Addr) (len0 cap0 X0 : Nat) (s1 : Bool) (a1 : Option Addr) (len1 cap1 X1 : Nat) (w : World) (hS0 : Seg w a0 X0 len0) (hc0 : len0 ≤ cap0) (hb0 : len0 ≤ 35184372087808) (hS1 : Seg w a1 X1 len1) (hc1 : len1 ≤ cap1) (hb1 : len1 ≤ 35184372087808) (h : Digs w) : Calls Tryd.prog 4 #[.agg #[.bool s0, .slice a0 len0 cap0], .agg #[.bool s1, .slice a1 len1 cap1]] w fun e w' => e = .returned (.bool true) ∧ Below w.heap.size w w' := by
  by_cases h0 : 223000000 < len0
  · exact longA s0 a0 len0 cap0 X0 s1 a1 len1 cap1 X1 w hS0 hc0 hb0 hS1 hc1 hb1 h0
  · by_cases h1 : 223000000 < len1
    · exact longB s0 a0 len0 cap0 X0 s1 a1 len1 cap1 X1 w hS0 hc0 hb0 hS1 hc1 hb1 h0 h1
    · by_cases hAB : sg s0 X0 = sg s1 X1
      · exact same s0 a0 len0 cap0 X0 s1 a1 len1 cap1 X1 w hS0 hc0 hb0 hS1 hc1 hb1 h h0 h1 hAB
      · exact unlike s0 a0 len0 cap0 X0 s1 a1 len1 cap1 X1 w hS0 hc0 hb0 hS1 hc1 hb1 h h0 h1 hAB

theorem gTab : Tryd.prog.globalNamed "fulcrum/nat.digits" = some 0 := by kernel_rfl
theorem gTabType : (Tryd.prog.globals[0]?).map (·.type) = some 72 := by kernel_rfl
theorem cellsA : Tryd.prog.cellsOf 72 = 16 := by kernel_rfl
theorem cells8 : Tryd.prog.cellsOf 5 = 1 := by kernel_rfl
theorem table {W : World} (h : laidMetH Tryd.prog Rows.wholeBackRow.laid W) : Lib.TabIs Tryd.prog W "fulcrum/nat.digits" .u8 [48, 49, 50, 51, 52, 53, 54, 55, 56, 57, 97, 98, 99, 100, 101, 102] :=
  Lib.tabIs_of_head (rest := []) gTab gTabType Tryd.underlying72 Tryd.underlying5 cells8 cellsA h
theorem digs_of {W : World} (h : laidMetH Tryd.prog Rows.wholeBackRow.laid W) : Digs W
  | 0, _ => (table h).cell gTab 0 (by decide)
  | 1, _ => (table h).cell gTab 1 (by decide)
  | 2, _ => (table h).cell gTab 2 (by decide)
  | 3, _ => (table h).cell gTab 3 (by decide)
  | 4, _ => (table h).cell gTab 4 (by decide)
  | 5, _ => (table h).cell gTab 5 (by decide)
  | 6, _ => (table h).cell gTab 6 (by decide)
  | 7, _ => (table h).cell gTab 7 (by decide)
  | 8, _ => (table h).cell gTab 8 (by decide)
  | 9, _ => (table h).cell gTab 9 (by decide)
  | 10, _ => (table h).cell gTab 10 (by decide)
  | 11, _ => (table h).cell gTab 11 (by decide)
  | 12, _ => (table h).cell gTab 12 (by decide)
  | 13, _ => (table h).cell gTab 13 (by decide)
  | 14, _ => (table h).cell gTab 14 (by decide)
  | 15, _ => (table h).cell gTab 15 (by decide)
  | k + 16, hk => absurd hk (by omega)

set_option maxRecDepth 100000 in
theorem contract (H : Type) (enc : TypeId × Value → H) (W : World) (base : Nat) (args : Array Value) (ds gs : List (DataW H)) (before : List MemPlace)
    (hval : ∀ (j : Nat) t v, Tryd.f4.params[j]? = some t → args[j]? = some v → Value.okWide Tryd.prog W .any base t v)
    (hW : DataW.Whole enc Tryd.prog Tryd.f4.params.toList Rows.wholeBackSpec.vars false W args.toList ds gs before)
    (hsz : (DataW.weightsEach Tryd.prog (Tryd.f4.params.toList ++ Rows.wholeBackSpec.plain.varTypes Tryd.prog) (ds ++ gs)).all (· ≤ reachBytes) = true) (hL : laidMetH Tryd.prog Rows.wholeBackRow.laid W) :
    Calls Tryd.prog 4 args W fun e W' => ∃ v, e = .returned v ∧ Rows.wholeBackSpec.post enc Tryd.prog Tryd.f4 false true false false W args v W' := by
  have hW' := hW
  obtain ⟨p, q, hA0, hV, rfl, hfz, hnd⟩ := hW
  have hA : DataW.TrodAll enc Tryd.prog W 0 (fun _ => true) true Tryd.f4.params.toList args.toList ds p := hA0
  rw [Tryd.params4] at hA hval hsz
  obtain ⟨v0, vs0, d0, ds0, p0, q0, hargs, rfl, rfl, h0, r0⟩ := trodAll_cons hA
  obtain ⟨v1, vs1, d1, ds1, p1, q1, rfl, rfl, rfl, h1, r1⟩ := trodAll_cons r0
  obtain ⟨rfl, rfl, rfl⟩ := trodAll_nil r1
  obtain rfl : args = #[v0, v1] := by cases args; simp_all
  obtain ⟨rfl, rfl⟩ := trodVars_none hV
  have lt0 : ∀ x ∈ p0, x.block < W.heap.size := by obtain ⟨m, hm⟩ := h0; exact DataW.trod_lt m _ _ _ hm
  obtain ⟨s0, a0, len0, cap0, X0, rfl, hS0, hc0, hb0, hu0⟩ := open_Int (hval 0 25 v0 rfl rfl) h0 (sized_at 0 hsz rfl rfl)
  have lt1 : ∀ x ∈ p1, x.block < W.heap.size := by obtain ⟨m, hm⟩ := h1; exact DataW.trod_lt m _ _ _ hm
  obtain ⟨s1, a1, len1, cap1, X1, rfl, hS1, hc1, hb1, hu1⟩ := open_Int (hval 1 25 v1 rfl rfl) h1 (sized_at 1 hsz rfl rfl)
  clear hA0
  simp only [List.append_nil] at hW'
  refine (walk s0 a0 len0 cap0 X0 s1 a1 len1 cap1 X1 W hS0 hc0 hb0 hS1 hc1 hb1 (digs_of hL)).mono fun e W' ⟨he, bel⟩ => ?_
  subst he
  exact ⟨_, rfl, _, _, _, [], _, [], hW', trodAll_mk1 (shut_bool Tryd.underlying4 _), (trodAll_cons_mk (Below.trod laidOut (by kernel_rfl) (of_decide_eq_true (by kernel_rfl)) h0 bel lt0) (trodAll_cons_mk (Below.trod laidOut (by kernel_rfl) (of_decide_eq_true (by kernel_rfl)) h1 bel lt1) trodAll_mk0)), rfl, bel.frame _, fun h => by cases h⟩

def setCells (cs : Array Value) : Obj → Obj
  | .cells _ t frozen => .cells cs t frozen
  | o => o
set_option maxRecDepth 100000 in
noncomputable def laidWorld (os : Os) : World :=
  { World.holding Tryd.prog os ⟨#[], #[], []⟩ with heap := ((World.holding Tryd.prog os ⟨#[], #[], []⟩).heap.modify 0 (setCells #[.int .u8 48, .int .u8 49, .int .u8 50, .int .u8 51, .int .u8 52, .int .u8 53, .int .u8 54, .int .u8 55, .int .u8 56, .int .u8 57, .int .u8 97, .int .u8 98, .int .u8 99, .int .u8 100, .int .u8 101, .int .u8 102])) }
set_option maxRecDepth 100000 in
theorem laid_met (os : Os) : laidMet Tryd.prog Rows.wholeBackRow.laid ((laidWorld os).forCall (fun _ _ => 0) ⟨#[], #[.agg #[.bool false, .slice none 0 0], .agg #[.bool false, .slice none 0 0]], []⟩).memory :=
  laidMet_of_run' 8 (by kernel_rfl) (by kernel_rfl)
theorem reads (os : Os) {H : Type} (enc : TypeId × Value → H) : ∃ places, DataW.whole enc Tryd.prog ((laidWorld os).forCall (fun _ _ => 0) ⟨#[], #[.agg #[.bool false, .slice none 0 0], .agg #[.bool false, .slice none 0 0]], []⟩).memory Tryd.f4.params.toList Rows.wholeBackSpec.vars false [Value.agg #[.bool false, .slice none 0 0], Value.agg #[.bool false, .slice none 0 0]] 8 = some ([.agg [.lit (.bool false), .nil], .agg [.lit (.bool false), .nil]], [], places) :=
  ⟨[], by kernel_rfl⟩

set_option maxRecDepth 100000 in
theorem liftedUpto (os : Os) (started : os.Started) (H : Type) (enc : TypeId × Value → H) (F : Stop.Interp) :
    ReturnsInHanded {} Tryd.checked os 4 .any ((OpenSpec.ofChange Rows.wholeBackSpec).preRow enc Tryd.prog Tryd.f4 Rows.wholeBackRow.domain false Rows.wholeBackRow.laid) (((OpenSpec.ofChange Rows.wholeBackSpec).at F).post enc Tryd.prog Tryd.f4 false true false false) := by
  obtain ⟨places, hx⟩ := reads os enc
  refine returnsInHanded_of_row (C := Tryd.checked) (s := OpenSpec.ofChange Rows.wholeBackSpec) own started (by kernel_rfl) Tryd.func4
    (witness_row_at (enc := enc) (C := Tryd.checked) false (laidWorld os) #[.agg #[.bool false, .slice none 0 0], .agg #[.bool false, .slice none 0 0]] rfl (by kernel_rfl) (by kernel_rfl) (by kernel_rfl)
      (OpenSpec.preRow_of_cond 8 hx (by kernel_rfl) (fun k hk => by cases hk) (by kernel_rfl) (laid_met os))) ?_
  intro W base args ds gs before hval hW _ hk hsz hL _ _
  exact contract H enc W base args ds gs before hval hW hsz hL

theorem saidUpto : Rows.WholeBackSaid :=
  OpenClaim.holds_of_cond 4 Tryd.f4 rfl rfl rfl rfl rfl rfl rfl ⟨rfl, rfl, rfl, rfl, rfl⟩ rfl rfl rfl rfl rfl (by kernel_rfl) Tryd.func4 (by kernel_rfl)
    (of_decide_eq_true (by kernel_rfl)) (by unfold Func.isWrapper; first | (rw [if_pos (by decide +kernel)]; kernel_rfl) | (rw [if_neg (by decide +kernel)]; exact ⟨rfl, rfl⟩))
    (fun os started H enc _ F => by rw [OpenClaim.pre_eq_preRow]; exact liftedUpto os started H enc F)

theorem plain (f : FuncId) (fn : Func) (hf : Tryd.pinned.checked.prog.funcNamed "fulcrum/fulcrumlaw02.WholeBack" = some f) (hfn : Tryd.pinned.checked.prog.funcs[f]? = some fn) :
    false = Tryd.pinned.checked.prog.looks [] ∧ ∀ (j : Nat) t, fn.params[j]? = some t → Tryd.pinned.checked.prog.wantsStandIn t = false := by
  obtain rfl : f = 4 := Option.some.inj ((show Tryd.prog.funcNamed "fulcrum/fulcrumlaw02.WholeBack" = some 4 by kernel_rfl).symm.trans hf) |>.symm
  obtain rfl : fn = Tryd.f4 := (Option.some.inj (Tryd.func4.symm.trans hfn)).symm
  refine ⟨by kernel_rfl, fun j t ht => ?_⟩
  rw [Tryd.params4] at ht
  have hm := Array.mem_of_getElem? ht
  simp only [List.mem_toArray, List.mem_cons, List.not_mem_nil, or_false] at hm
  rcases hm with rfl | rfl
  · exact (show Tryd.prog.wantsStandIn 25 = false by kernel_rfl)
  · exact (show Tryd.prog.wantsStandIn 25 = false by kernel_rfl)

theorem cardUpto : Rows.WholeBackCardSaid :=
  Claim7.holds_tied_plain_at .later [] _ _ _ _ saidUpto (fun _ h => by cases h) (by kernel_rfl) (fun _ h => by cases h) wholeBack_row_tie rfl ⟨rfl, rfl⟩ (by kernel_rfl) rfl plain (by kernel_rfl)
end Go.Proofs.YtancpkegjgmlmaaDoor.wholeBack
namespace Go.Proofs.YtancpkegjgmlmaaDoor
theorem wholeBack_holds : Rows.WholeBackCardSaid := wholeBack.cardUpto
#print axioms wholeBack_holds
end Go.Proofs.YtancpkegjgmlmaaDoor
