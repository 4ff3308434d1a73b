/-
  The reference of layer 3: Sub, Cmp, Mul.
-/
import Derived.Test.YtejlnodillnoaaaGreatDoorWQ8
namespace Go.Proofs.YtejlnodillnoaaaGreatDoor
open Go.RowKit
set_option linter.unusedVariables false

theorem lt_prod {a b : Int} {i j : Nat} (ha : am a < BB ^ i) (hb : am b < BB ^ j) : am (a * b) < BB ^ (i + j) := by
  rw [am_mul, Nat.pow_add]
  exact Nat.mul_lt_mul'' ha hb
theorem lt_sum {a b : Int} {i j k : Nat} (ha : am a < BB ^ i) (hb : am b < BB ^ j) (hi : i + 1 ≤ k) (hj : j + 1 ≤ k) : am (a + b) < BB ^ k :=
  Nat.lt_of_lt_of_le (Nat.lt_of_le_of_lt (am_add a b) (ln_lt (am a + am b))) (pow_mono (ln_sum ha hb hi hj))
theorem ln1 {A D Z : Int} {V i j k : Nat} (h : Low A D Z V) (hA : am A < BB ^ i) (hD : am D < BB ^ j) (hi : i ≤ k) (hj : j ≤ k) : ln (am Z) ≤ k ∧ ln V ≤ k :=
  ⟨Nat.le_trans (ln_le_of_lt (Nat.lt_of_le_of_lt h.le.1 hA)) hi, Nat.le_trans (ln_le_of_lt (Nat.lt_of_le_of_lt h.le.2 hD)) hj⟩
set_option maxHeartbeats 4000000 in
set_option maxRecDepth 100000 in
theorem vqSub_is (s0 : Bool) (a0 : Option Addr) (n0 c0 X0 : Nat) (b0 : Option Addr) (m0 d0 Y0 : Nat) (s1 : Bool) (a1 : Option Addr) (n1 c1 X1 : Nat) (b1 : Option Addr) (m1 d1 Y1 : Nat) (Z : Int) (V : Nat) (w : World) (hc0 : n0 ≤ c0) (hm0 : n0 ≤ 35184372088000) (hS0 : Seg w a0 X0 n0) (hd0 : m0 ≤ d0) (hk0 : m0 ≤ 35184372088000) (hT0 : Seg w b0 Y0 m0) (hc1 : n1 ≤ c1) (hm1 : n1 ≤ 35184372088000) (hS1 : Seg w a1 X1 n1) (hd1 : m1 ≤ d1) (hk1 : m1 ≤ 35184372088000) (hT1 : Seg w b1 Y1 m1) (hL : Low (rn s0 X0 Y0 * (rd Y1 : Nat) + -(rn s1 X1 Y1) * (rd Y0 : Nat)) ((rd Y0 : Nat) * (rd Y1 : Nat)) Z V) :
    Calls Tryz.prog 36 #[Value.agg #[Value.bool s0, Value.slice a0 n0 c0, Value.slice b0 m0 d0], Value.agg #[Value.bool s1, Value.slice a1 n1 c1, Value.slice b1 m1 d1]] w fun e w' => ∃ p q, e = .returned (.agg #[.bool (ng Z), .slice p (ln (am Z)) (ln (am Z)), .slice q (ln V) (ln V)]) ∧ New w w' p (am Z) (ln (am Z)) ∧ New w w' q V (ln V) := by
  obtain ⟨Z1, V1, h1⟩ := low_ex (-(rn s1 X1 Y1)) (rd Y1 : Nat) (rd_ne Y1)
  have hl := h1.le
  rw [am_neg, am_nat] at hl
  have lZ : ln (am Z1) ≤ n1 := ln_le_of_lt (Nat.lt_of_le_of_lt (Nat.le_trans hl.1 (rn_am s1 X1 Y1)) hS1.1)
  have lV : ln V1 ≤ m1 + 1 := ln_le_of_lt (Nat.lt_of_le_of_lt hl.2 (rd_lt hT1.1))
  have h2 : Low (rn s0 X0 Y0 * ((rd V1 : Nat) : Int) + rn (ng Z1) (am Z1) V1 * ((rd Y0 : Nat) : Int)) (((rd Y0 : Nat) : Int) * ((rd V1 : Nat) : Int)) Z V := by
    rw [rn_nf h1.pos, rd_nf h1.pos]
    have e1 := h1.eq
    have p1 := h1.pos
    refine hL.congr (Int.mul_ne_zero (rd_ne Y0) (by omega)) ?_
    grind
  have G1 := hide' h1
  have G2 := hide' h2
  clear hL h1 h2 hl
  go_enter Tryz.func36, Tryz.ntmps36
  go_wp2_with fail
  obtain ⟨W, hW⟩ : ∃ W, (((w.alloc (.cells #[.bool s0, .slice a0 n0 c0, .slice b0 m0 d0] 27)).alloc (.cells #[.bool s1, .slice a1 n1 c1, .slice b1 m1 d1] 27)).alloc (.cells #[.bool false, .slice none 0 0, .slice none 0 0] 27)) = W := ⟨_, rfl⟩
  have q00 : W.cell? ⟨w.heap.size, 0, none⟩ = some (.bool s0) := by subst hW; go_simp
  have q01 : W.cell? ⟨w.heap.size, 1, none⟩ = some (.slice a0 n0 c0) := by subst hW; go_simp
  have q02 : W.cell? ⟨w.heap.size, 2, none⟩ = some (.slice b0 m0 d0) := by subst hW; go_simp
  have q10 : W.cell? ⟨w.heap.size + 1, 0, none⟩ = some (.bool s1) := by subst hW; go_simp
  have q11 : W.cell? ⟨w.heap.size + 1, 1, none⟩ = some (.slice a1 n1 c1) := by subst hW; go_simp
  have q12 : W.cell? ⟨w.heap.size + 1, 2, none⟩ = some (.slice b1 m1 d1) := by subst hW; go_simp
  have r00 : W.cell? ⟨w.heap.size + 1 + 1, 0, none⟩ = some (.bool false) := by subst hW; go_simp
  have r01 : W.cell? ⟨w.heap.size + 1 + 1, 1, none⟩ = some (.slice none 0 0) := by subst hW; go_simp
  have r02 : W.cell? ⟨w.heap.size + 1 + 1, 2, none⟩ = some (.slice none 0 0) := by subst hW; go_simp
  have hB : Below w.heap.size w W := by subst hW; exact ((((Below.refl _ _).alloc (by (try simp only [World.size_alloc]); omega) _).alloc (by (try simp only [World.size_alloc]); omega) _).alloc (by (try simp only [World.size_alloc]); omega) _)
  have hR0 : Row W (w.heap.size + 1 + 1) := by
    have := row_new (((w.alloc (.cells #[.bool s0, .slice a0 n0 c0, .slice b0 m0 d0] 27)).alloc (.cells #[.bool s1, .slice a1 n1 c1, .slice b1 m1 d1] 27))) #[.bool false, .slice none 0 0, .slice none 0 0] 27
    try simp only [World.size_alloc] at this
    subst hW; exact this
  have hz : W.heap.size = w.heap.size + 1 + 1 + 1 := by subst hW; simp only [World.size_alloc]
  rw [hW]
  clear hW
  have hBW : Below W.heap.size W W := Below.refl _ _
  replace hBW := hBW.drew
  first
    | go_region_held3 (fun w' => w'.cell? ⟨w.heap.size, 0, none⟩ = some (.bool s0) ∧ w'.cell? ⟨w.heap.size, 1, none⟩ = some (.slice a0 n0 c0) ∧ w'.cell? ⟨w.heap.size, 2, none⟩ = some (.slice b0 m0 d0) ∧ w'.cell? ⟨w.heap.size + 1, 0, none⟩ = some (.bool s1) ∧ w'.cell? ⟨w.heap.size + 1, 1, none⟩ = some (.slice a1 n1 c1) ∧ w'.cell? ⟨w.heap.size + 1, 2, none⟩ = some (.slice b1 m1 d1) ∧ Below w.heap.size w w')
        (first | exact ⟨q00, q01, q02, q10, q11, q12, hB.trans (hBW.mono hB.size)⟩ | exact kp6 b41 (by assumption) | exact kp6 b42 (by assumption) | exact kp6 (below_alloc _) (by assumption) | exact kp6 (below_alloc _) ⟨q00, q01, q02, q10, q11, q12, hB.trans (hBW.mono hB.size)⟩ | exact kpT6_3 (by assumption) (by omega) (by omega) (by omega) (by omega) (by omega) (by omega) (by omega))
        (first
          | (go_at_call 72; (fail_if_success clear b41); refine (vqNeg_is s1 a1 n1 c1 X1 b1 m1 d1 Y1 Z1 V1 _ hc1 (by omega) (sb hS1 hB hBW) hd1 (by omega) (sb hT1 hB hBW) G1.out).mono ?_; rintro e w41 ⟨p41, q41, rfl, hp41, hq41⟩; have b41 := hp41.below; replace hp41 := hp41.back hBW; replace hq41 := hq41.back hBW; replace hBW := hBW.trans (b41.mono hBW.size); replace q00 := below_cell b41 q00; replace q01 := below_cell b41 q01; replace q02 := below_cell b41 q02; replace q10 := below_cell b41 q10; replace q11 := below_cell b41 q11; replace q12 := below_cell b41 q12; replace r00 := below_cell b41 r00; replace r01 := below_cell b41 r01; replace r02 := below_cell b41 r02; replace hR0 := below_row b41 hR0)
          | (go_at_call 33; (fail_if_success clear b42); refine (vqAdd_is s0 a0 n0 c0 X0 b0 m0 d0 Y0 (ng Z1) p41 (ln (am Z1)) (ln (am Z1)) (am Z1) q41 (ln V1) (ln V1) V1 Z V _ hc0 (by omega) (sb hS0 hB hBW) hd0 (by omega) (sb hT0 hB hBW) (Nat.le_refl _) (by omega) hp41.seg (Nat.le_refl _) (by omega) hq41.seg G2.out).mono ?_; rintro e w42 ⟨p42, q42, rfl, hp42, hq42⟩; have b42 := hp42.below; replace hp42 := hp42.back hBW; replace hq42 := hq42.back hBW; replace hBW := hBW.trans (b42.mono hBW.size); replace q00 := below_cell b42 q00; replace q01 := below_cell b42 q01; replace q02 := below_cell b42 q02; replace q10 := below_cell b42 q10; replace q11 := below_cell b42 q11; replace q12 := below_cell b42 q12; replace r00 := below_cell b42 r00; replace r01 := below_cell b42 r01; replace r02 := below_cell b42 r02; replace hR0 := below_row b42 hR0; replace hp41 := hp41.later b42; replace hq41 := hq41.later b42; have fz := fun o => hR0.frozen o))
    | fail
  have fz0 := fun o => hR0.frozen o
  go_wp2
  all_goals refine bodyPost_ret (v := Value.agg #[Value.bool (ng Z), Value.slice p42 (ln (am Z)) (ln (am Z)), Value.slice q42 (ln V) (ln V)]) (by rw [results_cell rfl]; go_simp) rfl ?_
  all_goals exact ⟨p42, q42, rfl, hp42.mid hB (((((Mid.refl _ _ _).set _ _ (by omega) (by omega) _).set _ _ (by omega) (by omega) _).set _ _ (by omega) (by omega) _)), hq42.mid hB (((((Mid.refl _ _ _).set _ _ (by omega) (by omega) _).set _ _ (by omega) (by omega) _).set _ _ (by omega) (by omega) _))⟩

set_option maxHeartbeats 4000000 in
set_option maxRecDepth 100000 in
theorem vqCmp_is (s0 : Bool) (a0 : Option Addr) (n0 c0 X0 : Nat) (b0 : Option Addr) (m0 d0 Y0 : Nat) (s1 : Bool) (a1 : Option Addr) (n1 c1 X1 : Nat) (b1 : Option Addr) (m1 d1 Y1 : Nat) (C : Int) (w : World) (hc0 : n0 ≤ c0) (hm0 : n0 ≤ 35184372088000) (hS0 : Seg w a0 X0 n0) (hd0 : m0 ≤ d0) (hk0 : m0 ≤ 35184372088000) (hT0 : Seg w b0 Y0 m0) (hc1 : n1 ≤ c1) (hm1 : n1 ≤ 35184372088000) (hS1 : Seg w a1 X1 n1) (hd1 : m1 ≤ d1) (hk1 : m1 ≤ 35184372088000) (hT1 : Seg w b1 Y1 m1) (hC : sgn (rn s0 X0 Y0 * (rd Y1 : Nat) - rn s1 X1 Y1 * (rd Y0 : Nat)) = C) :
    Calls Tryz.prog 15 #[Value.agg #[Value.bool s0, Value.slice a0 n0 c0, Value.slice b0 m0 d0], Value.agg #[Value.bool s1, Value.slice a1 n1 c1, Value.slice b1 m1 d1]] w fun e w' => e = .returned (.int .i64 C) ∧ Below w.heap.size w w' := by
  have hD : (((rd Y0 : Nat) : Int) * ((rd Y1 : Nat) : Int)) ≠ 0 := Int.mul_ne_zero (rd_ne Y0) (rd_ne Y1)
  obtain ⟨Z, V, hL⟩ := low_ex (rn s0 X0 Y0 * ((rd Y1 : Nat) : Int) + -(rn s1 X1 Y1) * ((rd Y0 : Nat) : Int)) _ hD
  have hl := hL.le
  have hDp : (0 : Int) < ((rd Y0 : Nat) : Int) * ((rd Y1 : Nat) : Int) := Int.mul_pos (by have := rd_pos Y0; omega) (by have := rd_pos Y1; omega)
  have hs : sgn (rn (ng Z) (am Z) V) = C := by
    rw [rn_nf hL.pos, hL.sgn hDp, ← hC, Int.neg_mul]
    rfl
  have lZ : ln (am Z) ≤ 70368744176020 := by
    have h1 := ln_mono hl.1
    have h2 := ln_mono (am_add (rn s0 X0 Y0 * ((rd Y1 : Nat) : Int)) (-(rn s1 X1 Y1) * ((rd Y0 : Nat) : Int)))
    rw [am_mul, am_mul, am_neg, am_nat, am_nat] at h2
    have p1 := ln_prod (Nat.lt_of_le_of_lt (rn_am s0 X0 Y0) hS0.1) (rd_lt hT1.1)
    have p2 := ln_prod (Nat.lt_of_le_of_lt (rn_am s1 X1 Y1) hS1.1) (rd_lt hT0.1)
    have h3 := ln_sum (ln_lt (am (rn s0 X0 Y0) * rd Y1)) (ln_lt (am (rn s1 X1 Y1) * rd Y0)) (k := 70368744176020) (by omega) (by omega)
    omega
  have lV : ln V ≤ 70368744176020 := by
    have h1 := ln_mono hl.2
    rw [am_mul, am_nat, am_nat] at h1
    have p1 := ln_prod (rd_lt hT0.1) (rd_lt hT1.1)
    omega
  have G1 := hide' hL
  have G2 := hide' hs
  clear hL hs hC hl hD hDp
  go_enter Tryz.func15, Tryz.ntmps15
  go_wp2_with fail
  obtain ⟨W, hW⟩ : ∃ W, ((w.alloc (.cells #[.bool s0, .slice a0 n0 c0, .slice b0 m0 d0] 27)).alloc (.cells #[.bool s1, .slice a1 n1 c1, .slice b1 m1 d1] 27)) = W := ⟨_, rfl⟩
  have q00 : W.cell? ⟨w.heap.size, 0, none⟩ = some (.bool s0) := by subst hW; go_simp
  have q01 : W.cell? ⟨w.heap.size, 1, none⟩ = some (.slice a0 n0 c0) := by subst hW; go_simp
  have q02 : W.cell? ⟨w.heap.size, 2, none⟩ = some (.slice b0 m0 d0) := by subst hW; go_simp
  have q10 : W.cell? ⟨w.heap.size + 1, 0, none⟩ = some (.bool s1) := by subst hW; go_simp
  have q11 : W.cell? ⟨w.heap.size + 1, 1, none⟩ = some (.slice a1 n1 c1) := by subst hW; go_simp
  have q12 : W.cell? ⟨w.heap.size + 1, 2, none⟩ = some (.slice b1 m1 d1) := by subst hW; go_simp
  have hB : Below w.heap.size w W := by subst hW; exact (((Below.refl _ _).alloc (by (try simp only [World.size_alloc]); omega) _).alloc (by (try simp only [World.size_alloc]); omega) _)
  have hz : W.heap.size = w.heap.size + 1 + 1 := by subst hW; simp only [World.size_alloc]
  rw [hW]
  clear hW
  have hBW : Below W.heap.size W W := Below.refl _ _
  refine (vqSub_is s0 a0 n0 c0 X0 b0 m0 d0 Y0 s1 a1 n1 c1 X1 b1 m1 d1 Y1 Z V _ hc0 (by omega) (sb hS0 hB hBW) hd0 (by omega) (sb hT0 hB hBW) hc1 (by omega) (sb hS1 hB hBW) hd1 (by omega) (sb hT1 hB hBW) G1.out).mono ?_
  rintro e w41 ⟨p41, q41, rfl, hp41, hq41⟩
  have b41 := hp41.below
  replace hp41 := hp41.back hBW
  replace hq41 := hq41.back hBW
  replace hBW := hBW.trans (b41.mono hBW.size)
  replace q00 := below_cell b41 q00
  replace q01 := below_cell b41 q01
  replace q02 := below_cell b41 q02
  replace q10 := below_cell b41 q10
  replace q11 := below_cell b41 q11
  replace q12 := below_cell b41 q12
  go_wp2_with fail
  refine (vqSign_is (ng Z) p41 (ln (am Z)) (ln (am Z)) (am Z) q41 (ln V) (ln V) V C _ (Nat.le_refl _) (by omega) hp41.seg (Nat.le_refl _) (by omega) hq41.seg G2.out).mono ?_
  rintro e w42 ⟨rfl, b42⟩
  replace hBW := hBW.trans (b42.mono hBW.size)
  replace q00 := below_cell b42 q00
  replace q01 := below_cell b42 q01
  replace q02 := below_cell b42 q02
  replace q10 := below_cell b42 q10
  replace q11 := below_cell b42 q11
  replace q12 := below_cell b42 q12
  replace hp41 := hp41.later b42
  replace hq41 := hq41.later b42
  go_wp2
  go_ret
  exact ⟨rfl, hB.trans (hBW.mono hB.size)⟩

end Go.Proofs.YtejlnodillnoaaaGreatDoor
