/-
  Layer 5 (delta): Of, At, of the program and of the reference.
-/
import Derived.Test.YtggblpbcphgnoaaGreatDoorWD2
namespace Go.Proofs.YtggblpbcphgnoaaGreatDoor
open Go.RowKit
set_option linter.unusedVariables false

theorem Seg.none (w : World) : Seg w none 0 0 := ⟨by simp, fun h => absurd h (by omega)⟩
theorem low_none {Z : Int} {V : Nat} (h1 : Z = 0) (h2 : V = 1) : Low (rn false 0 0) ((rd 0 : Nat) : Int) Z V := by
  subst h1 h2
  exact low_zero (rd_ne 0)
theorem low_neg_ln {s : Bool} {X Y n m : Nat} {Z : Int} {V : Nat} (hX : X < BB ^ n) (hY : Y < BB ^ m) (h : Low (-(rn s X Y)) ((rd Y : Nat) : Int) Z V) : ln (am Z) ≤ n ∧ ln V ≤ m + 1 := by
  have hl := h.le
  rw [am_neg, am_nat] at hl
  exact ⟨ln_le_of_lt (Nat.lt_of_le_of_lt hl.1 (rn_lt hX)), ln_le_of_lt (Nat.lt_of_le_of_lt hl.2 (rd_lt hY))⟩
theorem at_ln {A0 A1 A4 Z : Int} {D0 D1 D4 V a0 a1 a4 d0 d1 d4 : Nat} (h : Low (A0 * (((D1 : Nat) : Int) * ((D4 : Nat) : Int)) + A1 * A4 * ((D0 : Nat) : Int)) (((D0 : Nat) : Int) * (((D1 : Nat) : Int) * ((D4 : Nat) : Int))) Z V) (h0 : am A0 < BB ^ a0) (h1 : am A1 < BB ^ a1) (h4 : am A4 < BB ^ a4) (k0 : D0 < BB ^ d0) (k1 : D1 < BB ^ d1) (k4 : D4 < BB ^ d4) :
    ln (am Z) ≤ a0 + (d1 + d4) + (a1 + a4 + d0) + 1 ∧ ln V ≤ d0 + (d1 + d4) := by
  rw [← Int.natCast_mul] at h
  have e1 : am (A1 * A4) < BB ^ (a1 + a4) := by
    have := ln_prod h1 h4
    rw [am_mul]
    exact Nat.lt_of_lt_of_le (ln_lt _) (pow_mono this)
  have e2 : D1 * D4 < BB ^ (d1 + d4) := Nat.lt_of_lt_of_le (ln_lt _) (pow_mono (ln_prod k1 k4))
  have := lowS_ln h h0 e1 k0 e2
  omega
set_option maxHeartbeats 2000000 in
set_option maxRecDepth 100000 in
theorem dOf_is (s0 : Bool) (a0 : Option Addr) (n0 c0 X0 : Nat) (b0 : Option Addr) (m0 d0 Y0 : Nat) (Z : Int) (V : Nat) (Z2 : Int) (V2 : Nat) (w : World) (hc0 : n0 ≤ c0) (hm0 : n0 ≤ 35184372088000) (hS0 : Seg w a0 X0 n0) (hd0 : m0 ≤ d0) (hk0 : m0 ≤ 35184372088000) (hT0 : Seg w b0 Y0 m0) (hL : Low (rn s0 X0 Y0) (rd Y0 : Nat) Z V) (hZ2 : Z2 = 0) (hV2 : V2 = 1) :
    Calls Tryz.prog 9 #[Value.agg #[Value.bool s0, Value.slice a0 n0 c0, Value.slice b0 m0 d0]] w fun e w' => ∃ p q r t, e = .returned (Value.agg #[Value.bool (ng Z), Value.slice p (ln (am Z)) (ln (am Z)), Value.slice q (ln V) (ln V), Value.bool (ng Z2), Value.slice r (ln (am Z2)) (ln (am Z2)), Value.slice t (ln V2) (ln V2)]) ∧ New w w' p (am Z) (ln (am Z)) ∧ New w w' q V (ln V) ∧ New w w' r (am Z2) (ln (am Z2)) ∧ New w w' t V2 (ln V2) := by
  have HL := hide' hL
  have P1 : ∀ w', Calls Tryz.prog 21 #[.int .i64 0] w' fun e w'' => ∃ p q, e = .returned (Value.agg #[Value.bool (ng Z2), Value.slice p (ln (am Z2)) (ln (am Z2)), Value.slice q (ln V2) (ln V2)]) ∧ New w' w'' p (am Z2) (ln (am Z2)) ∧ New w' w'' q V2 (ln V2) := fun w' => by
    subst hZ2 hV2
    exact qWhole_is 0 w' (by omega) (by omega)
  have H2 := hide' P1
  clear hL P1 hZ2 hV2
  go_enter Tryz.func9, Tryz.ntmps9
  go_wp2_with fail
  obtain ⟨W, hW⟩ : ∃ W, ((w.alloc (.cells #[.bool s0, .slice a0 n0 c0, .slice b0 m0 d0] 27)).alloc (.cells #[.bool false, .slice none 0 0, .slice none 0 0, .bool false, .slice none 0 0, .slice none 0 0] 29)) = W := ⟨_, rfl⟩
  have q00 : W.cell? ⟨w.heap.size, 0, none⟩ = some (.bool s0) := by subst hW; go_simp
  have q01 : W.cell? ⟨w.heap.size, 1, none⟩ = some (.slice a0 n0 c0) := by subst hW; go_simp
  have q02 : W.cell? ⟨w.heap.size, 2, none⟩ = some (.slice b0 m0 d0) := by subst hW; go_simp
  have r00 : W.cell? ⟨w.heap.size + 1, 0, none⟩ = some (.bool false) := by subst hW; go_simp
  have r01 : W.cell? ⟨w.heap.size + 1, 1, none⟩ = some (.slice none 0 0) := by subst hW; go_simp
  have r02 : W.cell? ⟨w.heap.size + 1, 2, none⟩ = some (.slice none 0 0) := by subst hW; go_simp
  have r03 : W.cell? ⟨w.heap.size + 1, 3, none⟩ = some (.bool false) := by subst hW; go_simp
  have r04 : W.cell? ⟨w.heap.size + 1, 4, none⟩ = some (.slice none 0 0) := by subst hW; go_simp
  have r05 : W.cell? ⟨w.heap.size + 1, 5, none⟩ = some (.slice none 0 0) := by subst hW; go_simp
  have hB : Below w.heap.size w W := by subst hW; exact (((Below.refl _ _).alloc (by (try simp only [World.size_alloc]); omega) _).alloc (by (try simp only [World.size_alloc]); omega) _)
  have hR0 : Row W (w.heap.size + 1) := by
    have := row_new ((w.alloc (.cells #[.bool s0, .slice a0 n0 c0, .slice b0 m0 d0] 27))) #[.bool false, .slice none 0 0, .slice none 0 0, .bool false, .slice none 0 0, .slice none 0 0] 29
    try simp only [World.size_alloc] at this
    subst hW; exact this
  have hz : W.heap.size = w.heap.size + 1 + 1 := by subst hW; simp only [World.size_alloc]
  rw [hW]
  clear hW
  have hBW : Below W.heap.size W W := Below.refl _ _
  refine (qNorm_is s0 a0 n0 c0 X0 b0 m0 d0 Y0 Z V _ hc0 (by omega) (sb hS0 hB hBW) hd0 (by omega) (sb hT0 hB hBW) HL.out).mono ?_
  rintro e w41 ⟨p41, q41, rfl, hp41, hq41⟩
  have b41 := hp41.below
  replace hp41 := hp41.back hBW
  replace hq41 := hq41.back hBW
  replace hBW := hBW.trans (b41.mono hBW.size)
  replace q00 := below_cell b41 q00
  replace q01 := below_cell b41 q01
  replace q02 := below_cell b41 q02
  replace r00 := below_cell b41 r00
  replace r01 := below_cell b41 r01
  replace r02 := below_cell b41 r02
  replace r03 := below_cell b41 r03
  replace r04 := below_cell b41 r04
  replace r05 := below_cell b41 r05
  replace hR0 := below_row b41 hR0
  go_wp2_with fail
  refine (H2.out _).mono ?_
  rintro e w42 ⟨p42, q42, rfl, hp42, hq42⟩
  have b42 := hp42.below
  replace hp42 := hp42.back hBW
  replace hq42 := hq42.back hBW
  replace hBW := hBW.trans (b42.mono hBW.size)
  replace q00 := below_cell b42 q00
  replace q01 := below_cell b42 q01
  replace q02 := below_cell b42 q02
  replace r00 := below_cell b42 r00
  replace r01 := below_cell b42 r01
  replace r02 := below_cell b42 r02
  replace r03 := below_cell b42 r03
  replace r04 := below_cell b42 r04
  replace r05 := below_cell b42 r05
  replace hR0 := below_row b42 hR0
  replace hp41 := hp41.later b42
  replace hq41 := hq41.later b42
  have fz0 := fun o => hR0.frozen o
  go_wp2
  all_goals refine bodyPost_ret (v := Value.agg #[Value.bool (ng Z), Value.slice p41 (ln (am Z)) (ln (am Z)), Value.slice q41 (ln V) (ln V), Value.bool (ng Z2), Value.slice p42 (ln (am Z2)) (ln (am Z2)), Value.slice q42 (ln V2) (ln V2)]) (by rw [results_cell rfl]; go_simp) rfl ?_
  all_goals exact ⟨p41, q41, p42, q42, rfl, hp41.mid hB ((((((((Mid.refl _ _ _).set _ _ (by omega) (by omega) _).set _ _ (by omega) (by omega) _).set _ _ (by omega) (by omega) _).set _ _ (by omega) (by omega) _).set _ _ (by omega) (by omega) _).set _ _ (by omega) (by omega) _)), hq41.mid hB ((((((((Mid.refl _ _ _).set _ _ (by omega) (by omega) _).set _ _ (by omega) (by omega) _).set _ _ (by omega) (by omega) _).set _ _ (by omega) (by omega) _).set _ _ (by omega) (by omega) _).set _ _ (by omega) (by omega) _)), hp42.mid hB ((((((((Mid.refl _ _ _).set _ _ (by omega) (by omega) _).set _ _ (by omega) (by omega) _).set _ _ (by omega) (by omega) _).set _ _ (by omega) (by omega) _).set _ _ (by omega) (by omega) _).set _ _ (by omega) (by omega) _)), hq42.mid hB ((((((((Mid.refl _ _ _).set _ _ (by omega) (by omega) _).set _ _ (by omega) (by omega) _).set _ _ (by omega) (by omega) _).set _ _ (by omega) (by omega) _).set _ _ (by omega) (by omega) _).set _ _ (by omega) (by omega) _))⟩

set_option maxHeartbeats 2000000 in
set_option maxRecDepth 100000 in
theorem vdOf_is (s0 : Bool) (a0 : Option Addr) (n0 c0 X0 : Nat) (b0 : Option Addr) (m0 d0 Y0 : Nat) (Z : Int) (V : Nat) (Z2 : Int) (V2 : Nat) (w : World) (hc0 : n0 ≤ c0) (hm0 : n0 ≤ 35184372088000) (hS0 : Seg w a0 X0 n0) (hd0 : m0 ≤ d0) (hk0 : m0 ≤ 35184372088000) (hT0 : Seg w b0 Y0 m0) (hL : Low (rn s0 X0 Y0) (rd Y0 : Nat) Z V) (hZ2 : Z2 = 0) (hV2 : V2 = 1) :
    Calls Tryz.prog 11 #[Value.agg #[Value.bool s0, Value.slice a0 n0 c0, Value.slice b0 m0 d0]] w fun e w' => ∃ p q r t, e = .returned (Value.agg #[Value.bool (ng Z), Value.slice p (ln (am Z)) (ln (am Z)), Value.slice q (ln V) (ln V), Value.bool (ng Z2), Value.slice r (ln (am Z2)) (ln (am Z2)), Value.slice t (ln V2) (ln V2)]) ∧ New w w' p (am Z) (ln (am Z)) ∧ New w w' q V (ln V) ∧ New w w' r (am Z2) (ln (am Z2)) ∧ New w w' t V2 (ln V2) := by
  have HL := hide' hL
  have H2 := hide' (low_none hZ2 hV2)
  clear hL hZ2 hV2
  go_enter Tryz.func11, Tryz.ntmps11
  go_wp2_with fail
  obtain ⟨W, hW⟩ : ∃ W, ((w.alloc (.cells #[.bool s0, .slice a0 n0 c0, .slice b0 m0 d0] 27)).alloc (.cells #[.bool false, .slice none 0 0, .slice none 0 0, .bool false, .slice none 0 0, .slice none 0 0] 29)) = W := ⟨_, rfl⟩
  have q00 : W.cell? ⟨w.heap.size, 0, none⟩ = some (.bool s0) := by subst hW; go_simp
  have q01 : W.cell? ⟨w.heap.size, 1, none⟩ = some (.slice a0 n0 c0) := by subst hW; go_simp
  have q02 : W.cell? ⟨w.heap.size, 2, none⟩ = some (.slice b0 m0 d0) := by subst hW; go_simp
  have r00 : W.cell? ⟨w.heap.size + 1, 0, none⟩ = some (.bool false) := by subst hW; go_simp
  have r01 : W.cell? ⟨w.heap.size + 1, 1, none⟩ = some (.slice none 0 0) := by subst hW; go_simp
  have r02 : W.cell? ⟨w.heap.size + 1, 2, none⟩ = some (.slice none 0 0) := by subst hW; go_simp
  have r03 : W.cell? ⟨w.heap.size + 1, 3, none⟩ = some (.bool false) := by subst hW; go_simp
  have r04 : W.cell? ⟨w.heap.size + 1, 4, none⟩ = some (.slice none 0 0) := by subst hW; go_simp
  have r05 : W.cell? ⟨w.heap.size + 1, 5, none⟩ = some (.slice none 0 0) := by subst hW; go_simp
  have hB : Below w.heap.size w W := by subst hW; exact (((Below.refl _ _).alloc (by (try simp only [World.size_alloc]); omega) _).alloc (by (try simp only [World.size_alloc]); omega) _)
  have hR0 : Row W (w.heap.size + 1) := by
    have := row_new ((w.alloc (.cells #[.bool s0, .slice a0 n0 c0, .slice b0 m0 d0] 27))) #[.bool false, .slice none 0 0, .slice none 0 0, .bool false, .slice none 0 0, .slice none 0 0] 29
    try simp only [World.size_alloc] at this
    subst hW; exact this
  have hz : W.heap.size = w.heap.size + 1 + 1 := by subst hW; simp only [World.size_alloc]
  rw [hW]
  clear hW
  have hBW : Below W.heap.size W W := Below.refl _ _
  refine (vdNorm_is s0 a0 n0 c0 X0 b0 m0 d0 Y0 false none 0 0 0 none 0 0 0 Z V Z2 V2 _ hc0 (by omega) (sb hS0 hB hBW) hd0 (by omega) (sb hT0 hB hBW) (Nat.le_refl _) (by omega) (Seg.none _) (Nat.le_refl _) (by omega) (Seg.none _) HL.out H2.out).mono ?_
  rintro e w41 ⟨p41, q41, r41, t41, rfl, hp41, hq41, hr41, ht41⟩
  have b41 := hp41.below
  replace hp41 := hp41.back hBW
  replace hq41 := hq41.back hBW
  replace hr41 := hr41.back hBW
  replace ht41 := ht41.back hBW
  replace hBW := hBW.trans (b41.mono hBW.size)
  replace q00 := below_cell b41 q00
  replace q01 := below_cell b41 q01
  replace q02 := below_cell b41 q02
  replace r00 := below_cell b41 r00
  replace r01 := below_cell b41 r01
  replace r02 := below_cell b41 r02
  replace r03 := below_cell b41 r03
  replace r04 := below_cell b41 r04
  replace r05 := below_cell b41 r05
  replace hR0 := below_row b41 hR0
  have fz0 := fun o => hR0.frozen o
  go_wp2
  all_goals refine bodyPost_ret (v := Value.agg #[Value.bool (ng Z), Value.slice p41 (ln (am Z)) (ln (am Z)), Value.slice q41 (ln V) (ln V), Value.bool (ng Z2), Value.slice r41 (ln (am Z2)) (ln (am Z2)), Value.slice t41 (ln V2) (ln V2)]) (by rw [results_cell rfl]; go_simp) rfl ?_
  all_goals exact ⟨p41, q41, r41, t41, rfl, hp41.mid hB ((((((((Mid.refl _ _ _).set _ _ (by omega) (by omega) _).set _ _ (by omega) (by omega) _).set _ _ (by omega) (by omega) _).set _ _ (by omega) (by omega) _).set _ _ (by omega) (by omega) _).set _ _ (by omega) (by omega) _)), hq41.mid hB ((((((((Mid.refl _ _ _).set _ _ (by omega) (by omega) _).set _ _ (by omega) (by omega) _).set _ _ (by omega) (by omega) _).set _ _ (by omega) (by omega) _).set _ _ (by omega) (by omega) _).set _ _ (by omega) (by omega) _)), hr41.mid hB ((((((((Mid.refl _ _ _).set _ _ (by omega) (by omega) _).set _ _ (by omega) (by omega) _).set _ _ (by omega) (by omega) _).set _ _ (by omega) (by omega) _).set _ _ (by omega) (by omega) _).set _ _ (by omega) (by omega) _)), ht41.mid hB ((((((((Mid.refl _ _ _).set _ _ (by omega) (by omega) _).set _ _ (by omega) (by omega) _).set _ _ (by omega) (by omega) _).set _ _ (by omega) (by omega) _).set _ _ (by omega) (by omega) _).set _ _ (by omega) (by omega) _))⟩

end Go.Proofs.YtggblpbcphgnoaaGreatDoor
