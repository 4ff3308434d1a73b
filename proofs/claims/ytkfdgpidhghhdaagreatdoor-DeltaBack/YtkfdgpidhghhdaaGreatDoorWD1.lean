/-
  Layer 5 (delta): the functions part by part, of the program and of the reference; copies.
-/
import Derived.Test.YtkfdgpidhghhdaaGreatDoorWQ7
import Derived.Test.YtkfdgpidhghhdaaGreatDoorWQ3
import Derived.Test.YtkfdgpidhghhdaaGreatDoorWD0
import Derived.Test.YtkfdgpidhghhdaaGreatDoorWQ5
import Derived.Test.YtkfdgpidhghhdaaGreatDoorWQN
namespace Go.Proofs.YtkfdgpidhghhdaaGreatDoor
open Go.RowKit
set_option linter.unusedVariables false

theorem Seg.set3 {w : World} {p : Option Addr} {X n c : Nat} {u0 u1 u2 : Value} {z0 : Bool} {a1 a2 : Option Addr} {n1 n2 k1 k2 : Nat} (h : Seg w p X n) (h0 : w.cell? ⟨c, 0, none⟩ = some (.bool z0)) (h1 : w.cell? ⟨c, 1, none⟩ = some (.slice a1 n1 k1)) (h2 : w.cell? ⟨c, 2, none⟩ = some (.slice a2 n2 k2)) :
    Seg (((w.setCell ⟨c, 0, none⟩ u0).setCell ⟨c, 1, none⟩ u1).setCell ⟨c, 2, none⟩ u2) p X n := by
  refine ((h.setB h0 (by simp)).setB (z := .slice a1 n1 k1) ?_ (by simp)).setB (z := .slice a2 n2 k2) ?_ (by simp)
  · rw [World.cell?_setCell_other _ _ _ _ (fun e => by simp at e)]; exact h1
  · rw [World.cell?_setCell_other _ _ _ _ (fun e => by simp at e), World.cell?_setCell_other _ _ _ _ (fun e => by simp at e)]; exact h2

end Go.Proofs.YtkfdgpidhghhdaaGreatDoor

namespace Go.Proofs.YtkfdgpidhghhdaaGreatDoor
open Go.RowKit
set_option linter.unusedVariables false

theorem lt_prod {a b : Int} {i j : Nat} (ha : am a < BB ^ i) (hb : am b < BB ^ j) : am (a * b) < BB ^ (i + j) := by
  rw [am_mul, Nat.pow_add]
  exact Nat.mul_lt_mul'' ha hb
theorem lt_sum {a b : Int} {i j k : Nat} (ha : am a < BB ^ i) (hb : am b < BB ^ j) (hi : i + 1 ≤ k) (hj : j + 1 ≤ k) : am (a + b) < BB ^ k :=
  Nat.lt_of_lt_of_le (Nat.lt_of_le_of_lt (am_add a b) (ln_lt (am a + am b))) (pow_mono (ln_sum ha hb hi hj))
theorem ln1 {A D Z : Int} {V i j k : Nat} (h : Low A D Z V) (hA : am A < BB ^ i) (hD : am D < BB ^ j) (hi : i ≤ k) (hj : j ≤ k) : ln (am Z) ≤ k ∧ ln V ≤ k :=
  ⟨Nat.le_trans (ln_le_of_lt (Nat.lt_of_le_of_lt h.le.1 hA)) hi, Nat.le_trans (ln_le_of_lt (Nat.lt_of_le_of_lt h.le.2 hD)) hj⟩


end Go.Proofs.YtkfdgpidhghhdaaGreatDoor

namespace Go.Proofs.YtkfdgpidhghhdaaGreatDoor
open Go.RowKit
set_option linter.unusedVariables false


end Go.Proofs.YtkfdgpidhghhdaaGreatDoor

namespace Go.Proofs.YtkfdgpidhghhdaaGreatDoor
open Go.RowKit
set_option linter.unusedVariables false

set_option maxHeartbeats 4000000 in
set_option maxRecDepth 100000 in
theorem dNorm_is (s0 : Bool) (a0 : Option Addr) (n0 c0 X0 : Nat) (b0 : Option Addr) (m0 d0 Y0 : Nat) (s1 : Bool) (a1 : Option Addr) (n1 c1 X1 : Nat) (b1 : Option Addr) (m1 d1 Y1 : Nat) (Z : Int) (V : Nat) (Z2 : Int) (V2 : Nat) (w : World) (hc0 : n0 ≤ c0) (hm0 : n0 ≤ 35184372088000) (hS0 : Seg w a0 X0 n0) (hd0 : m0 ≤ d0) (hk0 : m0 ≤ 35184372088000) (hT0 : Seg w b0 Y0 m0) (hc1 : n1 ≤ c1) (hm1 : n1 ≤ 35184372088000) (hS1 : Seg w a1 X1 n1) (hd1 : m1 ≤ d1) (hk1 : m1 ≤ 35184372088000) (hT1 : Seg w b1 Y1 m1) (hL : Low (rn s0 X0 Y0) (rd Y0 : Nat) Z V) (hL2 : Low (rn s1 X1 Y1) (rd Y1 : Nat) Z2 V2) :
    Calls Tryz.prog 10 #[Value.agg #[Value.bool s0, Value.slice a0 n0 c0, Value.slice b0 m0 d0, Value.bool s1, Value.slice a1 n1 c1, Value.slice b1 m1 d1]] w fun e w' => ∃ p q r t, e = .returned (Value.agg #[Value.bool (ng Z), Value.slice p (ln (am Z)) (ln (am Z)), Value.slice q (ln V) (ln V), Value.bool (ng Z2), Value.slice r (ln (am Z2)) (ln (am Z2)), Value.slice t (ln V2) (ln V2)]) ∧ New w w' p (am Z) (ln (am Z)) ∧ New w w' q V (ln V) ∧ New w w' r (am Z2) (ln (am Z2)) ∧ New w w' t V2 (ln V2) := by
  have HL := hide' hL
  have HL2 := hide' hL2
  clear hL hL2
  go_enter Tryz.func10, Tryz.ntmps10
  go_wp2_with fail
  obtain ⟨W, hW⟩ : ∃ W, ((w.alloc (.cells #[.bool s0, .slice a0 n0 c0, .slice b0 m0 d0, .bool s1, .slice a1 n1 c1, .slice b1 m1 d1] 29)).alloc (.cells #[.bool false, .slice none 0 0, .slice none 0 0, .bool false, .slice none 0 0, .slice none 0 0] 29)) = W := ⟨_, rfl⟩
  have q00 : W.cell? ⟨w.heap.size, 0, none⟩ = some (.bool s0) := by subst hW; go_simp
  have q01 : W.cell? ⟨w.heap.size, 1, none⟩ = some (.slice a0 n0 c0) := by subst hW; go_simp
  have q02 : W.cell? ⟨w.heap.size, 2, none⟩ = some (.slice b0 m0 d0) := by subst hW; go_simp
  have q03 : W.cell? ⟨w.heap.size, 3, none⟩ = some (.bool s1) := by subst hW; go_simp
  have q04 : W.cell? ⟨w.heap.size, 4, none⟩ = some (.slice a1 n1 c1) := by subst hW; go_simp
  have q05 : W.cell? ⟨w.heap.size, 5, none⟩ = some (.slice b1 m1 d1) := by subst hW; go_simp
  have r00 : W.cell? ⟨w.heap.size + 1, 0, none⟩ = some (.bool false) := by subst hW; go_simp
  have r01 : W.cell? ⟨w.heap.size + 1, 1, none⟩ = some (.slice none 0 0) := by subst hW; go_simp
  have r02 : W.cell? ⟨w.heap.size + 1, 2, none⟩ = some (.slice none 0 0) := by subst hW; go_simp
  have r03 : W.cell? ⟨w.heap.size + 1, 3, none⟩ = some (.bool false) := by subst hW; go_simp
  have r04 : W.cell? ⟨w.heap.size + 1, 4, none⟩ = some (.slice none 0 0) := by subst hW; go_simp
  have r05 : W.cell? ⟨w.heap.size + 1, 5, none⟩ = some (.slice none 0 0) := by subst hW; go_simp
  have hB : Below w.heap.size w W := by subst hW; exact (((Below.refl _ _).alloc (by (try simp only [World.size_alloc]); omega) _).alloc (by (try simp only [World.size_alloc]); omega) _)
  have hR0 : Row W (w.heap.size + 1) := by
    have := row_new ((w.alloc (.cells #[.bool s0, .slice a0 n0 c0, .slice b0 m0 d0, .bool s1, .slice a1 n1 c1, .slice b1 m1 d1] 29))) #[.bool false, .slice none 0 0, .slice none 0 0, .bool false, .slice none 0 0, .slice none 0 0] 29
    try simp only [World.size_alloc] at this
    subst hW; exact this
  have hz : W.heap.size = w.heap.size + 1 + 1 := by subst hW; simp only [World.size_alloc]
  rw [hW]
  clear hW
  have hBW : Below W.heap.size W W := Below.refl _ _
  replace hBW := hBW.drew
  first
    | go_region_held3 (fun w' => w'.cell? ⟨w.heap.size, 0, none⟩ = some (.bool s0) ∧ w'.cell? ⟨w.heap.size, 1, none⟩ = some (.slice a0 n0 c0) ∧ w'.cell? ⟨w.heap.size, 2, none⟩ = some (.slice b0 m0 d0) ∧ w'.cell? ⟨w.heap.size, 3, none⟩ = some (.bool s1) ∧ w'.cell? ⟨w.heap.size, 4, none⟩ = some (.slice a1 n1 c1) ∧ w'.cell? ⟨w.heap.size, 5, none⟩ = some (.slice b1 m1 d1) ∧ Below w.heap.size w w')
        (first | with_reducible exact kpT6_6 (by assumption) (by omega) (by omega) (by omega) (by omega) (by omega) (by omega) (by omega) | exact ⟨q00, q01, q02, q03, q04, q05, hB.trans (hBW.mono hB.size)⟩ | exact kp6 b41 (by assumption) | exact kp6 b42 (by assumption) | exact kp6 (below_alloc _) (by assumption) | exact kp6 (below_alloc _) ⟨q00, q01, q02, q03, q04, q05, hB.trans (hBW.mono hB.size)⟩ | exact kpT6_6 (by assumption) (by omega) (by omega) (by omega) (by omega) (by omega) (by omega) (by omega))
        (first
          | (go_at_call 18; go_at_call_of 18 (Value.agg #[Value.bool s0, Value.slice a0 n0 c0, Value.slice b0 m0 d0]); (fail_if_success clear b41); refine (qNorm_is s0 a0 n0 c0 X0 b0 m0 d0 Y0 Z V _ hc0 (by omega) (sb hS0 hB hBW) hd0 (by omega) (sb hT0 hB hBW) HL.out).mono ?_; rintro e w41 ⟨p41, q41, rfl, hp41, hq41⟩; have b41 := hp41.below; replace hp41 := hp41.back hBW; replace hq41 := hq41.back hBW; replace hBW := hBW.trans (b41.mono hBW.size); replace q00 := below_cell b41 q00; replace q01 := below_cell b41 q01; replace q02 := below_cell b41 q02; replace q03 := below_cell b41 q03; replace q04 := below_cell b41 q04; replace q05 := below_cell b41 q05; replace r00 := below_cell b41 r00; replace r01 := below_cell b41 r01; replace r02 := below_cell b41 r02; replace r03 := below_cell b41 r03; replace r04 := below_cell b41 r04; replace r05 := below_cell b41 r05; replace hR0 := below_row b41 hR0)
          | (go_at_call 18; go_at_call_of 18 (Value.agg #[Value.bool s1, Value.slice a1 n1 c1, Value.slice b1 m1 d1]); (fail_if_success clear b42); refine (qNorm_is s1 a1 n1 c1 X1 b1 m1 d1 Y1 Z2 V2 _ hc1 (by omega) (sb hS1 hB hBW) hd1 (by omega) (sb hT1 hB hBW) HL2.out).mono ?_; rintro e w42 ⟨p42, q42, rfl, hp42, hq42⟩; have b42 := hp42.below; replace hp42 := hp42.back hBW; replace hq42 := hq42.back hBW; replace hBW := hBW.trans (b42.mono hBW.size); replace q00 := below_cell b42 q00; replace q01 := below_cell b42 q01; replace q02 := below_cell b42 q02; replace q03 := below_cell b42 q03; replace q04 := below_cell b42 q04; replace q05 := below_cell b42 q05; replace r00 := below_cell b42 r00; replace r01 := below_cell b42 r01; replace r02 := below_cell b42 r02; replace r03 := below_cell b42 r03; replace r04 := below_cell b42 r04; replace r05 := below_cell b42 r05; replace hR0 := below_row b42 hR0; replace hp41 := hp41.later b42; replace hq41 := hq41.later b42; have fz := fun o => hR0.frozen o))
    | fail
  have fz0 := fun o => hR0.frozen o
  go_wp2
  all_goals refine bodyPost_ret (v := Value.agg #[Value.bool (ng Z), Value.slice p41 (ln (am Z)) (ln (am Z)), Value.slice q41 (ln V) (ln V), Value.bool (ng Z2), Value.slice p42 (ln (am Z2)) (ln (am Z2)), Value.slice q42 (ln V2) (ln V2)]) (by rw [results_cell rfl]; go_simp) rfl ?_
  all_goals exact ⟨p41, q41, p42, q42, rfl, hp41.mid hB ((((((((Mid.refl _ _ _).set _ _ (by omega) (by omega) _).set _ _ (by omega) (by omega) _).set _ _ (by omega) (by omega) _).set _ _ (by omega) (by omega) _).set _ _ (by omega) (by omega) _).set _ _ (by omega) (by omega) _)), hq41.mid hB ((((((((Mid.refl _ _ _).set _ _ (by omega) (by omega) _).set _ _ (by omega) (by omega) _).set _ _ (by omega) (by omega) _).set _ _ (by omega) (by omega) _).set _ _ (by omega) (by omega) _).set _ _ (by omega) (by omega) _)), hp42.mid hB ((((((((Mid.refl _ _ _).set _ _ (by omega) (by omega) _).set _ _ (by omega) (by omega) _).set _ _ (by omega) (by omega) _).set _ _ (by omega) (by omega) _).set _ _ (by omega) (by omega) _).set _ _ (by omega) (by omega) _)), hq42.mid hB ((((((((Mid.refl _ _ _).set _ _ (by omega) (by omega) _).set _ _ (by omega) (by omega) _).set _ _ (by omega) (by omega) _).set _ _ (by omega) (by omega) _).set _ _ (by omega) (by omega) _).set _ _ (by omega) (by omega) _))⟩


set_option maxHeartbeats 2000000 in
theorem dtwin_is (s0 : Bool) (a0 : Option Addr) (n0 c0 X0 : Nat) (b0 : Option Addr) (m0 d0 Y0 : Nat) (s1 : Bool) (a1 : Option Addr) (n1 c1 X1 : Nat) (b1 : Option Addr) (m1 d1 Y1 : Nat) (w : World) (hc0 : n0 ≤ c0) (hm0 : n0 ≤ 70368744177664) (hS0 : Seg w a0 X0 n0) (hd0 : m0 ≤ d0) (hk0 : m0 ≤ 70368744177664) (hT0 : Seg w b0 Y0 m0) (hc1 : n1 ≤ c1) (hm1 : n1 ≤ 70368744177664) (hS1 : Seg w a1 X1 n1) (hd1 : m1 ≤ d1) (hk1 : m1 ≤ 70368744177664) (hT1 : Seg w b1 Y1 m1) :
    Calls Tryz.prog 7 #[Value.agg #[Value.bool s0, Value.slice a0 n0 c0, Value.slice b0 m0 d0, Value.bool s1, Value.slice a1 n1 c1, Value.slice b1 m1 d1]] w fun e w' => ∃ p q r t, e = .returned (.agg #[.bool s0, .slice p n0 n0, .slice q m0 m0, .bool s1, .slice r n1 n1, .slice t m1 m1]) ∧ New w w' p X0 n0 ∧ New w w' q Y0 m0 ∧ New w w' r X1 n1 ∧ New w w' t Y1 m1 := by
  go_enter Tryz.func7, Tryz.ntmps7
  go_wp2_with fail
  obtain ⟨W, hW⟩ : ∃ W, ((w.alloc (.cells #[.bool s0, .slice a0 n0 c0, .slice b0 m0 d0, .bool s1, .slice a1 n1 c1, .slice b1 m1 d1] 29)).alloc (.cells #[.bool false, .slice none 0 0, .slice none 0 0, .bool false, .slice none 0 0, .slice none 0 0] 29)) = W := ⟨_, rfl⟩
  have q00 : W.cell? ⟨w.heap.size, 0, none⟩ = some (.bool s0) := by subst hW; go_simp
  have q01 : W.cell? ⟨w.heap.size, 1, none⟩ = some (.slice a0 n0 c0) := by subst hW; go_simp
  have q02 : W.cell? ⟨w.heap.size, 2, none⟩ = some (.slice b0 m0 d0) := by subst hW; go_simp
  have q03 : W.cell? ⟨w.heap.size, 3, none⟩ = some (.bool s1) := by subst hW; go_simp
  have q04 : W.cell? ⟨w.heap.size, 4, none⟩ = some (.slice a1 n1 c1) := by subst hW; go_simp
  have q05 : W.cell? ⟨w.heap.size, 5, none⟩ = some (.slice b1 m1 d1) := by subst hW; go_simp
  have r00 : W.cell? ⟨w.heap.size + 1, 0, none⟩ = some (.bool false) := by subst hW; go_simp
  have r01 : W.cell? ⟨w.heap.size + 1, 1, none⟩ = some (.slice none 0 0) := by subst hW; go_simp
  have r02 : W.cell? ⟨w.heap.size + 1, 2, none⟩ = some (.slice none 0 0) := by subst hW; go_simp
  have r03 : W.cell? ⟨w.heap.size + 1, 3, none⟩ = some (.bool false) := by subst hW; go_simp
  have r04 : W.cell? ⟨w.heap.size + 1, 4, none⟩ = some (.slice none 0 0) := by subst hW; go_simp
  have r05 : W.cell? ⟨w.heap.size + 1, 5, none⟩ = some (.slice none 0 0) := by subst hW; go_simp
  have hB : Below w.heap.size w W := by subst hW; exact (((Below.refl _ _).alloc (by (try simp only [World.size_alloc]); omega) _).alloc (by (try simp only [World.size_alloc]); omega) _)
  have hR0 : Row W (w.heap.size + 1) := by
    have := row_new ((w.alloc (.cells #[.bool s0, .slice a0 n0 c0, .slice b0 m0 d0, .bool s1, .slice a1 n1 c1, .slice b1 m1 d1] 29))) #[.bool false, .slice none 0 0, .slice none 0 0, .bool false, .slice none 0 0, .slice none 0 0] 29
    try simp only [World.size_alloc] at this
    subst hW; exact this
  have hz : W.heap.size = w.heap.size + 1 + 1 := by subst hW; simp only [World.size_alloc]
  rw [hW]
  clear hW
  have hBW : Below W.heap.size W W := Below.refl _ _
  replace hBW := hBW.drew
  first
    | go_region_held3 (fun w' => w'.cell? ⟨w.heap.size, 0, none⟩ = some (.bool s0) ∧ w'.cell? ⟨w.heap.size, 1, none⟩ = some (.slice a0 n0 c0) ∧ w'.cell? ⟨w.heap.size, 2, none⟩ = some (.slice b0 m0 d0) ∧ w'.cell? ⟨w.heap.size, 3, none⟩ = some (.bool s1) ∧ w'.cell? ⟨w.heap.size, 4, none⟩ = some (.slice a1 n1 c1) ∧ w'.cell? ⟨w.heap.size, 5, none⟩ = some (.slice b1 m1 d1) ∧ Below w.heap.size w w')
        (first | with_reducible exact kpT6_6 (by assumption) (by omega) (by omega) (by omega) (by omega) (by omega) (by omega) (by omega) | exact ⟨q00, q01, q02, q03, q04, q05, hB.trans (hBW.mono hB.size)⟩ | exact kp6 b41 (by assumption) | exact kp6 b42 (by assumption) | exact kp6 (below_alloc _) (by assumption) | exact kp6 (below_alloc _) ⟨q00, q01, q02, q03, q04, q05, hB.trans (hBW.mono hB.size)⟩ | exact kpT6_6 (by assumption) (by omega) (by omega) (by omega) (by omega) (by omega) (by omega) (by omega))
        (first
          | (go_at_call 15; go_at_call_of 15 (Value.agg #[Value.bool s0, Value.slice a0 n0 c0, Value.slice b0 m0 d0]); (fail_if_success clear b41); refine (drat_is s0 a0 n0 c0 X0 b0 m0 d0 Y0 _ hc0 (by omega) (sb hS0 hB hBW) hd0 (by omega) (sb hT0 hB hBW)).mono ?_; rintro e w41 ⟨p41, q41, rfl, hp41, hq41⟩; have b41 := hp41.below; replace hp41 := hp41.back hBW; replace hq41 := hq41.back hBW; replace hBW := hBW.trans (b41.mono hBW.size); replace q00 := below_cell b41 q00; replace q01 := below_cell b41 q01; replace q02 := below_cell b41 q02; replace q03 := below_cell b41 q03; replace q04 := below_cell b41 q04; replace q05 := below_cell b41 q05; replace r00 := below_cell b41 r00; replace r01 := below_cell b41 r01; replace r02 := below_cell b41 r02; replace r03 := below_cell b41 r03; replace r04 := below_cell b41 r04; replace r05 := below_cell b41 r05; replace hR0 := below_row b41 hR0)
          | (go_at_call 15; go_at_call_of 15 (Value.agg #[Value.bool s1, Value.slice a1 n1 c1, Value.slice b1 m1 d1]); (fail_if_success clear b42); refine (drat_is s1 a1 n1 c1 X1 b1 m1 d1 Y1 _ hc1 (by omega) (sb hS1 hB hBW) hd1 (by omega) (sb hT1 hB hBW)).mono ?_; rintro e w42 ⟨p42, q42, rfl, hp42, hq42⟩; have b42 := hp42.below; replace hp42 := hp42.back hBW; replace hq42 := hq42.back hBW; replace hBW := hBW.trans (b42.mono hBW.size); replace q00 := below_cell b42 q00; replace q01 := below_cell b42 q01; replace q02 := below_cell b42 q02; replace q03 := below_cell b42 q03; replace q04 := below_cell b42 q04; replace q05 := below_cell b42 q05; replace r00 := below_cell b42 r00; replace r01 := below_cell b42 r01; replace r02 := below_cell b42 r02; replace r03 := below_cell b42 r03; replace r04 := below_cell b42 r04; replace r05 := below_cell b42 r05; replace hR0 := below_row b42 hR0; replace hp41 := hp41.later b42; replace hq41 := hq41.later b42; have fz := fun o => hR0.frozen o))
    | fail
  have fz0 := fun o => hR0.frozen o
  go_wp2
  all_goals refine bodyPost_ret (v := .agg #[.bool s0, .slice p41 n0 n0, .slice q41 m0 m0, .bool s1, .slice p42 n1 n1, .slice q42 m1 m1]) (by rw [results_cell rfl]; go_simp) rfl ?_
  all_goals exact ⟨p41, q41, p42, q42, rfl, hp41.mid hB ((((((((Mid.refl _ _ _).set _ _ (by omega) (by omega) _).set _ _ (by omega) (by omega) _).set _ _ (by omega) (by omega) _).set _ _ (by omega) (by omega) _).set _ _ (by omega) (by omega) _).set _ _ (by omega) (by omega) _)), hq41.mid hB ((((((((Mid.refl _ _ _).set _ _ (by omega) (by omega) _).set _ _ (by omega) (by omega) _).set _ _ (by omega) (by omega) _).set _ _ (by omega) (by omega) _).set _ _ (by omega) (by omega) _).set _ _ (by omega) (by omega) _)), hp42.mid hB ((((((((Mid.refl _ _ _).set _ _ (by omega) (by omega) _).set _ _ (by omega) (by omega) _).set _ _ (by omega) (by omega) _).set _ _ (by omega) (by omega) _).set _ _ (by omega) (by omega) _).set _ _ (by omega) (by omega) _)), hq42.mid hB ((((((((Mid.refl _ _ _).set _ _ (by omega) (by omega) _).set _ _ (by omega) (by omega) _).set _ _ (by omega) (by omega) _).set _ _ (by omega) (by omega) _).set _ _ (by omega) (by omega) _).set _ _ (by omega) (by omega) _))⟩
end Go.Proofs.YtkfdgpidhghhdaaGreatDoor
