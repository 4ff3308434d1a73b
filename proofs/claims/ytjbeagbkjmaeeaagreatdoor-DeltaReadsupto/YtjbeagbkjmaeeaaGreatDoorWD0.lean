/-
  Deltas: what is carried along; the comparisons and copies of the statements of layer 5.
-/
import Derived.Test.YtjbeagbkjmaeeaaGreatDoorWQ7
import Derived.Test.YtjbeagbkjmaeeaaGreatDoorWQN
import Derived.Test.YtjbeagbkjmaeeaaGreatDoorWI2
import Derived.Test.YtjbeagbkjmaeeaaGreatDoorWQA
namespace Go.Proofs.YtjbeagbkjmaeeaaGreatDoor
open Go.RowKit
set_option linter.unusedVariables false

set_option maxHeartbeats 2000000 in
set_option maxRecDepth 100000 in
theorem vqWhole_is (z : Int) (w : World) (h1 : -9223372036854775808 ≤ z) (h2 : z ≤ 9223372036854775807) :
    Calls Tryz.prog 17 #[.int .i64 z] w fun e w' => ∃ p q, e = .returned (.agg #[.bool (ng z), .slice p (ln (am z)) (ln (am z)), .slice q (ln 1) (ln 1)]) ∧ New w w' p (am z) (ln (am z)) ∧ New w w' q 1 (ln 1) := by
  have lz : ln (am z) ≤ 2 := ln_le_of_lt (by rw [BB2]; unfold am; omega)
  have H0 := hide' (fun w' => vOf_is z w' h1 h2)
  have hL : Low (rn (ng z) (am z) 1) ((rd 1 : Nat) : Int) z 1 := Low.nf (Low.self (by omega) (by simp)) (by omega)
  obtain ⟨V, hV⟩ : ∃ V : Nat, 1 = V := ⟨_, rfl⟩
  have P2 : ∀ w' p q, Seg w' p (am z) (ln (am z)) → Seg w' q 1 1 → Calls Tryz.prog 27 #[.agg #[.bool (ng z), .slice p (ln (am z)) (ln (am z)), .slice q 1 1]] w' fun e w'' => ∃ p q, e = .returned (.agg #[.bool (ng z), .slice p (ln (am z)) (ln (am z)), .slice q (ln V) (ln V)]) ∧ New w' w'' p (am z) (ln (am z)) ∧ New w' w'' q V (ln V) := fun w' p q k1 k2 => by
    subst hV
    exact vqNorm_is (ng z) p (ln (am z)) (ln (am z)) (am z) q 1 1 1 1 z w' (by omega) k1 (by omega) k2 hL
  have H2 := hide' P2
  rw [show ln 1 = ln V by rw [hV]]
  have e1 : ∀ w' q, New w w' q 1 (ln V) ↔ New w w' q V (ln V) := fun w' q => by rw [← hV]
  simp only [e1]
  clear P2 hL hV h1 h2 e1
  go_enter Tryz.func17, Tryz.ntmps17
  go_wp2_with fail
  obtain ⟨W, hW⟩ : ∃ W, (w.alloc (.cells #[.bool false, .slice none 0 0, .slice none 0 0] 27)) = W := ⟨_, rfl⟩
  have r00 : W.cell? ⟨w.heap.size, 0, none⟩ = some (.bool false) := by subst hW; go_simp
  have r01 : W.cell? ⟨w.heap.size, 1, none⟩ = some (.slice none 0 0) := by subst hW; go_simp
  have r02 : W.cell? ⟨w.heap.size, 2, none⟩ = some (.slice none 0 0) := by subst hW; go_simp
  have hB : Below w.heap.size w W := by subst hW; exact ((Below.refl _ _).alloc (by (try simp only [World.size_alloc]); omega) _)
  have hR0 : Row W (w.heap.size) := by
    have := row_new (w) #[.bool false, .slice none 0 0, .slice none 0 0] 27
    try simp only [World.size_alloc] at this
    subst hW; exact this
  have hz : W.heap.size = w.heap.size + 1 := by subst hW; simp only [World.size_alloc]
  rw [hW]
  clear hW
  have hBW : Below W.heap.size W W := Below.refl _ _
  refine (H0.out _).mono ?_
  rintro e w1 ⟨a1, rfl, h1⟩
  have b1 := h1.below
  replace h1 := h1.back hBW
  replace hBW := hBW.trans (b1.mono hBW.size)
  replace r00 := below_cell b1 r00
  replace r01 := below_cell b1 r01
  replace r02 := below_cell b1 r02
  replace hR0 := below_row b1 hR0
  have n9 := single_new w1 1 58 1 (by omega) rfl
  have b9 := n9.below
  replace hBW := hBW.trans (b9.mono hBW.size)
  replace r00 := below_cell b9 r00
  replace r01 := below_cell b9 r01
  replace r02 := below_cell b9 r02
  replace hR0 := below_row b9 hR0
  replace h1 := h1.later b9
  have G2 := hide' (H2.out _ a1 _ h1.seg n9.seg)
  go_wp2_with fail
  refine (G2.out).mono ?_
  rintro e w2 ⟨p2, q2, rfl, hp2, hq2⟩
  have b2 := hp2.below
  replace hp2 := hp2.back hBW
  replace hq2 := hq2.back hBW
  replace hBW := hBW.trans (b2.mono hBW.size)
  replace r00 := below_cell b2 r00
  replace r01 := below_cell b2 r01
  replace r02 := below_cell b2 r02
  replace hR0 := below_row b2 hR0
  replace h1 := h1.later b2
  have fz0 := fun o => hR0.frozen o
  go_wp2
  all_goals refine bodyPost_ret (v := Value.agg #[Value.bool (ng z), Value.slice p2 (ln (am z)) (ln (am z)), Value.slice q2 (ln V) (ln V)]) (by rw [results_cell rfl]; go_simp) rfl ?_
  all_goals exact ⟨p2, q2, rfl, hp2.mid hB (((((Mid.refl _ _ _).set _ _ (by omega) (by omega) _).set _ _ (by omega) (by omega) _).set _ _ (by omega) (by omega) _)), hq2.mid hB (((((Mid.refl _ _ _).set _ _ (by omega) (by omega) _).set _ _ (by omega) (by omega) _).set _ _ (by omega) (by omega) _))⟩
end Go.Proofs.YtjbeagbkjmaeeaaGreatDoor

namespace Go.Proofs.YtjbeagbkjmaeeaaGreatDoor
open Go.RowKit
set_option linter.unusedVariables false

theorem kpT6_6 {w W : World} {b0 o0 b1 o1 b2 o2 b3 o3 b4 o4 b5 o5 c : Nat} {v0 v1 v2 v3 v4 v5 u0 u1 u2 u3 u4 u5 : Value} (h : W.cell? ⟨b0, o0, none⟩ = some v0 ∧ W.cell? ⟨b1, o1, none⟩ = some v1 ∧ W.cell? ⟨b2, o2, none⟩ = some v2 ∧ W.cell? ⟨b3, o3, none⟩ = some v3 ∧ W.cell? ⟨b4, o4, none⟩ = some v4 ∧ W.cell? ⟨b5, o5, none⟩ = some v5 ∧ Below w.heap.size w W) (hne0 : c ≠ b0) (hne1 : c ≠ b1) (hne2 : c ≠ b2) (hne3 : c ≠ b3) (hne4 : c ≠ b4) (hne5 : c ≠ b5) (hc : w.heap.size ≤ c) :
    ((((((W.setCell ⟨c, 0, none⟩ u0).setCell ⟨c, 1, none⟩ u1).setCell ⟨c, 2, none⟩ u2).setCell ⟨c, 3, none⟩ u3).setCell ⟨c, 4, none⟩ u4).setCell ⟨c, 5, none⟩ u5).cell? ⟨b0, o0, none⟩ = some v0 ∧ ((((((W.setCell ⟨c, 0, none⟩ u0).setCell ⟨c, 1, none⟩ u1).setCell ⟨c, 2, none⟩ u2).setCell ⟨c, 3, none⟩ u3).setCell ⟨c, 4, none⟩ u4).setCell ⟨c, 5, none⟩ u5).cell? ⟨b1, o1, none⟩ = some v1 ∧ ((((((W.setCell ⟨c, 0, none⟩ u0).setCell ⟨c, 1, none⟩ u1).setCell ⟨c, 2, none⟩ u2).setCell ⟨c, 3, none⟩ u3).setCell ⟨c, 4, none⟩ u4).setCell ⟨c, 5, none⟩ u5).cell? ⟨b2, o2, none⟩ = some v2 ∧ ((((((W.setCell ⟨c, 0, none⟩ u0).setCell ⟨c, 1, none⟩ u1).setCell ⟨c, 2, none⟩ u2).setCell ⟨c, 3, none⟩ u3).setCell ⟨c, 4, none⟩ u4).setCell ⟨c, 5, none⟩ u5).cell? ⟨b3, o3, none⟩ = some v3 ∧ ((((((W.setCell ⟨c, 0, none⟩ u0).setCell ⟨c, 1, none⟩ u1).setCell ⟨c, 2, none⟩ u2).setCell ⟨c, 3, none⟩ u3).setCell ⟨c, 4, none⟩ u4).setCell ⟨c, 5, none⟩ u5).cell? ⟨b4, o4, none⟩ = some v4 ∧ ((((((W.setCell ⟨c, 0, none⟩ u0).setCell ⟨c, 1, none⟩ u1).setCell ⟨c, 2, none⟩ u2).setCell ⟨c, 3, none⟩ u3).setCell ⟨c, 4, none⟩ u4).setCell ⟨c, 5, none⟩ u5).cell? ⟨b5, o5, none⟩ = some v5 ∧ Below w.heap.size w ((((((W.setCell ⟨c, 0, none⟩ u0).setCell ⟨c, 1, none⟩ u1).setCell ⟨c, 2, none⟩ u2).setCell ⟨c, 3, none⟩ u3).setCell ⟨c, 4, none⟩ u4).setCell ⟨c, 5, none⟩ u5) :=
  ⟨by rw [World.cell?_setCell_far _ _ _ _ (by exact hne0), World.cell?_setCell_far _ _ _ _ (by exact hne0), World.cell?_setCell_far _ _ _ _ (by exact hne0), World.cell?_setCell_far _ _ _ _ (by exact hne0), World.cell?_setCell_far _ _ _ _ (by exact hne0), World.cell?_setCell_far _ _ _ _ (by exact hne0)]; exact h.1, by rw [World.cell?_setCell_far _ _ _ _ (by exact hne1), World.cell?_setCell_far _ _ _ _ (by exact hne1), World.cell?_setCell_far _ _ _ _ (by exact hne1), World.cell?_setCell_far _ _ _ _ (by exact hne1), World.cell?_setCell_far _ _ _ _ (by exact hne1), World.cell?_setCell_far _ _ _ _ (by exact hne1)]; exact h.2.1, by rw [World.cell?_setCell_far _ _ _ _ (by exact hne2), World.cell?_setCell_far _ _ _ _ (by exact hne2), World.cell?_setCell_far _ _ _ _ (by exact hne2), World.cell?_setCell_far _ _ _ _ (by exact hne2), World.cell?_setCell_far _ _ _ _ (by exact hne2), World.cell?_setCell_far _ _ _ _ (by exact hne2)]; exact h.2.2.1, by rw [World.cell?_setCell_far _ _ _ _ (by exact hne3), World.cell?_setCell_far _ _ _ _ (by exact hne3), World.cell?_setCell_far _ _ _ _ (by exact hne3), World.cell?_setCell_far _ _ _ _ (by exact hne3), World.cell?_setCell_far _ _ _ _ (by exact hne3), World.cell?_setCell_far _ _ _ _ (by exact hne3)]; exact h.2.2.2.1, by rw [World.cell?_setCell_far _ _ _ _ (by exact hne4), World.cell?_setCell_far _ _ _ _ (by exact hne4), World.cell?_setCell_far _ _ _ _ (by exact hne4), World.cell?_setCell_far _ _ _ _ (by exact hne4), World.cell?_setCell_far _ _ _ _ (by exact hne4), World.cell?_setCell_far _ _ _ _ (by exact hne4)]; exact h.2.2.2.2.1, by rw [World.cell?_setCell_far _ _ _ _ (by exact hne5), World.cell?_setCell_far _ _ _ _ (by exact hne5), World.cell?_setCell_far _ _ _ _ (by exact hne5), World.cell?_setCell_far _ _ _ _ (by exact hne5), World.cell?_setCell_far _ _ _ _ (by exact hne5), World.cell?_setCell_far _ _ _ _ (by exact hne5)]; exact h.2.2.2.2.2.1, ((((((h.2.2.2.2.2.2.setCell hc _).setCell hc _).setCell hc _).setCell hc _).setCell hc _).setCell hc _)⟩
set_option maxHeartbeats 2000000 in
set_option maxRecDepth 100000 in
theorem DSame_is (Z : Int) (V : Nat) (Z2 : Int) (V2 : Nat) (p q r t p2 q2 r2 t2 : Option Addr) (w : World) (hm : ln (am Z) ≤ 70368744177664) (hm2 : ln V ≤ 70368744177664) (hm3 : ln (am Z2) ≤ 70368744177664) (hm4 : ln V2 ≤ 70368744177664) (k1 : Seg w p (am Z) (ln (am Z))) (k2 : Seg w q V (ln V)) (k3 : Seg w r (am Z2) (ln (am Z2))) (k4 : Seg w t V2 (ln V2)) (k5 : Seg w p2 (am Z) (ln (am Z))) (k6 : Seg w q2 V (ln V)) (k7 : Seg w r2 (am Z2) (ln (am Z2))) (k8 : Seg w t2 V2 (ln V2)) :
    Calls Tryz.prog 16 #[Value.agg #[Value.bool (ng Z), Value.slice p (ln (am Z)) (ln (am Z)), Value.slice q (ln V) (ln V), Value.bool (ng Z2), Value.slice r (ln (am Z2)) (ln (am Z2)), Value.slice t (ln V2) (ln V2)], Value.agg #[Value.bool (ng Z), Value.slice p2 (ln (am Z)) (ln (am Z)), Value.slice q2 (ln V) (ln V), Value.bool (ng Z2), Value.slice r2 (ln (am Z2)) (ln (am Z2)), Value.slice t2 (ln V2) (ln V2)]] w fun e w' => e = .returned (.bool true) ∧ Below w.heap.size w w' := by
  go_enter Tryz.func16, Tryz.ntmps16
  go_wp2_with fail
  obtain ⟨W, hW⟩ : ∃ W, ((w.alloc (.cells #[.bool (ng Z), .slice p (ln (am Z)) (ln (am Z)), .slice q (ln V) (ln V), .bool (ng Z2), .slice r (ln (am Z2)) (ln (am Z2)), .slice t (ln V2) (ln V2)] 29)).alloc (.cells #[.bool (ng Z), .slice p2 (ln (am Z)) (ln (am Z)), .slice q2 (ln V) (ln V), .bool (ng Z2), .slice r2 (ln (am Z2)) (ln (am Z2)), .slice t2 (ln V2) (ln V2)] 29)) = W := ⟨_, rfl⟩
  have q00 : W.cell? ⟨w.heap.size, 0, none⟩ = some (.bool (ng Z)) := by subst hW; go_simp
  have q01 : W.cell? ⟨w.heap.size, 1, none⟩ = some (.slice p (ln (am Z)) (ln (am Z))) := by subst hW; go_simp
  have q02 : W.cell? ⟨w.heap.size, 2, none⟩ = some (.slice q (ln V) (ln V)) := by subst hW; go_simp
  have q03 : W.cell? ⟨w.heap.size, 3, none⟩ = some (.bool (ng Z2)) := by subst hW; go_simp
  have q04 : W.cell? ⟨w.heap.size, 4, none⟩ = some (.slice r (ln (am Z2)) (ln (am Z2))) := by subst hW; go_simp
  have q05 : W.cell? ⟨w.heap.size, 5, none⟩ = some (.slice t (ln V2) (ln V2)) := by subst hW; go_simp
  have q10 : W.cell? ⟨w.heap.size + 1, 0, none⟩ = some (.bool (ng Z)) := by subst hW; go_simp
  have q11 : W.cell? ⟨w.heap.size + 1, 1, none⟩ = some (.slice p2 (ln (am Z)) (ln (am Z))) := by subst hW; go_simp
  have q12 : W.cell? ⟨w.heap.size + 1, 2, none⟩ = some (.slice q2 (ln V) (ln V)) := by subst hW; go_simp
  have q13 : W.cell? ⟨w.heap.size + 1, 3, none⟩ = some (.bool (ng Z2)) := by subst hW; go_simp
  have q14 : W.cell? ⟨w.heap.size + 1, 4, none⟩ = some (.slice r2 (ln (am Z2)) (ln (am Z2))) := by subst hW; go_simp
  have q15 : W.cell? ⟨w.heap.size + 1, 5, none⟩ = some (.slice t2 (ln V2) (ln V2)) := by subst hW; go_simp
  have hB : Below w.heap.size w W := by subst hW; exact (((Below.refl _ _).alloc (by (try simp only [World.size_alloc]); omega) _).alloc (by (try simp only [World.size_alloc]); omega) _)
  have hz : W.heap.size = w.heap.size + 1 + 1 := by subst hW; simp only [World.size_alloc]
  rw [hW]
  clear hW
  have hBW : Below W.heap.size W W := Below.refl _ _
  refine (SameQ_is Z V p q p2 q2 _ hm hm2 (sb k1 hB hBW) (sb k2 hB hBW) (sb k5 hB hBW) (sb k6 hB hBW)).mono ?_
  rintro e w41 ⟨rfl, b41⟩
  replace hBW := hBW.trans (b41.mono hBW.size)
  replace q00 := below_cell b41 q00
  replace q01 := below_cell b41 q01
  replace q02 := below_cell b41 q02
  replace q03 := below_cell b41 q03
  replace q04 := below_cell b41 q04
  replace q05 := below_cell b41 q05
  replace q10 := below_cell b41 q10
  replace q11 := below_cell b41 q11
  replace q12 := below_cell b41 q12
  replace q13 := below_cell b41 q13
  replace q14 := below_cell b41 q14
  replace q15 := below_cell b41 q15
  go_wp2_with fail
  refine (SameQ_is Z2 V2 r t r2 t2 _ hm3 hm4 (sb k3 hB hBW) (sb k4 hB hBW) (sb k7 hB hBW) (sb k8 hB hBW)).mono ?_
  rintro e w42 ⟨rfl, b42⟩
  replace hBW := hBW.trans (b42.mono hBW.size)
  replace q00 := below_cell b42 q00
  replace q01 := below_cell b42 q01
  replace q02 := below_cell b42 q02
  replace q03 := below_cell b42 q03
  replace q04 := below_cell b42 q04
  replace q05 := below_cell b42 q05
  replace q10 := below_cell b42 q10
  replace q11 := below_cell b42 q11
  replace q12 := below_cell b42 q12
  replace q13 := below_cell b42 q13
  replace q14 := below_cell b42 q14
  replace q15 := below_cell b42 q15
  go_wp2
  go_ret
  exact ⟨rfl, hB.trans (hBW.mono hB.size)⟩

set_option maxHeartbeats 2000000 in
set_option maxRecDepth 100000 in
theorem dsame_is (Z : Int) (V : Nat) (Z2 : Int) (V2 : Nat) (p q r t p2 q2 r2 t2 : Option Addr) (w : World) (hm : ln (am Z) ≤ 70368744177664) (hm2 : ln V ≤ 70368744177664) (hm3 : ln (am Z2) ≤ 70368744177664) (hm4 : ln V2 ≤ 70368744177664) (k1 : Seg w p (am Z) (ln (am Z))) (k2 : Seg w q V (ln V)) (k3 : Seg w r (am Z2) (ln (am Z2))) (k4 : Seg w t V2 (ln V2)) (k5 : Seg w p2 (am Z) (ln (am Z))) (k6 : Seg w q2 V (ln V)) (k7 : Seg w r2 (am Z2) (ln (am Z2))) (k8 : Seg w t2 V2 (ln V2)) :
    Calls Tryz.prog 6 #[Value.agg #[Value.bool (ng Z), Value.slice p (ln (am Z)) (ln (am Z)), Value.slice q (ln V) (ln V), Value.bool (ng Z2), Value.slice r (ln (am Z2)) (ln (am Z2)), Value.slice t (ln V2) (ln V2)], Value.agg #[Value.bool (ng Z), Value.slice p2 (ln (am Z)) (ln (am Z)), Value.slice q2 (ln V) (ln V), Value.bool (ng Z2), Value.slice r2 (ln (am Z2)) (ln (am Z2)), Value.slice t2 (ln V2) (ln V2)]] w fun e w' => e = .returned (.bool true) ∧ Below w.heap.size w w' := by
  go_enter Tryz.func6, Tryz.ntmps6
  go_wp2_with fail
  obtain ⟨W, hW⟩ : ∃ W, ((w.alloc (.cells #[.bool (ng Z), .slice p (ln (am Z)) (ln (am Z)), .slice q (ln V) (ln V), .bool (ng Z2), .slice r (ln (am Z2)) (ln (am Z2)), .slice t (ln V2) (ln V2)] 29)).alloc (.cells #[.bool (ng Z), .slice p2 (ln (am Z)) (ln (am Z)), .slice q2 (ln V) (ln V), .bool (ng Z2), .slice r2 (ln (am Z2)) (ln (am Z2)), .slice t2 (ln V2) (ln V2)] 29)) = W := ⟨_, rfl⟩
  have q00 : W.cell? ⟨w.heap.size, 0, none⟩ = some (.bool (ng Z)) := by subst hW; go_simp
  have q01 : W.cell? ⟨w.heap.size, 1, none⟩ = some (.slice p (ln (am Z)) (ln (am Z))) := by subst hW; go_simp
  have q02 : W.cell? ⟨w.heap.size, 2, none⟩ = some (.slice q (ln V) (ln V)) := by subst hW; go_simp
  have q03 : W.cell? ⟨w.heap.size, 3, none⟩ = some (.bool (ng Z2)) := by subst hW; go_simp
  have q04 : W.cell? ⟨w.heap.size, 4, none⟩ = some (.slice r (ln (am Z2)) (ln (am Z2))) := by subst hW; go_simp
  have q05 : W.cell? ⟨w.heap.size, 5, none⟩ = some (.slice t (ln V2) (ln V2)) := by subst hW; go_simp
  have q10 : W.cell? ⟨w.heap.size + 1, 0, none⟩ = some (.bool (ng Z)) := by subst hW; go_simp
  have q11 : W.cell? ⟨w.heap.size + 1, 1, none⟩ = some (.slice p2 (ln (am Z)) (ln (am Z))) := by subst hW; go_simp
  have q12 : W.cell? ⟨w.heap.size + 1, 2, none⟩ = some (.slice q2 (ln V) (ln V)) := by subst hW; go_simp
  have q13 : W.cell? ⟨w.heap.size + 1, 3, none⟩ = some (.bool (ng Z2)) := by subst hW; go_simp
  have q14 : W.cell? ⟨w.heap.size + 1, 4, none⟩ = some (.slice r2 (ln (am Z2)) (ln (am Z2))) := by subst hW; go_simp
  have q15 : W.cell? ⟨w.heap.size + 1, 5, none⟩ = some (.slice t2 (ln V2) (ln V2)) := by subst hW; go_simp
  have hB : Below w.heap.size w W := by subst hW; exact (((Below.refl _ _).alloc (by (try simp only [World.size_alloc]); omega) _).alloc (by (try simp only [World.size_alloc]); omega) _)
  have hz : W.heap.size = w.heap.size + 1 + 1 := by subst hW; simp only [World.size_alloc]
  rw [hW]
  clear hW
  have hBW : Below W.heap.size W W := Below.refl _ _
  refine (DSame_is Z V Z2 V2 p q r t p2 q2 r2 t2 _ hm hm2 hm3 hm4 (sb k1 hB hBW) (sb k2 hB hBW) (sb k3 hB hBW) (sb k4 hB hBW) (sb k5 hB hBW) (sb k6 hB hBW) (sb k7 hB hBW) (sb k8 hB hBW)).mono ?_
  rintro e w41 ⟨rfl, b41⟩
  replace hBW := hBW.trans (b41.mono hBW.size)
  replace q00 := below_cell b41 q00
  replace q01 := below_cell b41 q01
  replace q02 := below_cell b41 q02
  replace q03 := below_cell b41 q03
  replace q04 := below_cell b41 q04
  replace q05 := below_cell b41 q05
  replace q10 := below_cell b41 q10
  replace q11 := below_cell b41 q11
  replace q12 := below_cell b41 q12
  replace q13 := below_cell b41 q13
  replace q14 := below_cell b41 q14
  replace q15 := below_cell b41 q15
  go_wp2
  go_ret
  exact ⟨rfl, hB.trans (hBW.mono hB.size)⟩



end Go.Proofs.YtjbeagbkjmaeeaaGreatDoor
