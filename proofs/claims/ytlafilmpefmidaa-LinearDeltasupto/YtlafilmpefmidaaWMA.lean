/-
  SameDelta.
-/
import Derived.Test.YtlafilmpefmidaaWL3
import Derived.Test.YtlafilmpefmidaaWQA
import Derived.Test.YtlafilmpefmidaaWM5
namespace Go.Proofs.Ytlafilmpefmidaa
open Go.RowKit
set_option linter.unusedVariables false
set_option maxHeartbeats 2000000 in
set_option maxRecDepth 100000 in
theorem SameRat_is (Z : Int) (V : Nat) (p q p1 q1 : Option Addr) (w : World) (h1 : ln (am Z) ≤ 70368744177664) (h2 : ln V ≤ 70368744177664) (hS : Seg w p (am Z) (ln (am Z))) (hT : Seg w q V (ln V)) (hS1 : Seg w p1 (am Z) (ln (am Z))) (hT1 : Seg w q1 V (ln V)) :
    Calls Try.prog 7 #[Value.agg #[Value.bool (ng Z), Value.slice p (ln (am Z)) (ln (am Z)), Value.slice q (ln V) (ln V)], Value.agg #[Value.bool (ng Z), Value.slice p1 (ln (am Z)) (ln (am Z)), Value.slice q1 (ln V) (ln V)]] w fun e w' => e = .returned (.bool true) ∧ Below w.heap.size w w' := by
  have HI := hide' (fun w' k1 k2 => SameInt_is Z p p1 (ln (am Z)) (ln (am Z)) w' h1 k1 k2)
  have HN' := fun w' k1 k2 => SameNat_any q q1 (ln V) (ln V) V (ln V) (ln V) V w' h2 h2 k1 k2
  rw [sameB_self] at HN'
  have HN := hide' HN'
  clear HN'
  go_enter Try.func7, Try.ntmps7
  go_wp2_with fail
  obtain ⟨W, hW⟩ : ∃ W, ((w.alloc (.cells #[.bool (ng Z), .slice p (ln (am Z)) (ln (am Z)), .slice q (ln V) (ln V)] 31)).alloc (.cells #[.bool (ng Z), .slice p1 (ln (am Z)) (ln (am Z)), .slice q1 (ln V) (ln V)] 31)) = W := ⟨_, rfl⟩
  have q00 : W.cell? ⟨w.heap.size, 0, none⟩ = some (.bool (ng Z)) := by subst hW; go_simp
  have q01 : W.cell? ⟨w.heap.size, 1, none⟩ = some (.slice p (ln (am Z)) (ln (am Z))) := by subst hW; go_simp
  have q02 : W.cell? ⟨w.heap.size, 2, none⟩ = some (.slice q (ln V) (ln V)) := by subst hW; go_simp
  have q10 : W.cell? ⟨w.heap.size + 1, 0, none⟩ = some (.bool (ng Z)) := by subst hW; go_simp
  have q11 : W.cell? ⟨w.heap.size + 1, 1, none⟩ = some (.slice p1 (ln (am Z)) (ln (am Z))) := by subst hW; go_simp
  have q12 : W.cell? ⟨w.heap.size + 1, 2, none⟩ = some (.slice q1 (ln V) (ln V)) := by subst hW; go_simp
  have hB : Below w.heap.size w W := by subst hW; exact (((Below.refl _ _).alloc (by (try simp only [World.size_alloc]); omega) _).alloc (by (try simp only [World.size_alloc]); omega) _)
  have hz : W.heap.size = w.heap.size + 1 + 1 := by subst hW; simp only [World.size_alloc]
  rw [hW]
  clear hW
  have hBW : Below W.heap.size W W := Below.refl _ _
  refine (HI.out _ (sb hS hB hBW) (sb hS1 hB hBW)).mono ?_
  rintro e w1 ⟨rfl, b1⟩
  replace hBW := hBW.trans (b1.mono hBW.size)
  replace q00 := below_cell b1 q00
  replace q01 := below_cell b1 q01
  replace q02 := below_cell b1 q02
  replace q10 := below_cell b1 q10
  replace q11 := below_cell b1 q11
  replace q12 := below_cell b1 q12
  go_wp2_with fail
  refine (HN.out _ (sb hT hB hBW) (sb hT1 hB hBW)).mono ?_
  rintro e2 w2 ⟨rfl, hd⟩
  go_wp2
  go_ret
  exact ⟨rfl, (hB.trans (hBW.mono hB.size)).trans (hd.below _)⟩
end Go.Proofs.Ytlafilmpefmidaa

namespace Go.Proofs.Ytlafilmpefmidaa
open Go.RowKit
set_option linter.unusedVariables false
set_option maxHeartbeats 2000000 in
set_option maxRecDepth 100000 in
theorem SameDelta_is (Z : Int) (V : Nat) (Y : Int) (U : Nat) (p q p1 q1 r t r1 t1 : Option Addr) (w : World) (h1 : ln (am Z) ≤ 70368744177664) (h2 : ln V ≤ 70368744177664) (h3 : ln (am Y) ≤ 70368744177664) (h4 : ln U ≤ 70368744177664) (hS : Seg w p (am Z) (ln (am Z))) (hT : Seg w q V (ln V)) (hS2 : Seg w r (am Y) (ln (am Y))) (hT2 : Seg w t U (ln U)) (hS1 : Seg w p1 (am Z) (ln (am Z))) (hT1 : Seg w q1 V (ln V)) (hS3 : Seg w r1 (am Y) (ln (am Y))) (hT3 : Seg w t1 U (ln U)) :
    Calls Try.prog 4 #[Value.agg #[Value.bool (ng Z), Value.slice p (ln (am Z)) (ln (am Z)), Value.slice q (ln V) (ln V), Value.bool (ng Y), Value.slice r (ln (am Y)) (ln (am Y)), Value.slice t (ln U) (ln U)], Value.agg #[Value.bool (ng Z), Value.slice p1 (ln (am Z)) (ln (am Z)), Value.slice q1 (ln V) (ln V), Value.bool (ng Y), Value.slice r1 (ln (am Y)) (ln (am Y)), Value.slice t1 (ln U) (ln U)]] w fun e w' => e = .returned (.bool true) ∧ Below w.heap.size w w' := by
  have HI := hide' (fun w' k1 k2 k3 k4 => SameRat_is Z V p q p1 q1 w' h1 h2 k1 k2 k3 k4)
  have HJ := hide' (fun w' k1 k2 k3 k4 => SameRat_is Y U r t r1 t1 w' h3 h4 k1 k2 k3 k4)
  go_enter Try.func4, Try.ntmps4
  go_wp2_with fail
  obtain ⟨W, hW⟩ : ∃ W, ((w.alloc (.cells #[.bool (ng Z), .slice p (ln (am Z)) (ln (am Z)), .slice q (ln V) (ln V), .bool (ng Y), .slice r (ln (am Y)) (ln (am Y)), .slice t (ln U) (ln U)] 33)).alloc (.cells #[.bool (ng Z), .slice p1 (ln (am Z)) (ln (am Z)), .slice q1 (ln V) (ln V), .bool (ng Y), .slice r1 (ln (am Y)) (ln (am Y)), .slice t1 (ln U) (ln U)] 33)) = W := ⟨_, rfl⟩
  have q00 : W.cell? ⟨w.heap.size, 0, none⟩ = some (.bool (ng Z)) := by subst hW; go_simp
  have q01 : W.cell? ⟨w.heap.size, 1, none⟩ = some (.slice p (ln (am Z)) (ln (am Z))) := by subst hW; go_simp
  have q02 : W.cell? ⟨w.heap.size, 2, none⟩ = some (.slice q (ln V) (ln V)) := by subst hW; go_simp
  have q03 : W.cell? ⟨w.heap.size, 3, none⟩ = some (.bool (ng Y)) := by subst hW; go_simp
  have q04 : W.cell? ⟨w.heap.size, 4, none⟩ = some (.slice r (ln (am Y)) (ln (am Y))) := by subst hW; go_simp
  have q05 : W.cell? ⟨w.heap.size, 5, none⟩ = some (.slice t (ln U) (ln U)) := by subst hW; go_simp
  have q10 : W.cell? ⟨w.heap.size + 1, 0, none⟩ = some (.bool (ng Z)) := by subst hW; go_simp
  have q11 : W.cell? ⟨w.heap.size + 1, 1, none⟩ = some (.slice p1 (ln (am Z)) (ln (am Z))) := by subst hW; go_simp
  have q12 : W.cell? ⟨w.heap.size + 1, 2, none⟩ = some (.slice q1 (ln V) (ln V)) := by subst hW; go_simp
  have q13 : W.cell? ⟨w.heap.size + 1, 3, none⟩ = some (.bool (ng Y)) := by subst hW; go_simp
  have q14 : W.cell? ⟨w.heap.size + 1, 4, none⟩ = some (.slice r1 (ln (am Y)) (ln (am Y))) := by subst hW; go_simp
  have q15 : W.cell? ⟨w.heap.size + 1, 5, none⟩ = some (.slice t1 (ln U) (ln U)) := by subst hW; go_simp
  have hB : Below w.heap.size w W := by subst hW; exact (((Below.refl _ _).alloc (by (try simp only [World.size_alloc]); omega) _).alloc (by (try simp only [World.size_alloc]); omega) _)
  have hz : W.heap.size = w.heap.size + 1 + 1 := by subst hW; simp only [World.size_alloc]
  rw [hW]
  clear hW
  have hBW : Below W.heap.size W W := Below.refl _ _
  refine (HI.out _ (sb hS hB hBW) (sb hT hB hBW) (sb hS1 hB hBW) (sb hT1 hB hBW)).mono ?_
  rintro e w1 ⟨rfl, b1⟩
  replace hBW := hBW.trans (b1.mono hBW.size)
  replace q00 := below_cell b1 q00
  replace q01 := below_cell b1 q01
  replace q02 := below_cell b1 q02
  replace q03 := below_cell b1 q03
  replace q04 := below_cell b1 q04
  replace q05 := below_cell b1 q05
  replace q10 := below_cell b1 q10
  replace q11 := below_cell b1 q11
  replace q12 := below_cell b1 q12
  replace q13 := below_cell b1 q13
  replace q14 := below_cell b1 q14
  replace q15 := below_cell b1 q15
  go_wp2_with fail
  refine (HJ.out _ (sb hS2 hB hBW) (sb hT2 hB hBW) (sb hS3 hB hBW) (sb hT3 hB hBW)).mono ?_
  rintro e2 w2 ⟨rfl, hd⟩
  go_wp2
  go_ret
  exact ⟨rfl, (hB.trans (hBW.mono hB.size)).trans (hd.mono (Nat.le_trans hB.size hBW.size))⟩
end Go.Proofs.Ytlafilmpefmidaa
