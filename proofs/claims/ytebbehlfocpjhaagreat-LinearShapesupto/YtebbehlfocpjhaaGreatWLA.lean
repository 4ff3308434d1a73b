import Derived.Test.YtebbehlfocpjhaaGreatWL3
import Derived.Test.YtebbehlfocpjhaaGreatWQA
set_option linter.unusedSimpArgs false
namespace Go.Proofs.YtebbehlfocpjhaaGreat
open Go.RowKit
set_option linter.unusedVariables false
set_option maxHeartbeats 2000000 in
set_option maxRecDepth 100000 in
theorem SameRat_is (Z : Int) (V : Nat) (p q p1 q1 : Option Addr) (w : World) (h1 : ln (am Z) ≤ 70368744177664) (h2 : ln V ≤ 70368744177664) (hS : Seg w p (am Z) (ln (am Z))) (hT : Seg w q V (ln V)) (hS1 : Seg w p1 (am Z) (ln (am Z))) (hT1 : Seg w q1 V (ln V)) :
    Calls Tryz.prog 17 #[Value.agg #[Value.bool (ng Z), Value.slice p (ln (am Z)) (ln (am Z)), Value.slice q (ln V) (ln V)], Value.agg #[Value.bool (ng Z), Value.slice p1 (ln (am Z)) (ln (am Z)), Value.slice q1 (ln V) (ln V)]] w fun e w' => e = .returned (.bool true) ∧ Below w.heap.size w w' := by
  have HI := hide' (fun w' k1 k2 => SameInt_is Z p p1 (ln (am Z)) (ln (am Z)) w' h1 k1 k2)
  have HN' := fun w' k1 k2 => SameNat_any q q1 (ln V) (ln V) V (ln V) (ln V) V w' h2 h2 k1 k2
  rw [sameB_self] at HN'
  have HN := hide' HN'
  clear HN'
  go_enter Tryz.func17, Tryz.ntmps17
  go_wp2_with fail
  obtain ⟨W, hW⟩ : ∃ W, ((w.alloc (.cells #[.bool (ng Z), .slice p (ln (am Z)) (ln (am Z)), .slice q (ln V) (ln V)] 29)).alloc (.cells #[.bool (ng Z), .slice p1 (ln (am Z)) (ln (am Z)), .slice q1 (ln V) (ln V)] 29)) = W := ⟨_, rfl⟩
  have q00 : W.cell? ⟨w.heap.size, 0, none⟩ = some (.bool (ng Z)) := by subst hW; go_simp
  have q01 : W.cell? ⟨w.heap.size, 1, none⟩ = some (.slice p (ln (am Z)) (ln (am Z))) := by subst hW; go_simp
  have q02 : W.cell? ⟨w.heap.size, 2, none⟩ = some (.slice q (ln V) (ln V)) := by subst hW; go_simp
  have q10 : W.cell? ⟨w.heap.size + 1, 0, none⟩ = some (.bool (ng Z)) := by subst hW; go_simp
  have q11 : W.cell? ⟨w.heap.size + 1, 1, none⟩ = some (.slice p1 (ln (am Z)) (ln (am Z))) := by subst hW; go_simp
  have q12 : W.cell? ⟨w.heap.size + 1, 2, none⟩ = some (.slice q1 (ln V) (ln V)) := by subst hW; go_simp
  have hB : Below w.heap.size w W := by subst hW; exact (((Below.refl _ _).alloc (by (try simp only [World.size_alloc]); omega) _).alloc (by (try simp only [World.size_alloc]); omega) _)
  have hz : W.heap.size = w.heap.size + 1 + 1 := by subst hW; simp only [World.size_alloc]
  rw [hW]
  clear hW
  have hBW : Below W.heap.size W W := Below.refl _ _
  refine (HI.out _ (sb hS hB hBW) (sb hS1 hB hBW)).mono ?_
  rintro e w1 ⟨rfl, b1⟩
  replace hBW := hBW.trans (b1.mono hBW.size)
  replace q00 := below_cell b1 q00
  replace q01 := below_cell b1 q01
  replace q02 := below_cell b1 q02
  replace q10 := below_cell b1 q10
  replace q11 := below_cell b1 q11
  replace q12 := below_cell b1 q12
  go_wp2_with fail
  refine (HN.out _ (sb hT hB hBW) (sb hT1 hB hBW)).mono ?_
  rintro e2 w2 ⟨rfl, hd⟩
  go_wp2
  go_ret
  exact ⟨rfl, (hB.trans (hBW.mono hB.size)).trans (hd.below _)⟩
end Go.Proofs.YtebbehlfocpjhaaGreat
