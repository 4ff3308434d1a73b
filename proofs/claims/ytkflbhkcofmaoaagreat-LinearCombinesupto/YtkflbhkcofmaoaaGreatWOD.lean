/-
  SameAffine; both Solves at once.
-/
import Derived.Test.YtkflbhkcofmaoaaGreatWOC
import Derived.Test.YtkflbhkcofmaoaaGreatOpenA
namespace Go.Proofs.YtkflbhkcofmaoaaGreat
open Go.RowKit
set_option linter.unusedVariables false
set_option linter.unusedSimpArgs false

set_option maxHeartbeats 4000000 in
set_option maxRecDepth 100000 in
theorem SameAffine_is (a : Option Addr) (ca : Nat) (L : List Mo) (b : Option Addr) (cb : Nat) (M : List Mo) (Z : Int) (V : Nat) (p q p1 q1 : Option Addr) (w : World) (hF : FAt w a L) (hG : FAt w b M) (hE : ∀ p ∈ L, Ent w p) (hE2 : ∀ p ∈ M, Ent w p) (hca : L.length ≤ ca) (hcb : M.length ≤ cb) (hm : L.length ≤ 2097152) (hfo : fo L = fo M)
    (h1 : ln (am Z) ≤ 70368744177664) (h2 : ln V ≤ 70368744177664) (hS : Seg w p (am Z) (ln (am Z))) (hT : Seg w q V (ln V)) (hS1 : Seg w p1 (am Z) (ln (am Z))) (hT1 : Seg w q1 V (ln V)) :
    Calls Tryz.prog 5 #[.agg #[.slice a L.length ca, .bool (ng Z), .slice p (ln (am Z)) (ln (am Z)), .slice q (ln V) (ln V)], .agg #[.slice b M.length cb, .bool (ng Z), .slice p1 (ln (am Z)) (ln (am Z)), .slice q1 (ln V) (ln V)]] w fun e w' => e = .returned (.bool true) ∧ Below w.heap.size w w' := by
  have G1 := hide' (fun w' (hb9 : Below w.heap.size w w') => SameForm_is a ca L b cb M w' (hF.later hb9) (hG.later hb9) ((show Ents w L from hE).later hb9) ((show Ents w M from hE2).later hb9) hca hcb hm hfo)
  have G2 := hide' (fun w' (hb9 : Below w.heap.size w w') => SameRat_is Z V p q p1 q1 w' h1 h2 (hS.later hb9) (hT.later hb9) (hS1.later hb9) (hT1.later hb9))
  clear hF hG hE hE2 hca hcb hm hfo h1 h2 hS hT hS1 hT1
  go_enter Tryz.func5, Tryz.ntmps5
  go_wp2_with fail
  obtain ⟨wA, hwA⟩ : ∃ wA, (w.alloc (.cells #[.slice a L.length ca, .bool (ng Z), .slice p (ln (am Z)) (ln (am Z)), .slice q (ln V) (ln V)] 33)).alloc (.cells #[.slice b M.length cb, .bool (ng Z), .slice p1 (ln (am Z)) (ln (am Z)), .slice q1 (ln V) (ln V)] 33) = wA := ⟨_, rfl⟩
  have hB : Below w.heap.size w wA := by subst hwA; exact (below_alloc _).trans ((below_alloc _).mono (below_alloc _).size)
  have d0 : wA.cell? ⟨w.heap.size, 0, none⟩ = some (.slice a L.length ca) := by subst hwA; go_simp
  have d1 : wA.cell? ⟨w.heap.size, 1, none⟩ = some (.bool (ng Z)) := by subst hwA; go_simp
  have d2 : wA.cell? ⟨w.heap.size, 2, none⟩ = some (.slice p (ln (am Z)) (ln (am Z))) := by subst hwA; go_simp
  have d3 : wA.cell? ⟨w.heap.size, 3, none⟩ = some (.slice q (ln V) (ln V)) := by subst hwA; go_simp
  have f0 : wA.cell? ⟨w.heap.size + 1, 0, none⟩ = some (.slice b M.length cb) := by subst hwA; go_simp
  have f1 : wA.cell? ⟨w.heap.size + 1, 1, none⟩ = some (.bool (ng Z)) := by subst hwA; go_simp
  have f2 : wA.cell? ⟨w.heap.size + 1, 2, none⟩ = some (.slice p1 (ln (am Z)) (ln (am Z))) := by subst hwA; go_simp
  have f3 : wA.cell? ⟨w.heap.size + 1, 3, none⟩ = some (.slice q1 (ln V) (ln V)) := by subst hwA; go_simp
  rw [hwA]
  clear hwA
  refine (G1.out _ hB).mono ?_
  rintro e w1 ⟨rfl, b1⟩
  replace d1 := below_cell b1 d1
  replace d2 := below_cell b1 d2
  replace d3 := below_cell b1 d3
  replace f1 := below_cell b1 f1
  replace f2 := below_cell b1 f2
  replace f3 := below_cell b1 f3
  replace hB := hB.trans (b1.mono hB.size)
  go_wp2_with fail
  refine (G2.out _ hB).mono ?_
  rintro e w2 ⟨rfl, b2⟩
  go_wp2
  go_ret
  exact ⟨rfl, hB.trans (b2.mono hB.size)⟩
end Go.Proofs.YtkflbhkcofmaoaaGreat
