/-
  Layer 3: read, lowest, opposite, order, Cmp, Neg, Abs.
-/
import Derived.Test.YtabchggnalbbcaaWQ0
import Derived.Test.YtabchggnalbbcaaWI5
namespace Go.Proofs.Ytabchggnalbbcaa
open Go.RowKit
set_option linter.unusedVariables false

theorem set3_far {w : World} {b c o : Nat} {u0 u1 u2 : Value} (hne : c ≠ b) : (((w.setCell ⟨c, 0, none⟩ u0).setCell ⟨c, 1, none⟩ u1).setCell ⟨c, 2, none⟩ u2).cell? ⟨b, o, none⟩ = w.cell? ⟨b, o, none⟩ := by
  rw [World.cell?_setCell_far _ _ _ _ (by exact hne), World.cell?_setCell_far _ _ _ _ (by exact hne), World.cell?_setCell_far _ _ _ _ (by exact hne)]
theorem set3_same {w : World} {c : Nat} {u0 u1 u2 z0 z1 z2 : Value} (h0 : w.cell? ⟨c, 0, none⟩ = some z0) (h1 : w.cell? ⟨c, 1, none⟩ = some z1) (h2 : w.cell? ⟨c, 2, none⟩ = some z2) : (((w.setCell ⟨c, 0, none⟩ u0).setCell ⟨c, 1, none⟩ u1).setCell ⟨c, 2, none⟩ u2).cell? ⟨c, 0, none⟩ = some u0 ∧ (((w.setCell ⟨c, 0, none⟩ u0).setCell ⟨c, 1, none⟩ u1).setCell ⟨c, 2, none⟩ u2).cell? ⟨c, 1, none⟩ = some u1 ∧ (((w.setCell ⟨c, 0, none⟩ u0).setCell ⟨c, 1, none⟩ u1).setCell ⟨c, 2, none⟩ u2).cell? ⟨c, 2, none⟩ = some u2 := by
  refine ⟨?_, ?_, ?_⟩
  · rw [World.cell?_setCell_other _ _ _ _ (fun e => by simp at e), World.cell?_setCell_other _ _ _ _ (fun e => by simp at e)]; exact World.cell?_setCell_same (u := z0) _ _ _ (by exact h0)
  · rw [World.cell?_setCell_other _ _ _ _ (fun e => by simp at e)]; exact World.cell?_setCell_same (u := z1) _ _ _ (by rw [World.cell?_setCell_other _ _ _ _ (fun e => by simp at e)]; exact h1)
  · exact World.cell?_setCell_same (u := z2) _ _ _ (by rw [World.cell?_setCell_other _ _ _ _ (fun e => by simp at e), World.cell?_setCell_other _ _ _ _ (fun e => by simp at e)]; exact h2)
end Go.Proofs.Ytabchggnalbbcaa
