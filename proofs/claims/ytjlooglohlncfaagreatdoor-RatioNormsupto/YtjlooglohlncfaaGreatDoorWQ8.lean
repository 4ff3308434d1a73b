/-
  The reference of layer 3: Add, Sub, Cmp, Mul.
-/
import Derived.Test.YtjlooglohlncfaaGreatDoorWQ7
namespace Go.Proofs.YtjlooglohlncfaaGreatDoor
open Go.RowKit
set_option linter.unusedVariables false

theorem Seg.set3 {w : World} {p : Option Addr} {X n c : Nat} {u0 u1 u2 : Value} {z0 : Bool} {a1 a2 : Option Addr} {n1 n2 k1 k2 : Nat} (h : Seg w p X n) (h0 : w.cell? ⟨c, 0, none⟩ = some (.bool z0)) (h1 : w.cell? ⟨c, 1, none⟩ = some (.slice a1 n1 k1)) (h2 : w.cell? ⟨c, 2, none⟩ = some (.slice a2 n2 k2)) :
    Seg (((w.setCell ⟨c, 0, none⟩ u0).setCell ⟨c, 1, none⟩ u1).setCell ⟨c, 2, none⟩ u2) p X n := by
  refine ((h.setB h0 (by simp)).setB (z := .slice a1 n1 k1) ?_ (by simp)).setB (z := .slice a2 n2 k2) ?_ (by simp)
  · rw [World.cell?_setCell_other _ _ _ _ (fun e => by simp at e)]; exact h1
  · rw [World.cell?_setCell_other _ _ _ _ (fun e => by simp at e), World.cell?_setCell_other _ _ _ _ (fun e => by simp at e)]; exact h2

end Go.Proofs.YtjlooglohlncfaaGreatDoor
