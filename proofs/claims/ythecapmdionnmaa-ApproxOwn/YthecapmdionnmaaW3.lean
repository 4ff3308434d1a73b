/-
  The walks over the reference's small functions, and over the statements' own helpers: twin, same, Same, Norm, Of, Small, at, Cmp, Add, Sub.
-/
import Derived.Test.YthecapmdionnmaaW2
namespace Go.Proofs.Ythecapmdionnmaa
open Go.RowKit
set_option linter.unusedVariables false


/-- are both the same list -/
def sameB (n m X Y : Nat) : Bool := decide (n = m ∧ X = Y)

theorem sameB_self (n X : Nat) : sameB n n X X = true := by simp [sameB]



end Go.Proofs.Ythecapmdionnmaa
