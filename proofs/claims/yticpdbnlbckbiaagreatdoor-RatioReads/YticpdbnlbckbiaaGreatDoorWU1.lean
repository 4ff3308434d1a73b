/-
  Layer 2's Text, of any number.
-/
import Derived.Test.YticpdbnlbckbiaaGreatDoorWTD
import Derived.Test.YticpdbnlbckbiaaGreatDoorWI1
namespace Go.Proofs.YticpdbnlbckbiaaGreatDoor
open Go.RowKit
set_option linter.unusedVariables false

/-- a number's decimal text: its sign, and its amount's -/
def isTz (s : Bool) (X : Nat) (u : ByteArray) : Prop := ∃ t, isTx 10 X t ∧ u = if s = true ∧ X ≠ 0 then ⟨#[45]⟩ ++ t else t
theorem sgn_up (X : Nat) : ¬ (sgn (sg false X) < 0) := by
  by_cases e : X = 0
  · subst e; decide
  · rw [sgn_sg e]; decide
end Go.Proofs.YticpdbnlbckbiaaGreatDoor
