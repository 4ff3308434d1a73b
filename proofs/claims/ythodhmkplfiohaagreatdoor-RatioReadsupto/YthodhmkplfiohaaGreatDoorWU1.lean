/-
  Layer 2's Text, of any number.
-/
import Derived.Test.YthodhmkplfiohaaGreatDoorWTD
import Derived.Test.YthodhmkplfiohaaGreatDoorWI1
namespace Go.Proofs.YthodhmkplfiohaaGreatDoor
open Go.RowKit
set_option linter.unusedVariables false

/-- a number's decimal text: its sign, and its amount's -/
def isTz (s : Bool) (X : Nat) (u : ByteArray) : Prop := ∃ t, isTx 10 X t ∧ u = if s = true ∧ X ≠ 0 then ⟨#[45]⟩ ++ t else t
end Go.Proofs.YthodhmkplfiohaaGreatDoor
