import Derived.Test.YtnoiiphgpjifgaaGreatDoorWTD
import Derived.Test.YtnoiiphgpjifgaaGreatDoorWI1
set_option linter.unusedSimpArgs false
namespace Go.Proofs.YtnoiiphgpjifgaaGreatDoor
open Go.RowKit
set_option linter.unusedVariables false
def isTz (s : Bool) (X : Nat) (u : ByteArray) : Prop := ∃ t, isTx 10 X t ∧ u = if s = true ∧ X ≠ 0 then ⟨#[45]⟩ ++ t else t
end Go.Proofs.YtnoiiphgpjifgaaGreatDoor
