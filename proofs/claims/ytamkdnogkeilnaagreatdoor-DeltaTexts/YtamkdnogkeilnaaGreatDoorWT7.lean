/-
  Layer 1's texts: the reference's Parse.
-/
import Derived.Test.YtamkdnogkeilnaaGreatDoorWT1
import Derived.Test.YtamkdnogkeilnaaGreatDoorW13
import Derived.Test.YtamkdnogkeilnaaGreatDoorW4
import Derived.Test.YtamkdnogkeilnaaGreatDoorWI1
namespace Go.Proofs.YtamkdnogkeilnaaGreatDoor
open Go.RowKit
set_option linter.unusedVariables false

theorem DS_at : ∀ (k : Nat) (h : k < 16), ((⟨#[48, 49, 50, 51, 52, 53, 54, 55, 56, 57, 97, 98, 99, 100, 101, 102]⟩ : ByteArray)[k]'h).toNat = dch k
  | 0, _ => rfl | 1, _ => rfl | 2, _ => rfl | 3, _ => rfl | 4, _ => rfl | 5, _ => rfl | 6, _ => rfl | 7, _ => rfl
  | 8, _ => rfl | 9, _ => rfl | 10, _ => rfl | 11, _ => rfl | 12, _ => rfl | 13, _ => rfl | 14, _ => rfl | 15, _ => rfl
  | k + 16, h => absurd h (by omega)

end Go.Proofs.YtamkdnogkeilnaaGreatDoor
