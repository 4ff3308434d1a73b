/-
  Layer 3: sum, Add, Sub.
-/
import Derived.Test.YtjbeagbkjmaeeaaGreatDoorWQ2
import Derived.Deep.CutRange
namespace Go.Proofs.YtjbeagbkjmaeeaaGreatDoor
open Go.RowKit
set_option linter.unusedVariables false

theorem New.seg2 {w1 w3 : World} {p : Option Addr} {Z n c : Nat} (h : New w1 w3 p Z n) (hc : c < w1.heap.size) (u v : Value) : Seg ((w3.setCell ⟨c, 0, none⟩ u).setCell ⟨c, 1, none⟩ v) p Z n :=
  (h.fre.mid (((Mid.refl 0 w1.heap.size w3).set c 0 (Nat.zero_le _) hc u).set c 1 (Nat.zero_le _) hc v)).seg

end Go.Proofs.YtjbeagbkjmaeeaaGreatDoor
