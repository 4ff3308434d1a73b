/-
  The reference of layer 3: Neg, Sign, Abs, Add.
-/
import Derived.Test.YtpifbbopcngdhaaGreatDoorW13
import Derived.Test.YtpifbbopcngdhaaGreatDoorW9
import Derived.Deep.LoopGhost
import Derived.Test.YtpifbbopcngdhaaGreatDoorWQ1
import Derived.Test.YtpifbbopcngdhaaGreatDoorWI2
import Derived.Test.YtpifbbopcngdhaaGreatDoorWQ5
namespace Go.Proofs.YtpifbbopcngdhaaGreatDoor
open Go.RowKit
set_option linter.unusedVariables false

end Go.Proofs.YtpifbbopcngdhaaGreatDoor

namespace Go.Proofs.YtpifbbopcngdhaaGreatDoor
open Go.RowKit
set_option linter.unusedVariables false

end Go.Proofs.YtpifbbopcngdhaaGreatDoor

namespace Go.Proofs.YtpifbbopcngdhaaGreatDoor
open Go.RowKit
set_option linter.unusedVariables false


end Go.Proofs.YtpifbbopcngdhaaGreatDoor

namespace Go.Proofs.YtpifbbopcngdhaaGreatDoor
open Go.RowKit
set_option linter.unusedVariables false

theorem low_ln {s : Bool} {X Y n m : Nat} {Z : Int} {V : Nat} (hX : X < BB ^ n) (hY : Y < BB ^ m) (h : Low (rn s X Y) ((rd Y : Nat) : Int) Z V) : ln (am Z) ≤ n ∧ ln V ≤ m + 1 := by
  have h1 := h.le
  rw [am_nat] at h1
  exact ⟨ln_le_of_lt (Nat.lt_of_le_of_lt (Nat.le_trans h1.1 (rn_am s X Y)) hX), ln_le_of_lt (Nat.lt_of_le_of_lt h1.2 (rd_lt hY))⟩
theorem Low.neg {A D Z : Int} {V : Nat} (h : Low A D Z V) : Low (-A) D (-Z) V := ⟨h.ne, h.pos, by have := h.eq; rw [Int.neg_mul, Int.neg_mul, this], by rw [am_neg]; exact h.cop⟩

end Go.Proofs.YtpifbbopcngdhaaGreatDoor
