/-
  Shifts: shiftUp, shiftDown, raised, lowered, Shift.
-/
import Derived.Test.YtabchggnalbbcaaW6
namespace Go.Proofs.Ytabchggnalbbcaa
open Go.RowKit
set_option linter.unusedVariables false

theorem BB_two' (k : Nat) : BB ^ k = 2 ^ (32 * k) := by rw [Nat.pow_mul]; rfl
theorem two_le {s : Nat} (h : s ≤ 31) : 2 ^ s ≤ 2147483648 := Nat.pow_le_pow_right (show 0 < 2 by omega) (show s ≤ 31 by omega)
theorem cast_two (s : Nat) : ((2 ^ s : Nat) : Int) = 2 ^ s := by simp
end Go.Proofs.Ytabchggnalbbcaa
