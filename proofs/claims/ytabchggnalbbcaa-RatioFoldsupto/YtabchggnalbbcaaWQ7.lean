/-
  The reference of layer 3: Neg, Sign, Abs, Add.
-/
import Derived.Test.YtabchggnalbbcaaWQ5
import Derived.Test.YtabchggnalbbcaaWQ6
import Derived.Test.YtabchggnalbbcaaW13
namespace Go.Proofs.Ytabchggnalbbcaa
open Go.RowKit
set_option linter.unusedVariables false

theorem Low.nf {N Z : Int} {V1 V : Nat} (h : Low N (V1 : Int) Z V) (h1 : 0 < V1) : Low (rn (ng N) (am N) V1) ((rd V1 : Nat) : Int) Z V := by rw [rn_nf h1, rd_nf h1]; exact h
theorem low_ln {s : Bool} {X Y n m : Nat} {Z : Int} {V : Nat} (hX : X < BB ^ n) (hY : Y < BB ^ m) (h : Low (rn s X Y) ((rd Y : Nat) : Int) Z V) : ln (am Z) ≤ n ∧ ln V ≤ m + 1 := by
  have h1 := h.le
  rw [am_nat] at h1
  exact ⟨ln_le_of_lt (Nat.lt_of_le_of_lt (Nat.le_trans h1.1 (rn_am s X Y)) hX), ln_le_of_lt (Nat.lt_of_le_of_lt h1.2 (rd_lt hY))⟩
end Go.Proofs.Ytabchggnalbbcaa
