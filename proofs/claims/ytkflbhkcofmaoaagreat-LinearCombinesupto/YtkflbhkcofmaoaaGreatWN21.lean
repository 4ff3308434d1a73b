/-
  Layer 6: what Solve tells, put in: nothing is left.
-/
import Derived.Test.YtkflbhkcofmaoaaGreatWN20
namespace Go.Proofs.YtkflbhkcofmaoaaGreat
open Go.RowKit
set_option linter.unusedVariables false
set_option linter.unusedSimpArgs false

theorem sz_zero (N : Nat) (h : 1 ≤ N) : sz N 0 := ⟨by show ln 0 ≤ _; rw [ln_zero]; omega, by show ln 1 ≤ _; rw [ln_one]; omega⟩
theorem nrm.sub {l m : Fo} (h : nrm l) (hs : List.Sublist m l) : nrm m := ⟨h.1.sublist hs, fun p hp => h.2 p (hs.subset hp)⟩
end Go.Proofs.YtkflbhkcofmaoaaGreat
