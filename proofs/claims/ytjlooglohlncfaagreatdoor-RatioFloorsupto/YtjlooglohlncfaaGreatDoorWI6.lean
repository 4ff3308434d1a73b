/-
  The laws' own helpers: one, awake.
-/
import Derived.Test.YtjlooglohlncfaaGreatDoorWI5
namespace Go.Proofs.YtjlooglohlncfaaGreatDoor
open Go.RowKit
set_option linter.unusedVariables false
theorem ln_am_small {z : Int} (h1 : -9223372036854775808 ≤ z) (h2 : z ≤ 9223372036854775807) : ln (am z) ≤ 2 := ln_le_of_lt (by rw [BB2]; unfold am; omega)


end Go.Proofs.YtjlooglohlncfaaGreatDoor
