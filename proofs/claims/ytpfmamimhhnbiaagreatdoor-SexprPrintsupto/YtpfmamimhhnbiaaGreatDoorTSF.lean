/-
  The law's gapless: blanks and comments alone.
-/
import Derived.Test.YtpfmamimhhnbiaaGreatDoorTSE
import Derived.Test.YtpfmamimhhnbiaaGreatDoorTKB
namespace Go.Proofs.YtpfmamimhhnbiaaGreatDoor
open Go.RowKit
set_option linter.unusedVariables false
set_option linter.unusedSimpArgs false

theorem byS_byt {s : ByteArray} {k : Nat} (h : k < s.size) : byS s.data.toList k = byt s k := by
  rw [byt_of h]
  unfold byS
  rw [List.getD_eq_getElem?_getD, Array.getElem?_toList]
  have h2 : k < s.data.size := h
  rw [Array.getElem?_eq_getElem h2]
  rfl
end Go.Proofs.YtpfmamimhhnbiaaGreatDoor
