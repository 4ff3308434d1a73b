/-
  The closed facts of TermsNobody's row, one by one.
-/
import Derived.Test.YtajoffppkemnmaaGreatDoorTNB
import Derived.Test.YtajoffppkemnmaaGreatDoorRows
import Derived.Test.YtajoffppkemnmaaGreatDoorChecked
import Derived.Deep.DeepHandedRow
import Derived.JoinedCond
import Derived.ChangeMaps5
namespace Go.Proofs.YtajoffppkemnmaaGreatDoor
open Go.ChangeShapes Go.WideShapes Go.ChangeAt Go.RowKit
set_option maxHeartbeats 40000000 in
set_option maxRecDepth 100000 in
theorem nobodyFacts : joinedFacts Tryz.pinned.checked.prog 3 Tryz.f3 (OpenSpec.ofChange Rows.termsNobodySpec).bare Rows.termsNobodyRow = true := by
  unfold joinedFacts
  repeat' (refine Bool.and_eq_true_iff.2 ⟨?_, ?_⟩)
  all_goals (as_aux_lemma => kernel_rfl)
end Go.Proofs.YtajoffppkemnmaaGreatDoor
