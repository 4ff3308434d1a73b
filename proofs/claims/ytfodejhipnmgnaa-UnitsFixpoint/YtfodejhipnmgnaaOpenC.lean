/-
  From what a law's row hands over (clauses, lists of clauses, truths that came in) to the walks' words.
-/
import Derived.Test.YtfodejhipnmgnaaTKO
import Derived.Test.YtfodejhipnmgnaaCL0
import Derived.Deep.Matrix
import Derived.Deep.Grids
import Derived.Sort.Row
namespace Go.Proofs.Ytfodejhipnmgnaa
open Go.ChangeShapes Go.WideShapes Go.ChangeAt Go.RowKit
set_option linter.unusedVariables false
set_option linter.unusedSimpArgs false
theorem bulk_litsC {H : Type} : ∀ (l : List Int), l.length ≤ Rows.uptoBulkAll (lits (H := H) .i64 l)
  | [] => by simp [lits, Rows.uptoBulkAll]
  | z :: r => by
    have ih := bulk_litsC (H := H) r
    simp only [lits, List.map_cons, Rows.uptoBulkAll, Rows.uptoBulk, List.length_cons] at ih ⊢
    omega
theorem cells_intC : Try.prog.cellsOf 3 = 1 := by kernel_rfl
theorem cells_ClauseC : Try.prog.cellsOf 41 = 1 := by kernel_rfl
end Go.Proofs.Ytfodejhipnmgnaa
