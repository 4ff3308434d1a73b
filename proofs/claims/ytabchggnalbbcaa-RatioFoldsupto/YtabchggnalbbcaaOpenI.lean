/-
  From what a law's row hands over (an api.Int that came in) to the walks' words.
-/
import Derived.Test.YtabchggnalbbcaaOpen
import Derived.ChangeSame
namespace Go.Proofs.Ytabchggnalbbcaa
open Go.ChangeShapes Go.WideShapes Go.ChangeAt Go.RowKit
set_option linter.unusedVariables false

theorem cells_bool : Try.prog.cellsOf 4 = 1 := by kernel_rfl
theorem cells_nat : Try.prog.cellsOf 24 = 1 := by kernel_rfl
theorem cells_Int : Try.prog.cellsOf 26 = 2 := by kernel_rfl

/-- the weights of the argument j -/
theorem sized_at {H : Type} {P : Program} : ∀ {ts : List TypeId} {ds : List (DataW H)} (j : Nat) {t : TypeId} {d : DataW H}, (DataW.weightsEach P ts ds).all (· ≤ reachBytes) = true → ts[j]? = some t → ds[j]? = some d → (d.weights P t).all (· ≤ reachBytes) = true := by
  intro ts ds j t d h ht hd
  rw [List.all_eq_true] at h ⊢
  exact fun x hx => h x (DataW.weights_mem_each ht hd x hx)
end Go.Proofs.Ytabchggnalbbcaa
