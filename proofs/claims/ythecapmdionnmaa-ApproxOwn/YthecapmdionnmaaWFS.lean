/-
  Floats: same.
-/
import Derived.Test.YthecapmdionnmaaWF0
namespace Go.Proofs.Ythecapmdionnmaa
open Go.RowKit
set_option linter.unusedVariables false
theorem fsame_is (b c : Nat) (w : World) :
    Calls Try.prog 9 #[.float .f64 b, .float .f64 c] w fun e w' => e = .returned (.bool (decide (b = c))) ∧ Below w.heap.size w w' := by
  have h1 := bits_run
  have h2 : ((b : Int) == (c : Int)) = decide (b = c) := by
    by_cases h : b = c
    · rw [decide_eq_true h, h, beq_iff_eq]
    · rw [decide_eq_false h, beq_eq_false_iff_ne]; omega
  go_enter Try.func9, Try.ntmps9
  go_wp2
  go_ret
  exact ⟨rfl, Below.refl _ _⟩
theorem fsame_self (b : Nat) (w : World) :
    Calls Try.prog 9 #[.float .f64 b, .float .f64 b] w fun e w' => e = .returned (.bool true) ∧ Below w.heap.size w w' := by
  have := fsame_is b b w
  rwa [decide_eq_true rfl] at this
end Go.Proofs.Ythecapmdionnmaa
