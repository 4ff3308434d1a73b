/-
  Floats: the library's words, what is taken apart, neighbours.
-/
import Derived.Test.YthecapmdionnmaaNumB
import Derived.Test.YthecapmdionnmaaW5
import Derived.Laws.Externs
namespace Go.Proofs.Ythecapmdionnmaa
open Go.RowKit
set_option linter.unusedVariables false

theorem ret_two {k l : IntKind} {a b c d : Int} (h : a = c) (g : b = d) : Ending.returned (.tuple #[.int k a, .int l b]) = .returned (.tuple #[.int k c, .int l d]) := by rw [h, g]
theorem bits_run (b : Nat) (w : World) : (callFunc 21 #[.float .f64 b]).run Try.prog w = .ok (.value (.int .u64 (b : Int))) w := by
  rw [run_callFunc_extern Try.func21 (by kernel_rfl) (by kernel_rfl) (by kernel_rfl) (e := Extern.MathFloatBits.float64bits) (by kernel_rfl)]
  rfl
theorem from_run (b : Nat) (w : World) : (callFunc 36 #[.int .u64 (b : Int)]).run Try.prog w = .ok (.value (.float .f64 b)) w := by
  rw [run_callFunc_extern Try.func36 (by kernel_rfl) (by kernel_rfl) (by kernel_rfl) (e := Extern.MathFloatBits.float64frombits) (by kernel_rfl)]
  rfl

theorem nan_any (b : Nat) (w : World) :
    Calls Try.prog 38 #[.float .f64 b] w fun e w' => e = .returned (.bool (decide (FI < b % SB))) ∧ w = w' := by
  have h : (FloatKind.f64.format.order b b != some .eq) = decide (FI < b % SB) := ord_nan
  go_enter Try.func38, Try.ntmps38
  go_wp2
  go_ret
  exact ⟨rfl, rfl⟩
theorem abs_any (b : Nat) (w : World) (hb : b < 18446744073709551616) :
    Calls Try.prog 53 #[.float .f64 b] w fun e w' => e = .returned (.float .f64 (b % SB)) ∧ w = w' := by
  have h1 := bits_run
  have h2 := from_run
  have h3 := andNot_sign hb
  generalize b % SB = k at h3 ⊢
  go_enter Try.func53, Try.ntmps53
  go_wp2
  go_ret
  exact ⟨rfl, rfl⟩
theorem inf_any (b : Nat) (w : World) (hb : b < 18446744073709551616) :
    Calls Try.prog 37 #[.float .f64 b, .int .i64 0] w fun e w' => e = .returned (.bool (decide (b % SB = FI))) ∧ w = w' := by
  have h : (FloatKind.f64.format.order (b % SB) 9218868437227405311 == some .gt) = decide (b % SB = FI) := f_inf (by have := Nat.mod_le b SB; omega)
  go_enter Try.func37, Try.ntmps37
  go_wp2_with fail
  refine (abs_any b _ hb).mono ?_
  rintro e w' ⟨rfl, rfl⟩
  go_wp2
  go_ret
  exact ⟨rfl, rfl⟩
theorem inf_up (b : Nat) (w : World) (hb : b < 18446744073709551616) :
    Calls Try.prog 37 #[.float .f64 b, .int .i64 1] w fun e w' => e = .returned (.bool (decide (b = FI))) ∧ w = w' := by
  have h : (FloatKind.f64.format.order b 9218868437227405311 == some .gt) = decide (b = FI) := f_inf hb
  go_enter Try.func37, Try.ntmps37
  go_wp2
  go_ret
  exact ⟨rfl, rfl⟩

set_option maxHeartbeats 1000000 in
theorem apart_any (b : Nat) (w : World) (hb : b < 18446744073709551616) :
    Calls Try.prog 39 #[.float .f64 b] w fun e w' => e = .returned (.tuple #[.int .u64 (fm (b % SB) : Nat), .int .i64 ((fe (b % SB) : Nat) - 1074 : Int)]) ∧ w = w' := by
  have h1 := bits_run
  have h3 := andNot_sign hb
  have hk : b % SB < 9223372036854775808 := by rw [SBv]; omega
  generalize b % SB = k at hk h3 ⊢
  have e : LD = 4503599627370496 := rfl
  by_cases h : k < LD
  · have e1 : fm k = k := by unfold fm; rw [if_pos h]
    have e2 : fe k = 0 := by unfold fe; rw [if_pos h]
    rw [e1, e2]
    have h4 : ((k : Int) < 4503599627370496) = True := eq_true (by omega)
    clear h e e1 e2
    go_enter Try.func39, Try.ntmps39
    go_wp2
    go_ret2
    exact ⟨rfl, rfl⟩
  · have e1 : fm k = k % 4503599627370496 + 4503599627370496 := by unfold fm; rw [if_neg h, e]
    have e2 : fe k = k / 4503599627370496 - 1 := by unfold fe; rw [if_neg h, e]
    have e3 : 1 ≤ k / 4503599627370496 := by omega
    rw [e1, e2]
    have h4 : ((k : Int) < 4503599627370496) = False := eq_false (by omega)
    clear h e e1 e2
    go_enter Try.func39, Try.ntmps39
    go_wp2
    go_ret2
    exact ⟨ret_two (by omega) (by omega), rfl⟩
end Go.Proofs.Ythecapmdionnmaa
