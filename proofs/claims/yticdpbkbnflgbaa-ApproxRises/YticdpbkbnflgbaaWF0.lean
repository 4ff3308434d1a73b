/-
  Floats: the library's words, what is taken apart, neighbours.
-/
import Derived.Test.YticdpbkbnflgbaaNumB
import Derived.Test.YticdpbkbnflgbaaW5
import Derived.Laws.Externs
namespace Go.Proofs.Yticdpbkbnflgbaa
open Go.RowKit
set_option linter.unusedVariables false

theorem ret_two {k l : IntKind} {a b c d : Int} (h : a = c) (g : b = d) : Ending.returned (.tuple #[.int k a, .int l b]) = .returned (.tuple #[.int k c, .int l d]) := by rw [h, g]
theorem bits_run (b : Nat) (w : World) : (callFunc 18 #[.float .f64 b]).run Try.prog w = .ok (.value (.int .u64 (b : Int))) w := by
  rw [run_callFunc_extern Try.func18 (by kernel_rfl) (by kernel_rfl) (by kernel_rfl) (e := Extern.MathFloatBits.float64bits) (by kernel_rfl)]
  rfl
theorem from_run (b : Nat) (w : World) : (callFunc 37 #[.int .u64 (b : Int)]).run Try.prog w = .ok (.value (.float .f64 b)) w := by
  rw [run_callFunc_extern Try.func37 (by kernel_rfl) (by kernel_rfl) (by kernel_rfl) (e := Extern.MathFloatBits.float64frombits) (by kernel_rfl)]
  rfl

theorem nan_any (b : Nat) (w : World) :
    Calls Try.prog 43 #[.float .f64 b] w fun e w' => e = .returned (.bool (decide (FI < b % SB))) ∧ w = w' := by
  have h : (FloatKind.f64.format.order b b != some .eq) = decide (FI < b % SB) := ord_nan
  go_enter Try.func43, Try.ntmps43
  go_wp2
  go_ret
  exact ⟨rfl, rfl⟩
theorem abs_any (b : Nat) (w : World) (hb : b < 18446744073709551616) :
    Calls Try.prog 51 #[.float .f64 b] w fun e w' => e = .returned (.float .f64 (b % SB)) ∧ w = w' := by
  have h1 := bits_run
  have h2 := from_run
  have h3 := andNot_sign hb
  generalize b % SB = k at h3 ⊢
  go_enter Try.func51, Try.ntmps51
  go_wp2
  go_ret
  exact ⟨rfl, rfl⟩
theorem inf_any (b : Nat) (w : World) (hb : b < 18446744073709551616) :
    Calls Try.prog 33 #[.float .f64 b, .int .i64 0] w fun e w' => e = .returned (.bool (decide (b % SB = FI))) ∧ w = w' := by
  have h : (FloatKind.f64.format.order (b % SB) 9218868437227405311 == some .gt) = decide (b % SB = FI) := f_inf (by have := Nat.mod_le b SB; omega)
  go_enter Try.func33, Try.ntmps33
  go_wp2_with fail
  refine (abs_any b _ hb).mono ?_
  rintro e w' ⟨rfl, rfl⟩
  go_wp2
  go_ret
  exact ⟨rfl, rfl⟩
theorem inf_up (b : Nat) (w : World) (hb : b < 18446744073709551616) :
    Calls Try.prog 33 #[.float .f64 b, .int .i64 1] w fun e w' => e = .returned (.bool (decide (b = FI))) ∧ w = w' := by
  have h : (FloatKind.f64.format.order b 9218868437227405311 == some .gt) = decide (b = FI) := f_inf hb
  go_enter Try.func33, Try.ntmps33
  go_wp2
  go_ret
  exact ⟨rfl, rfl⟩
theorem vnan_any (b : Nat) (w : World) (hb : b < 18446744073709551616) :
    Calls Try.prog 17 #[.int .u64 (b : Int)] w fun e w' => e = .returned (.bool (decide (FI < b % SB))) ∧ w = w' := by
  have h3 := andNot_sign hb
  generalize b % SB = k at h3 ⊢
  have h4 : decide ((9218868437227405312 : Int) < (k : Int)) = decide (FI < k) := by rw [decide_eq_decide, FIv]; omega
  go_enter Try.func17, Try.ntmps17
  go_wp2
  go_ret
  exact ⟨rfl, rfl⟩
theorem vinf_any (b : Nat) (w : World) (hb : b < 18446744073709551616) :
    Calls Try.prog 34 #[.int .u64 (b : Int)] w fun e w' => e = .returned (.bool (decide (b % SB = FI))) ∧ w = w' := by
  have h3 := andNot_sign hb
  generalize b % SB = k at h3 ⊢
  have h4 : ((k : Int) == 9218868437227405312) = decide (k = FI) := by
    by_cases h : k = FI
    · rw [decide_eq_true h, h]; rfl
    · rw [decide_eq_false h, beq_eq_false_iff_ne]; rw [FIv] at h; omega
  go_enter Try.func34, Try.ntmps34
  go_wp2
  go_ret
  exact ⟨rfl, rfl⟩

set_option maxHeartbeats 1000000 in
theorem apart_any (b : Nat) (w : World) (hb : b < 18446744073709551616) :
    Calls Try.prog 68 #[.float .f64 b] w fun e w' => e = .returned (.tuple #[.int .u64 (fm (b % SB) : Nat), .int .i64 ((fe (b % SB) : Nat) - 1074 : Int)]) ∧ w = w' := by
  have h1 := bits_run
  have h3 := andNot_sign hb
  have hk : b % SB < 9223372036854775808 := by rw [SBv]; omega
  generalize b % SB = k at hk h3 ⊢
  have e : LD = 4503599627370496 := rfl
  by_cases h : k < LD
  · have e1 : fm k = k := by unfold fm; rw [if_pos h]
    have e2 : fe k = 0 := by unfold fe; rw [if_pos h]
    rw [e1, e2]
    have h4 : ((k : Int) < 4503599627370496) = True := eq_true (by omega)
    clear h e e1 e2
    go_enter Try.func68, Try.ntmps68
    go_wp2
    go_ret2
    exact ⟨rfl, rfl⟩
  · have e1 : fm k = k % 4503599627370496 + 4503599627370496 := by unfold fm; rw [if_neg h, e]
    have e2 : fe k = k / 4503599627370496 - 1 := by unfold fe; rw [if_neg h, e]
    have e3 : 1 ≤ k / 4503599627370496 := by omega
    rw [e1, e2]
    have h4 : ((k : Int) < 4503599627370496) = False := eq_false (by omega)
    clear h e e1 e2
    go_enter Try.func68, Try.ntmps68
    go_wp2
    go_ret2
    exact ⟨ret_two (by omega) (by omega), rfl⟩
set_option maxHeartbeats 1000000 in
theorem parts_any (k : Nat) (w : World) (hk : k < 9223372036854775808) :
    Calls Try.prog 92 #[.int .u64 (k : Int)] w fun e w' => e = .returned (.tuple #[.int .u64 (fm k : Nat), .int .i64 ((fe k : Nat) - 1074 : Int)]) ∧ w = w' := by
  have h3 := and_frac (b := k) (by omega)
  have e : LD = 4503599627370496 := rfl
  by_cases h : k < LD
  · have e1 : fm k = k := by unfold fm; rw [if_pos h]
    have e2 : fe k = 0 := by unfold fe; rw [if_pos h]
    have e3 : k % LD = k := Nat.mod_eq_of_lt h
    rw [e3] at h3
    rw [e1, e2]
    have h5 : k / 4503599627370496 = 0 := by omega
    clear e1 e2 e3 h e
    go_enter Try.func92, Try.ntmps92
    go_wp2
    go_ret2
    exact ⟨rfl, rfl⟩
  · have e1 : fm k = k % 4503599627370496 + 4503599627370496 := by unfold fm; rw [if_neg h, e]
    have e2 : fe k = k / 4503599627370496 - 1 := by unfold fe; rw [if_neg h, e]
    have e3 : 1 ≤ k / 4503599627370496 := by omega
    rw [e] at h3
    rw [e1, e2]
    clear h e e1 e2
    go_enter Try.func92, Try.ntmps92
    go_wp2
    go_ret2
    exact ⟨ret_two (by omega) (by omega), rfl⟩
end Go.Proofs.Yticdpbkbnflgbaa
