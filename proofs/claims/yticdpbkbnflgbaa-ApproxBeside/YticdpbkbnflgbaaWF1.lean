/-
  Floats: neighbours.
-/
import Derived.Test.YticdpbkbnflgbaaWF0
import Derived.Test.YticdpbkbnflgbaaW8
namespace Go.Proofs.Yticdpbkbnflgbaa
open Go.RowKit
set_option linter.unusedVariables false

theorem neg_run {b : Nat} (h : b < 18446744073709551616) (w : World) : (Op.unary UnOp.neg (Value.float FloatKind.f64 b)).run Try.prog w = .ok (.float .f64 (flp b)) w := by
  rw [← neg_float h]; rfl
theorem big_of {b : Nat} (h0 : b % SB ≠ 0) (hp : ¬ (0 < b ∧ b < SB)) : SB ≤ b := by rw [SBv] at *; omega
theorem mod_ne {b : Nat} (h : b < 18446744073709551616) (hp : SB ≤ b) (h0 : b ≠ SB) : b % SB ≠ 0 := by rw [SBv] at *; omega
theorem nought_of {b : Nat} (hp : ¬ SB ≤ b) (hz : b % SB = 0) : b = 0 := by rw [SBv] at *; omega
/-- what Next refuses -/
def nxE (b : Nat) : Int := if FI < b % SB then 40 else if b = FI then 41 else 0
def nxF (b : Nat) : Nat := if nxE b = 0 then nxt b else 0
def pvE (b : Nat) : Int := nxE (flp b)
def pvF (b : Nat) : Nat := if pvE b = 0 then flp (nxF (flp b)) else 0
theorem nxE_nan {b : Nat} (h : FI < b % SB) : nxE b = 40 := if_pos h
theorem nxE_inf {b : Nat} (h : b = FI) : nxE b = 41 := by unfold nxE; rw [if_neg, if_pos h]; rw [h]; decide
theorem nxE_no {b : Nat} (h : ¬ FI < b % SB) (h2 : b ≠ FI) : nxE b = 0 := by unfold nxE; rw [if_neg h, if_neg h2]
theorem nxF_no {b : Nat} (h : nxE b ≠ 0) : nxF b = 0 := if_neg h
theorem nxF_of {b : Nat} (h : nxE b = 0) : nxF b = nxt b := if_pos h
theorem nxE_rng (b : Nat) : 0 ≤ nxE b ∧ nxE b ≤ 41 := by
  unfold nxE; split
  · omega
  · split <;> omega
theorem nxF_lt {b : Nat} (h : b < 18446744073709551616) : nxF b < 18446744073709551616 := by
  unfold nxF; split
  · rename_i h2
    refine nxt_lt h ?_
    unfold nxE at h2
    split at h2 <;> omega
  · omega

set_option maxHeartbeats 1000000 in
theorem next_any (b : Nat) (w : World) (hb : b < 18446744073709551616) :
    Calls Try.prog 25 #[.float .f64 b] w fun e w' => e = .returned (.tuple #[.float .f64 (nxF b), .int .i64 (nxE b)]) ∧ w = w' := by
  have h1 := bits_run
  by_cases hn : FI < b % SB
  · rw [nxF_no (by rw [nxE_nan hn]; decide), nxE_nan hn]
    have hd : decide (FI < b % SB) = true := decide_eq_true hn
    clear hn
    go_enter Try.func25, Try.ntmps25
    go_wp2_with fail
    refine (nan_any b _).mono ?_
    rintro e w' ⟨rfl, rfl⟩
    go_wp2
    go_ret2
    exact ⟨rfl, rfl⟩
  · have hd : decide (FI < b % SB) = false := decide_eq_false hn
    by_cases hi : b = FI
    · rw [nxF_no (by rw [nxE_inf hi]; decide), nxE_inf hi]
      have hd2 : decide (b = FI) = true := decide_eq_true hi
      clear hn hi
      go_enter Try.func25, Try.ntmps25
      go_wp2_with fail
      refine (nan_any b _).mono ?_
      rintro e w' ⟨rfl, rfl⟩
      rw [hd]
      go_wp2_with fail
      refine (inf_up b _ hb).mono ?_
      rintro e w' ⟨rfl, rfl⟩
      rw [hd2]
      go_wp2
      go_ret2
      exact ⟨rfl, rfl⟩
    · rw [nxF_of (nxE_no hn hi), nxE_no hn hi]
      have hd2 : decide (b = FI) = false := decide_eq_false hi
      have e0 : (FloatKind.f64.format.order b 0 == some .eq) = decide (b % SB = 0) := f_nought hb (by omega)
      have e1 : (FloatKind.f64.format.order b 0 == some .gt) = decide (0 < b ∧ b < SB) := f_above hb (by omega)
      have h2 := from_run
      have hs : SB = 9223372036854775808 := rfl
      have hf : FI = 9218868437227405312 := rfl
      by_cases h0 : b % SB = 0
      · have hr : nxt b = 1 := if_pos h0
        rw [hr]
        rw [decide_eq_true h0] at e0
        have h3 : (callFunc 37 #[.int .u64 1]).run Try.prog w = .ok (.value (.float .f64 1)) w := from_run 1 w
        clear hn hi h0 e1 hr hs hf h2
        go_enter Try.func25, Try.ntmps25
        go_wp2_with fail
        refine (nan_any b _).mono ?_
        rintro e w' ⟨rfl, rfl⟩
        rw [hd]
        go_wp2_with fail
        refine (inf_up b _ hb).mono ?_
        rintro e w' ⟨rfl, rfl⟩
        rw [hd2]
        go_wp2
        go_ret2
        exact ⟨rfl, rfl⟩
      · rw [decide_eq_false h0] at e0
        by_cases hp : 0 < b ∧ b < SB
        · rw [decide_eq_true hp] at e1
          have hr : nxt b = b + 1 := by unfold nxt; rw [if_neg h0, if_pos hp.2]
          rw [hr]
          have hlt : b < 9223372036854775808 := by omega
          have h3 : (callFunc 37 #[.int .u64 ((b : Int) + 1)]).run Try.prog w = .ok (.value (.float .f64 (b + 1))) w := from_run (b + 1) w
          clear hn hi h0 hp hr hs hf h2
          go_enter Try.func25, Try.ntmps25
          go_wp2_with fail
          refine (nan_any b _).mono ?_
          rintro e w' ⟨rfl, rfl⟩
          rw [hd]
          go_wp2_with fail
          refine (inf_up b _ hb).mono ?_
          rintro e w' ⟨rfl, rfl⟩
          rw [hd2]
          go_wp2
          go_ret2
          exact ⟨rfl, rfl⟩
        · rw [decide_eq_false hp] at e1
          have hge : SB ≤ b := big_of h0 hp
          have hr : nxt b = b - 1 := by unfold nxt; rw [if_neg h0, if_neg (by omega)]
          rw [hr]
          obtain ⟨c, rfl⟩ : ∃ c, b = c + 1 := ⟨b - 1, by omega⟩
          have h3 : (callFunc 37 #[.int .u64 (((c + 1 : Nat) : Int) - 1)]).run Try.prog w = .ok (.value (.float .f64 (c + 1 - 1))) w := by
            rw [show ((c + 1 : Nat) : Int) - 1 = ((c + 1 - 1 : Nat) : Int) by omega]; exact from_run _ w
          generalize c + 1 - 1 = d at h3 ⊢
          have hpos : 1 ≤ c + 1 := by omega
          generalize c + 1 = b at *
          clear hn hi h0 hp hr hs hf h2 hge
          go_enter Try.func25, Try.ntmps25
          go_wp2_with fail
          refine (nan_any b _).mono ?_
          rintro e w' ⟨rfl, rfl⟩
          rw [hd]
          go_wp2_with fail
          refine (inf_up b _ hb).mono ?_
          rintro e w' ⟨rfl, rfl⟩
          rw [hd2]
          go_wp2
          go_ret2
          exact ⟨rfl, rfl⟩
end Go.Proofs.Yticdpbkbnflgbaa
