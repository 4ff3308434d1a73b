/-
  Floats: their bits taken apart; comparisons. Plain mathematics.
-/
import Derived.Test.YthecapmdionnmaaNumF
import Derived.Laws.BitsAllLaws
namespace Go.Proofs.Ythecapmdionnmaa
set_option linter.unusedVariables false
theorem flip_lo {b : Nat} (h : b < SB) : b ^^^ SB = SB + b := by
  rw [SB_eq] at h ⊢
  apply Nat.eq_of_testBit_eq
  intro i
  rw [Nat.testBit_xor, Nat.testBit_two_pow]
  rcases Nat.lt_trichotomy i 63 with hi | hi | hi
  · rw [Nat.testBit_two_pow_add_gt hi]
    have : decide (63 = i) = false := by rw [decide_eq_false_iff_not]; omega
    rw [this, Bool.xor_false]
  · subst hi
    rw [Nat.testBit_two_pow_add_eq]
    simp
  · have h1 : b < 2 ^ i := Nat.lt_of_lt_of_le h (Nat.pow_le_pow_right (by omega) (by omega))
    have h2 : 2 ^ 63 + b < 2 ^ i := Nat.lt_of_lt_of_le (show 2 ^ 63 + b < 2 ^ 64 by omega) (Nat.pow_le_pow_right (by omega) (by omega))
    rw [Nat.testBit_lt_two_pow h1, Nat.testBit_lt_two_pow h2]
    have : decide (63 = i) = false := by rw [decide_eq_false_iff_not]; omega
    rw [this]; rfl
theorem flip_hi {b : Nat} (h : b < SB) : (SB + b) ^^^ SB = b := by
  rw [← flip_lo h, Nat.xor_assoc, Nat.xor_self, Nat.xor_zero]
/-- the float with the other sign -/
def flp (b : Nat) : Nat := if b < SB then SB + b else b - SB
theorem SBv : SB = 9223372036854775808 := rfl
theorem flip_eq {b : Nat} (h : b < 18446744073709551616) : b ^^^ SB = flp b := by
  unfold flp
  by_cases hb : b < SB
  · rw [if_pos hb, flip_lo hb]
  · rw [if_neg hb]
    obtain ⟨c, rfl⟩ : ∃ c, b = SB + c := ⟨b - SB, by omega⟩
    rw [flip_hi (by rw [SBv] at *; omega), Nat.add_sub_cancel_left]
theorem flp_lt {b : Nat} (h : b < 18446744073709551616) : flp b < 18446744073709551616 := by
  unfold flp; rw [SBv]; split <;> omega
theorem flp_mod {b : Nat} (h : b < 18446744073709551616) : flp b % SB = b % SB := by
  unfold flp; rw [SBv]; split <;> omega
theorem flp_flp {b : Nat} (h : b < 18446744073709551616) : flp (flp b) = b := by
  unfold flp; rw [SBv]; split <;> split <;> omega
theorem neg_float {b : Nat} (h : b < 18446744073709551616) : Op.negFloat .f64 b = flp b := flip_eq h
theorem fneg_iff {b : Nat} (h : b < 18446744073709551616) : fneg b = decide (SB ≤ b) := by
  unfold fneg
  rw [SBv]
  by_cases hb : 9223372036854775808 ≤ b
  · rw [decide_eq_true hb, beq_iff_eq]; omega
  · rw [decide_eq_false hb, beq_eq_false_iff_ne]; omega
theorem andNot_sign {b : Nat} (h : b < 18446744073709551616) : bits .andNot .u64 (b : Int) 9223372036854775808 = ((b % SB : Nat) : Int) := by
  have := u64_andNot_nat b 9223372036854775808 h (by omega)
  rw [show (18446744073709551615 - 9223372036854775808 : Nat) = 2 ^ 63 - 1 by decide, Nat.and_two_pow_sub_one_eq_mod, ← SB_eq] at this
  exact this
theorem and_pow (b : Nat) : b &&& 2 ^ 63 = if b.testBit 63 then 2 ^ 63 else 0 := by
  apply Nat.eq_of_testBit_eq
  intro i
  rw [Nat.testBit_and, Nat.testBit_two_pow]
  by_cases hi : 63 = i
  · subst hi
    cases b.testBit 63 <;> decide
  · rw [decide_eq_false hi, Bool.and_false]
    split
    · rw [Nat.testBit_two_pow, decide_eq_false hi]
    · rw [Nat.zero_testBit]
theorem and_sign {b : Nat} (h : b < 18446744073709551616) : bits .and .u64 (b : Int) 9223372036854775808 = if SB ≤ b then 9223372036854775808 else 0 := by
  have := u64_and_nat b 9223372036854775808 h (by omega)
  rw [show (9223372036854775808 : Nat) = 2 ^ 63 by decide, and_pow] at this
  refine this.trans ?_
  by_cases hb : SB ≤ b
  · have : b.testBit 63 = true := by
      rw [Nat.testBit_eq_decide_div_mod_eq, decide_eq_true_iff]
      rw [SBv] at hb
      omega
    rw [this, if_pos hb]; rfl
  · have : b.testBit 63 = false := Nat.testBit_lt_two_pow (by rw [← SB_eq]; omega)
    rw [this, if_neg hb]; rfl
theorem or_sign {b : Nat} (h : b < SB) : bits .or .u64 (b : Int) 9223372036854775808 = ((SB + b : Nat) : Int) := by
  have := u64_or_nat b 9223372036854775808 (by rw [SBv] at h; omega) (by omega)
  refine this.trans ?_
  congr 1
  rw [show (9223372036854775808 : Nat) = 2 ^ 63 * 1 by decide, Nat.or_comm, ← Nat.two_pow_add_eq_or_of_lt (by rw [← SB_eq]; exact h), Nat.mul_one, SB_eq]
theorem xor_sign {b : Nat} (h : b < 18446744073709551616) : bits .xor .u64 (b : Int) 9223372036854775808 = ((flp b : Nat) : Int) := by
  have := u64_xor_nat b 9223372036854775808 h (by omega)
  rw [show (9223372036854775808 : Nat) = SB by decide, flip_eq h] at this
  exact this
theorem and_frac {b : Nat} (h : b < 18446744073709551616) : bits .and .u64 (b : Int) 4503599627370495 = ((b % LD : Nat) : Int) := by
  have := u64_and_nat b 4503599627370495 h (by omega)
  rw [show (4503599627370495 : Nat) = 2 ^ 52 - 1 by decide, Nat.and_two_pow_sub_one_eq_mod, ← LD_eq] at this
  exact this

/-- a float's digits, and its power counted from the least one -/
def fm (k : Nat) : Nat := if k < LD then k else k % LD + LD
def fe (k : Nat) : Nat := if k < LD then 0 else k / LD - 1
theorem fm_fe (k : Nat) : fm k * 2 ^ fe k = amt k := by
  unfold fm fe amt
  split
  · rw [Nat.pow_zero, Nat.mul_one]
  · rw [Nat.add_comm LD]
theorem fm_lt (k : Nat) : fm k < 9007199254740992 := by
  unfold fm
  have h := Nat.mod_lt k (show 0 < LD by decide)
  have e : LD = 4503599627370496 := rfl
  split <;> omega
theorem fe_lt {k : Nat} (h : k < FI) : fe k ≤ 2045 := by
  unfold fe
  have : k / LD < 2047 := (Nat.div_lt_iff_lt_mul (show 0 < LD by decide)).2 (by rw [show 2047 * LD = FI by decide]; exact h)
  split <;> omega
theorem fe_le {k : Nat} (h : k ≤ FI) : fe k ≤ 2046 := by
  unfold fe
  have h2 : FI < 2048 * LD := by decide
  have : k / LD < 2048 := (Nat.div_lt_iff_lt_mul (show 0 < LD by decide)).2 (by omega)
  split <;> omega

/-- the next float's bits -/
def nxt (b : Nat) : Nat := if b % SB = 0 then 1 else if b < SB then b + 1 else b - 1
theorem nxt_lt {b : Nat} (h : b < 18446744073709551616) (hn : b % SB ≤ FI) : nxt b < 18446744073709551616 := by
  have e : SB = 9223372036854775808 := rfl
  have e2 : FI = 9218868437227405312 := rfl
  unfold nxt; split
  · omega
  · split <;> omega
/-- the comparisons with 0 and with the greatest floats -/
theorem ord_nan {b : Nat} : (Ieee.double.order b b != some .eq) = decide (FI < b % SB) := by
  by_cases h : FI < b % SB
  · rw [order_nan_l _ h, decide_eq_true h]; rfl
  · rw [order_eq (by omega) (by omega), fcmp_eq rfl, decide_eq_false h]; rfl
theorem lt_of_cmp {a b : Int} : (some (compare a b) == some Ordering.lt) = decide (a < b) := by
  rcases Int.lt_trichotomy a b with h | h | h
  · rw [fcmp_lt h, decide_eq_true h]; rfl
  · rw [fcmp_eq h, decide_eq_false (by omega)]; rfl
  · rw [fcmp_gt h, decide_eq_false (by omega)]; rfl
theorem eq_of_cmp {a b : Int} : (some (compare a b) == some Ordering.eq) = decide (a = b) := by
  rcases Int.lt_trichotomy a b with h | h | h
  · rw [fcmp_lt h, decide_eq_false (by omega)]; rfl
  · rw [fcmp_eq h, decide_eq_true h]; rfl
  · rw [fcmp_gt h, decide_eq_false (by omega)]; rfl
theorem gt_of_cmp {a b : Int} : (some (compare a b) == some Ordering.gt) = decide (b < a) := by
  rcases Int.lt_trichotomy a b with h | h | h
  · rw [fcmp_lt h, decide_eq_false (by omega)]; rfl
  · rw [fcmp_eq h, decide_eq_false (by omega)]; rfl
  · rw [fcmp_gt h, decide_eq_true h]; rfl
theorem FIv : FI = 9218868437227405312 := rfl
theorem fkey_of {b : Nat} (h : b < 18446744073709551616) : fkey b = if SB ≤ b then (SB : Int) - b else b := by
  unfold fkey
  rw [fneg_iff h]
  by_cases hb : SB ≤ b
  · rw [decide_eq_true hb, if_pos rfl, if_pos hb]
    rw [SBv] at *; omega
  · rw [decide_eq_false hb, if_neg (by decide), if_neg hb]
    rw [SBv] at *; omega
theorem f_lt {b c : Nat} (h : b < 18446744073709551616) (hc : c < 18446744073709551616) (hn : b % SB ≤ FI) (hm : c % SB ≤ FI) : (Ieee.double.order b c == some .lt) = decide (fkey b < fkey c) := by
  rw [order_eq hn hm, lt_of_cmp]
theorem f_gt {b c : Nat} (h : b < 18446744073709551616) (hc : c < 18446744073709551616) (hn : b % SB ≤ FI) (hm : c % SB ≤ FI) : (Ieee.double.order b c == some .gt) = decide (fkey c < fkey b) := by
  rw [order_eq hn hm, gt_of_cmp]
theorem f_eq {b c : Nat} (h : b < 18446744073709551616) (hc : c < 18446744073709551616) (hn : b % SB ≤ FI) (hm : c % SB ≤ FI) : (Ieee.double.order b c == some .eq) = decide (fkey b = fkey c) := by
  rw [order_eq hn hm, eq_of_cmp]
theorem fkey_zero : fkey 0 = 0 := by decide
theorem f_below {b : Nat} (h : b < 18446744073709551616) (hn : b % SB ≤ FI) : (Ieee.double.order b 0 == some .lt) = decide (SB < b) := by
  rw [f_lt h (by omega) hn (by decide), fkey_zero, fkey_of h]
  rw [SBv]
  rw [decide_eq_decide]
  split <;> omega
theorem f_above {b : Nat} (h : b < 18446744073709551616) (hn : b % SB ≤ FI) : (Ieee.double.order b 0 == some .gt) = decide (0 < b ∧ b < SB) := by
  rw [f_gt h (by omega) hn (by decide), fkey_zero, fkey_of h]
  rw [SBv]
  rw [decide_eq_decide]
  split <;> omega
theorem f_nought {b : Nat} (h : b < 18446744073709551616) (hn : b % SB ≤ FI) : (Ieee.double.order b 0 == some .eq) = decide (b % SB = 0) := by
  rw [f_eq h (by omega) hn (by decide), fkey_zero, fkey_of h]
  rw [SBv]
  rw [decide_eq_decide]
  split <;> omega
theorem f_inf {b : Nat} (h : b < 18446744073709551616) : (Ieee.double.order b 9218868437227405311 == some .gt) = decide (b = FI) := by
  by_cases hn : b % SB ≤ FI
  · rw [f_gt h (by omega) hn (by decide), fkey_of h, fkey_of (b := 9218868437227405311) (by omega)]
    rw [SBv, FIv] at *
    rw [decide_eq_decide]
    split <;> split <;> omega
  · rw [order_nan_l _ (by omega), decide_eq_false (by rw [SBv, FIv] at *; omega)]; rfl
theorem f_minf {b : Nat} (h : b < 18446744073709551616) : (Ieee.double.order b 18442240474082181119 == some .lt) = decide (b = SB + FI) := by
  by_cases hn : b % SB ≤ FI
  · rw [f_lt h (by omega) hn (by decide), fkey_of h, fkey_of (b := 18442240474082181119) (by omega)]
    rw [SBv, FIv] at *
    rw [decide_eq_decide]
    split <;> split <;> omega
  · rw [order_nan_l _ (by omega), decide_eq_false (by rw [SBv, FIv] at *; omega)]; rfl
end Go.Proofs.Ythecapmdionnmaa
