/-
  Floats by their bits: amounts, order. Plain mathematics over Ieee.
-/
import Derived.Laws.FloatArith
namespace Go.Proofs.Ythecapmdionnmaa
set_option linter.unusedVariables false

/-- the bits of the least normal float -/
def LD : Nat := 4503599627370496
/-- the bits of infinity -/
def FI : Nat := 9218868437227405312
/-- the sign's bit -/
def SB : Nat := 9223372036854775808
theorem LD_eq : LD = 2 ^ 52 := by decide
theorem SB_eq : SB = 2 ^ 63 := by decide

/-- the amount of the float with these bits (no sign), counted by 2 to the -1074 -/
def amt (k : Nat) : Nat := if k < LD then k else (LD + k % LD) * 2 ^ (k / LD - 1)
theorem amt_zero : amt 0 = 0 := by decide
theorem amt_small {k : Nat} (h : k < LD) : amt k = k := if_pos h
theorem amt_big {k : Nat} (h : LD ≤ k) : amt k = (LD + k % LD) * 2 ^ (k / LD - 1) := if_neg (by omega)

theorem amt_lt {k l : Nat} (h : k < l) : amt k < amt l := by
  have hL : 0 < LD := by decide
  by_cases h1 : k < LD
  · rw [amt_small h1]
    by_cases h2 : l < LD
    · rw [amt_small h2]; exact h
    · rw [amt_big (by omega)]
      have : 0 < 2 ^ (l / LD - 1) := Nat.two_pow_pos _
      have h3 : LD * 1 ≤ (LD + l % LD) * 2 ^ (l / LD - 1) := Nat.mul_le_mul (by omega) this
      omega
  · rw [amt_big (by omega), amt_big (by omega)]
    have e1 := Nat.div_add_mod k LD
    have e2 := Nat.div_add_mod l LD
    have m1 := Nat.mod_lt k hL
    have m2 := Nat.mod_lt l hL
    have d1 : k / LD ≤ l / LD := Nat.div_le_div_right (by omega)
    have d0 : 1 ≤ k / LD := (Nat.le_div_iff_mul_le hL).2 (by omega)
    by_cases he : k / LD = l / LD
    · rw [he] at e1 ⊢
      exact Nat.mul_lt_mul_of_pos_right (by omega) (Nat.two_pow_pos _)
    · have h3 : (LD + k % LD) * 2 ^ (k / LD - 1) < (LD + LD) * 2 ^ (k / LD - 1) := Nat.mul_lt_mul_of_pos_right (by omega) (Nat.two_pow_pos _)
      have h4 : (LD + LD) * 2 ^ (k / LD - 1) = LD * 2 ^ (k / LD) := by
        rw [← Nat.two_mul, Nat.mul_comm 2 LD, Nat.mul_assoc, ← Nat.pow_succ', Nat.succ_eq_add_one, Nat.sub_add_cancel d0]
      have h5 : LD * 2 ^ (k / LD) ≤ (LD + l % LD) * 2 ^ (l / LD - 1) := Nat.mul_le_mul (by omega) (Nat.pow_le_pow_right (by omega) (by omega))
      omega
theorem amt_le {k l : Nat} (h : k ≤ l) : amt k ≤ amt l := by
  rcases Nat.lt_or_eq_of_le h with h | h
  · exact Nat.le_of_lt (amt_lt h)
  · rw [h]; exact Nat.le_refl _
theorem amt_lt_iff {k l : Nat} : amt k < amt l ↔ k < l :=
  ⟨fun h => Nat.lt_of_not_le fun hl => Nat.lt_irrefl _ (Nat.lt_of_lt_of_le h (amt_le hl)), amt_lt⟩
theorem amt_inj {k l : Nat} (h : amt k = amt l) : k = l := by
  rcases Nat.lt_trichotomy k l with h1 | h1 | h1
  · have := amt_lt h1; omega
  · exact h1
  · have := amt_lt h1; omega

/-- is the sign's bit there? -/
def fneg (x : Nat) : Bool := x / SB % 2 == 1
/-- a float's place in their row -/
def fkey (x : Nat) : Int := if fneg x then -((x % SB : Nat) : Int) else ((x % SB : Nat) : Int)

theorem format64 : FloatKind.f64.format = Ieee.double := rfl
theorem d_sw : Ieee.double.signWeight = SB := by decide
theorem d_bin : Ieee.double.binade = LD := by decide
theorem d_inf : Ieee.double.infRung = FI := by decide
theorem d_least : Ieee.double.leastPlace = -1074 := by decide

theorem read_num {x : Nat} (h : x % SB < FI) : ∃ m p : Nat, Ieee.double.read x = .number (fneg x) m (-1074 + p) ∧ m * 2 ^ p = amt (x % SB) := by
  unfold Ieee.Format.read
  rw [d_sw, d_bin, d_inf, d_least]
  by_cases h1 : x % SB < LD
  · refine ⟨x % SB, 0, ?_, ?_⟩
    · simp only [h1, if_true]; rfl
    · rw [amt_small h1, Nat.pow_zero, Nat.mul_one]
  · refine ⟨LD + x % SB % LD, x % SB / LD - 1, ?_, ?_⟩
    · simp only [h1, h, if_true, if_false]; rfl
    · rw [amt_big (by omega)]
theorem read_inf {x : Nat} (h : x % SB = FI) : Ieee.double.read x = .infinity (fneg x) := by
  unfold Ieee.Format.read
  rw [d_sw, d_bin, d_inf, d_least]
  have h1 : ¬ FI < LD := by decide
  have h2 : ¬ FI < FI := by decide
  simp only [h, h1, h2, if_true, if_false]; rfl
theorem read_nan {x : Nat} (h : FI < x % SB) : ∃ s t, Ieee.double.read x = .nan s t := by
  unfold Ieee.Format.read
  rw [d_sw, d_bin, d_inf, d_least]
  have h1 : ¬ x % SB < LD := by have : LD < FI := by decide
                                omega
  have h2 : ¬ x % SB < FI := by omega
  have h3 : ¬ x % SB = FI := by omega
  refine ⟨x / SB % 2 == 1, x % SB - FI, ?_⟩
  simp only [h1, h2, h3, if_false]

theorem order_nan_l {x : Nat} (y : Nat) (h : FI < x % SB) : Ieee.double.order x y = none := by
  obtain ⟨s, t, e⟩ := read_nan h
  unfold Ieee.Format.order
  rw [e]; rfl
theorem order_nan_r (x : Nat) {y : Nat} (h : FI < y % SB) : Ieee.double.order x y = none := by
  obtain ⟨s, t, e⟩ := read_nan h
  unfold Ieee.Format.order
  rw [e]; cases Ieee.double.read x <;> rfl

theorem fcmp_lt {a b : Int} (h : a < b) : compare a b = .lt := by
  show compareOfLessAndEq a b = _
  simp [compareOfLessAndEq, h]
theorem fcmp_eq {a b : Int} (h : a = b) : compare a b = .eq := by
  show compareOfLessAndEq a b = _
  simp [compareOfLessAndEq, h]
theorem fcmp_gt {a b : Int} (h : b < a) : compare a b = .gt := by
  show compareOfLessAndEq a b = _
  have h1 : ¬ a < b := by omega
  have h2 : ¬ a = b := by omega
  simp [compareOfLessAndEq, h1, h2]
theorem fcmp_same {a b c d : Int} (h1 : a < b ↔ c < d) (h2 : b < a ↔ d < c) : compare a b = compare c d := by
  rcases Int.lt_trichotomy a b with h | h | h
  · rw [fcmp_lt h, fcmp_lt (h1.1 h)]
  · have : c = d := by omega
    rw [fcmp_eq h, fcmp_eq this]
  · rw [fcmp_gt h, fcmp_gt (h2.1 h)]
theorem fcmp_mul {a b c : Int} (h : 0 < c) : compare a b = compare (a * c) (b * c) :=
  fcmp_same ⟨fun g => Int.mul_lt_mul_of_pos_right g h, fun g => Int.lt_of_mul_lt_mul_right g (Int.le_of_lt h)⟩ ⟨fun g => Int.mul_lt_mul_of_pos_right g h, fun g => Int.lt_of_mul_lt_mul_right g (Int.le_of_lt h)⟩

/-- the sign and an amount -/
def sgd (s : Bool) (n : Nat) : Int := if s then -(n : Int) else (n : Int)
theorem sgd_lt (s t : Bool) (k l : Nat) : sgd s (amt k) < sgd t (amt l) ↔ sgd s k < sgd t l := by
  have h1 := @amt_lt_iff k l
  have h2 := @amt_lt_iff l k
  have h3 := @amt_lt_iff 0 l
  have h4 := @amt_lt_iff 0 k
  rw [amt_zero] at h3 h4
  cases s <;> cases t <;> simp only [sgd] <;> simp <;> omega
theorem sgd_cmp (s t : Bool) (k l : Nat) : compare (sgd s (amt k)) (sgd t (amt l)) = compare (sgd s k) (sgd t l) := fcmp_same (sgd_lt s t k l) (sgd_lt t s l k)
theorem signed_mul (s : Bool) (m a b : Nat) : Ieee.signed s m a * ((2 ^ b : Nat) : Int) = sgd s (m * 2 ^ (a + b)) := by
  unfold Ieee.signed sgd
  rw [Nat.shiftLeft_eq, Nat.pow_add, ← Nat.mul_assoc]
  cases s <;> simp [Int.neg_mul]

theorem order_eq {x y : Nat} (hx : x % SB ≤ FI) (hy : y % SB ≤ FI) : Ieee.double.order x y = some (compare (fkey x) (fkey y)) := by
  have hk : ∀ z, fkey z = sgd (fneg z) (z % SB) := fun z => rfl
  have hFI : 0 < FI := by decide
  rw [hk, hk]
  unfold Ieee.Format.order
  rcases Nat.lt_or_eq_of_le hx with h1 | h1 <;> rcases Nat.lt_or_eq_of_le hy with h2 | h2
  · obtain ⟨m, p, e1, f1⟩ := read_num h1
    obtain ⟨n, q, e2, f2⟩ := read_num h2
    rw [e1, e2, ← sgd_cmp, ← f1, ← f2]
    show some (compare (Ieee.signed _ m _) (Ieee.signed _ n _)) = _
    have hp : (-1074 + (p : Int) - min (-1074 + (p : Int)) (-1074 + q)).toNat + min p q = p := by omega
    have hq : (-1074 + (q : Int) - min (-1074 + (p : Int)) (-1074 + q)).toNat + min p q = q := by omega
    rw [fcmp_mul (c := ((2 ^ (min p q) : Nat) : Int)) (by have := Nat.two_pow_pos (min p q); omega), signed_mul, signed_mul, hp, hq]
  · obtain ⟨m, p, e1, f1⟩ := read_num h1
    rw [e1, read_inf h2]
    show some (if _ then Ordering.gt else Ordering.lt) = _
    cases hs : fneg y <;> simp only [sgd] <;> simp
    · rw [fcmp_lt]; split <;> omega
    · rw [fcmp_gt]; split <;> omega
  · obtain ⟨n, q, e2, f2⟩ := read_num h2
    rw [e2, read_inf h1]
    show some (if _ then Ordering.lt else Ordering.gt) = _
    cases hs : fneg x <;> simp only [sgd] <;> simp
    · rw [fcmp_gt]; split <;> omega
    · rw [fcmp_lt]; split <;> omega
  · rw [read_inf h1, read_inf h2]
    show some (compare _ _) = _
    rw [h1, h2]
    cases fneg x <;> cases fneg y <;> decide

end Go.Proofs.Ythecapmdionnmaa
