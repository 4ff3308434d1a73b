/-
  A list of fractions in memory, as a list of numbers over numbers; how long its sum can be.
-/
import Derived.Test.YtildhkefkeeflaaNumQ
import Derived.Test.YtildhkefkeeflaaWQ8
import Derived.Test.YtildhkefkeeflaaOpenL
namespace Go.Proofs.Ytildhkefkeeflaa
set_option linter.unusedVariables false

/-- numbers, each over a number above 0: the sum's number and what it is over -/
def lnum : List (Int × Nat) → Int
  | [] => 0
  | x :: l => x.1 * (lden l : Nat) + lnum l * (x.2 : Nat)
where
  lden : List (Int × Nat) → Nat
  | [] => 1
  | x :: l => x.2 * lden l
abbrev lden := lnum.lden
theorem lden_append : ∀ (l m : List (Int × Nat)), lden (l ++ m) = lden l * lden m
  | [], m => by simp [lden, lnum.lden]
  | x :: l, m => by
    have := lden_append l m
    show x.2 * lden (l ++ m) = x.2 * lden l * lden m
    rw [this, Nat.mul_assoc]
theorem lnum_append : ∀ (l m : List (Int × Nat)), lnum (l ++ m) = lnum l * (lden m : Nat) + lnum m * (lden l : Nat)
  | [], m => by
    show lnum m = 0 * _ + lnum m * ((1 : Nat) : Int)
    simp
  | x :: l, m => by
    have h1 := lnum_append l m
    have h2 := lden_append l m
    show x.1 * (lden (l ++ m) : Nat) + lnum (l ++ m) * (x.2 : Nat) = (x.1 * (lden l : Nat) + lnum l * (x.2 : Nat)) * (lden m : Nat) + lnum m * ((x.2 * lden l : Nat) : Int)
    rw [h1, h2, Int.natCast_mul, Int.natCast_mul, Int.add_mul, Int.add_mul]
    have e1 : x.1 * ((lden l : Int) * (lden m : Int)) = x.1 * (lden l : Int) * (lden m : Int) := (Int.mul_assoc _ _ _).symm
    have e2 : lnum l * (lden m : Int) * (x.2 : Int) = lnum l * (x.2 : Int) * (lden m : Int) := by rw [Int.mul_assoc, Int.mul_comm (lden m : Int), ← Int.mul_assoc]
    have e3 : lnum m * (lden l : Int) * (x.2 : Int) = lnum m * ((x.2 : Int) * (lden l : Int)) := by rw [Int.mul_assoc, Int.mul_comm (lden l : Int)]
    rw [e1, e2, e3, Int.add_assoc]
end Go.Proofs.Ytildhkefkeeflaa

namespace Go.Proofs.Ytildhkefkeeflaa
open Go.RowKit
set_option linter.unusedVariables false

theorem lt_prod {a b : Int} {i j : Nat} (ha : am a < BB ^ i) (hb : am b < BB ^ j) : am (a * b) < BB ^ (i + j) := by
  rw [am_mul, Nat.pow_add]
  exact Nat.mul_lt_mul'' ha hb
theorem lt_sum {a b : Int} {i j k : Nat} (ha : am a < BB ^ i) (hb : am b < BB ^ j) (hi : i + 1 ≤ k) (hj : j + 1 ≤ k) : am (a + b) < BB ^ k :=
  Nat.lt_of_lt_of_le (Nat.lt_of_le_of_lt (am_add a b) (ln_lt (am a + am b))) (pow_mono (ln_sum ha hb hi hj))
theorem ln1 {A D Z : Int} {V i j k : Nat} (h : Low A D Z V) (hA : am A < BB ^ i) (hD : am D < BB ^ j) (hi : i ≤ k) (hj : j ≤ k) : ln (am Z) ≤ k ∧ ln V ≤ k :=
  ⟨Nat.le_trans (ln_le_of_lt (Nat.lt_of_le_of_lt h.le.1 hA)) hi, Nat.le_trans (ln_le_of_lt (Nat.lt_of_le_of_lt h.le.2 hD)) hj⟩


end Go.Proofs.Ytildhkefkeeflaa

namespace Go.Proofs.Ytildhkefkeeflaa
set_option linter.unusedVariables false

/-- what the first n of them are -/
def lq (q : Nat → RatV) (n : Nat) : List (Int × Nat) := (List.range n).map fun i => (rn (q i).s (q i).X (q i).Y, rd (q i).Y)
theorem lq_succ (q : Nat → RatV) (n : Nat) : lq q (n + 1) = lq q n ++ [(rn (q n).s (q n).X (q n).Y, rd (q n).Y)] := by
  unfold lq
  rw [List.range_succ, List.map_append]
  rfl
end Go.Proofs.Ytildhkefkeeflaa
