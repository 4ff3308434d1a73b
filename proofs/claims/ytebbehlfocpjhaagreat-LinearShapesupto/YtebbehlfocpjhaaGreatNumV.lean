import Derived.Test.YtebbehlfocpjhaaGreatNumQ
import Derived.Test.YtebbehlfocpjhaaGreatOpenL
import Derived.Test.YtebbehlfocpjhaaGreatWQ9
set_option linter.unusedSimpArgs false
namespace Go.Proofs.YtebbehlfocpjhaaGreat
set_option linter.unusedVariables false
def lnum : List (Int × Nat) → Int
  | [] => 0
  | x :: l => x.1 * (lden l : Nat) + lnum l * (x.2 : Nat)
where
  lden : List (Int × Nat) → Nat
  | [] => 1
  | x :: l => x.2 * lden l
abbrev lden := lnum.lden
theorem lden_append : ∀ (l m : List (Int × Nat)), lden (l ++ m) = lden l * lden m
  | [], m => by simp [lden, lnum.lden]
  | x :: l, m => by
    have := lden_append l m
    show x.2 * lden (l ++ m) = x.2 * lden l * lden m
    rw [this, Nat.mul_assoc]
theorem lnum_append : ∀ (l m : List (Int × Nat)), lnum (l ++ m) = lnum l * (lden m : Nat) + lnum m * (lden l : Nat)
  | [], m => by
    show lnum m = 0 * _ + lnum m * ((1 : Nat) : Int)
    simp
  | x :: l, m => by
    have h1 := lnum_append l m
    have h2 := lden_append l m
    show x.1 * (lden (l ++ m) : Nat) + lnum (l ++ m) * (x.2 : Nat) = (x.1 * (lden l : Nat) + lnum l * (x.2 : Nat)) * (lden m : Nat) + lnum m * ((x.2 * lden l : Nat) : Int)
    rw [h1, h2, Int.natCast_mul, Int.natCast_mul, Int.add_mul, Int.add_mul]
    have e1 : x.1 * ((lden l : Int) * (lden m : Int)) = x.1 * (lden l : Int) * (lden m : Int) := (Int.mul_assoc _ _ _).symm
    have e2 : lnum l * (lden m : Int) * (x.2 : Int) = lnum l * (x.2 : Int) * (lden m : Int) := by rw [Int.mul_assoc, Int.mul_comm (lden m : Int), ← Int.mul_assoc]
    have e3 : lnum m * (lden l : Int) * (x.2 : Int) = lnum m * ((x.2 : Int) * (lden l : Int)) := by rw [Int.mul_assoc, Int.mul_comm (lden l : Int)]
    rw [e1, e2, e3, Int.add_assoc]
def lq (q : Nat → RatV) (n : Nat) : List (Int × Nat) := (List.range n).map fun i => (rn (q i).s (q i).X (q i).Y, rd (q i).Y)
theorem lq_succ (q : Nat → RatV) (n : Nat) : lq q (n + 1) = lq q n ++ [(rn (q n).s (q n).X (q n).Y, rd (q n).Y)] := by
  unfold lq
  rw [List.range_succ, List.map_append]
  rfl
end Go.Proofs.YtebbehlfocpjhaaGreat
