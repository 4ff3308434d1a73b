/-
  The reference of layer 3: Sub, Cmp, Mul.
-/
import Derived.Test.YtppjfghaboeceaaGreatDoorWQ8
namespace Go.Proofs.YtppjfghaboeceaaGreatDoor
open Go.RowKit
set_option linter.unusedVariables false

theorem lt_prod {a b : Int} {i j : Nat} (ha : am a < BB ^ i) (hb : am b < BB ^ j) : am (a * b) < BB ^ (i + j) := by
  rw [am_mul, Nat.pow_add]
  exact Nat.mul_lt_mul'' ha hb
theorem ln1 {A D Z : Int} {V i j k : Nat} (h : Low A D Z V) (hA : am A < BB ^ i) (hD : am D < BB ^ j) (hi : i ≤ k) (hj : j ≤ k) : ln (am Z) ≤ k ∧ ln V ≤ k :=
  ⟨Nat.le_trans (ln_le_of_lt (Nat.lt_of_le_of_lt h.le.1 hA)) hi, Nat.le_trans (ln_le_of_lt (Nat.lt_of_le_of_lt h.le.2 hD)) hj⟩


end Go.Proofs.YtppjfghaboeceaaGreatDoor
