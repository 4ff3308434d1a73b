/-
  What the reference's second loop reckons (the digits behind a point).
-/
import Derived.Test.YticpdbnlbckbiaaGreatDoorWPW
namespace Go.Proofs.YticpdbnlbckbiaaGreatDoor
open Go.RowKit
set_option linter.unusedVariables false
set_option linter.unusedSimpArgs false

theorem pt_ln {X n j V : Nat} (h1 : X < 10 ^ n) (h2 : V < 10 ^ j) (hn : n ≤ 140737488351232) (hj : j ≤ 140737488351232) : ln (X * 10 ^ j + V) ≤ 35184372088000 := by
  have h3 : X * 10 ^ j + V < 10 ^ (n + j) := by
    rw [Nat.pow_add]
    have : (X + 1) * 10 ^ j ≤ 10 ^ n * 10 ^ j := Nat.mul_le_mul_right _ h1
    rw [Nat.add_mul] at this
    omega
  have h4 : ln (X * 10 ^ j + V) ≤ (n + j) / 8 + 1 := ln_le_of_lt (Nat.lt_trans h3 (lt8 (by omega)))
  omega
theorem v_lt {v : ByteArray} {j : Nat} (hj : j ≤ v.size) (h : ∀ m, m < j → dval (byt v m) < 10) : val 10 (v.extract 0 j) < 10 ^ j := by
  have e : (v.extract 0 j).size = j := by simp only [ByteArray.size_extract]; omega
  have := val_lt (b := 10) (s := v.extract 0 j) (fun k hk => by rw [byt_extract hj (by omega), Nat.zero_add]; exact h k (by omega))
  rw [e] at this
  exact this
theorem val_none (v : ByteArray) : val 10 (v.extract 0 0) = 0 := by
  have e : (v.extract 0 0).size = 0 := by simp only [ByteArray.size_extract]; omega
  unfold val
  rw [e]
  rfl
theorem dval_dig {c : Nat} (h : 48 ≤ c ∧ c ≤ 57) : dval c = c - 48 := by unfold dval; rw [if_pos h]
theorem u8_sub {c : Nat} (h : 48 ≤ c ∧ c ≤ 57) : IntKind.u8.wrap ((c : Int) - 48) = ((c - 48 : Nat) : Int) := by
  unfold IntKind.wrap
  simp [IntKind.bits, IntKind.signed]
  omega
theorem pt_step {v : ByteArray} {X A j d : Nat} (hA : A = X * 10 ^ j + val 10 (v.extract 0 j)) (hd : dval (byt v j) = d) (hj : j < v.size) : A * 10 + d = X * 10 ^ (j + 1) + val 10 (v.extract 0 (j + 1)) := by
  rw [val_step hj, hd, hA, Nat.add_mul, Nat.pow_succ, ← Nat.mul_assoc]
  omega
theorem ext_all (v : ByteArray) : v.extract 0 v.size = v := by simp
end Go.Proofs.YticpdbnlbckbiaaGreatDoor
