/-
  mulInto by induction on the lengths, Mul.
-/
import Derived.Test.YthecapmdionnmaaW6
namespace Go.Proofs.Ythecapmdionnmaa
open Go.RowKit
set_option linter.unusedVariables false


theorem ne_addr {b1 o1 b : Nat} (h : b1 ≠ b) : ∀ o, some (Addr.mk b1 o1 none) ≠ some (Addr.mk b o none) := by
  intro o e; simp only [Option.some.injEq, Addr.mk.injEq] at e; exact h e.1

theorem mul_lt_pow {X Y n m : Nat} (hX : X < BB ^ n) (hY : Y < BB ^ m) : X * Y < BB ^ (n + m) := by
  rw [Nat.pow_add]
  by_cases h : X = 0
  · subst h; simp; exact Nat.mul_pos (BBp n) (BBp m)
  · exact Nat.mul_lt_mul_of_lt_of_le hX (Nat.le_of_lt hY) (Nat.lt_of_le_of_lt (Nat.zero_le _) hY)



theorem kara {X Y h : Nat} : X % BB ^ h * (Y % BB ^ h) + X / BB ^ h * (Y / BB ^ h) * BB ^ (2 * h) + (X % BB ^ h * (Y / BB ^ h) + X / BB ^ h * (Y % BB ^ h)) * BB ^ h = X * Y := by
  have e1 := split_at X h
  have e2 := split_at Y h
  have e3 : BB ^ (2 * h) = BB ^ h * BB ^ h := by rw [Nat.two_mul, Nat.pow_add]
  rw [e3]
  generalize X % BB ^ h = x0 at *
  generalize X / BB ^ h = x1 at *
  generalize Y % BB ^ h = y0 at *
  generalize Y / BB ^ h = y1 at *
  generalize BB ^ h = p at *
  subst e1 e2
  simp only [Nat.add_mul, Nat.mul_add]
  have a1 : x1 * p * (y1 * p) = x1 * y1 * (p * p) := by simp only [Nat.mul_comm, Nat.mul_left_comm]
  have a2 : x1 * p * y0 = x1 * y0 * p := Nat.mul_right_comm _ _ _
  have a3 : x0 * (y1 * p) = x0 * y1 * p := (Nat.mul_assoc _ _ _).symm
  rw [a1, a2, a3]
  omega
theorem kara_mid {x0 x1 y0 y1 : Nat} : (x0 + x1) * (y0 + y1) = x0 * y0 + x1 * y1 + (x0 * y1 + x1 * y0) := by
  simp only [Nat.add_mul, Nat.mul_add]; omega
theorem wrap64_small {a : Int} (h1 : 0 ≤ a) (h2 : a ≤ 9223372036854775807) : wrap64 a = a := by unfold wrap64; omega
theorem wrap_i64_small {a : Int} (h1 : 0 ≤ a) (h2 : a ≤ 9223372036854775807) : IntKind.i64.wrap a = a := by simp [IntKind.wrap, IntKind.bits, IntKind.signed]; omega

theorem mul_add_mod_of_lt' {a b k : Nat} (h : b < BB ^ k) : (a * BB ^ k + b) % BB ^ k = b := by
  rw [Nat.mul_comm, Nat.mul_add_mod, Nat.mod_eq_of_lt h]
theorem mul_add_div_of_lt' {a b k : Nat} (h : b < BB ^ k) : (a * BB ^ k + b) / BB ^ k = a := by
  rw [Nat.mul_comm, Nat.mul_add_div (BBp k), Nat.div_eq_of_lt h, Nat.add_zero]
end Go.Proofs.Ythecapmdionnmaa

namespace Go.Proofs.Ythecapmdionnmaa
open Go.RowKit
set_option linter.unusedVariables false

theorem hide' {p : Prop} (h : p) : Hid p := h


theorem Add_is (ao ao2 : Option Addr) (n cap X m cap2 Y Z : Nat) (w : World) (hc : n ≤ cap) (hm : n ≤ 70368744177663) (hS : Seg w ao X n) (hc2 : m ≤ cap2) (hm2 : m ≤ 70368744177663) (hS2 : Seg w ao2 Y m) (hz : X + Y = Z) :
    Calls Try.prog 52 #[.slice ao n cap, .slice ao2 m cap2] w fun e w' => ∃ ao', e = .returned (.slice ao' (ln Z) (ln Z)) ∧ New w w' ao' Z (ln Z) := by
  subst hz; exact Add_any ao ao2 n cap X m cap2 Y w hc hm hS hc2 hm2 hS2
end Go.Proofs.Ythecapmdionnmaa
