/-
  Layer 2: Floor by a power of two; a shift up and down again.
-/
import Derived.Test.YtjdilgkjgednjaaWS3
import Derived.Test.YtjdilgkjgednjaaWI8
namespace Go.Proofs.Ytjdilgkjgednjaa
open Go.RowKit
set_option linter.unusedVariables false

/-- Floor by a power of two -/
theorem wfloor_pow (s : Bool) (ao : Option Addr) (n cap X k : Nat) (t : Bool) (P : Nat) (Z : Int) (ht : t = false) (hP : 2 ^ k = P) (hc : n ≤ cap) (hm : n ≤ 70368744177650) (hm2 : ln P ≤ 70368744177650) (hZ : sg s (dnA s X k) = Z) :
    ∃ G : Int, ∀ w' p, Seg w' ao X n → Seg w' p P (ln P) → Calls Try.prog 17 #[.agg #[.bool s, .slice ao n cap], .agg #[.bool t, .slice p (ln P) (ln P)]] w' fun e w'' => ∃ aq ar, e = .returned (.tuple #[.agg #[.bool (ng Z), .slice aq (ln (am Z)) (ln (am Z))], .agg #[.bool (ng G), .slice ar (ln (am G)) (ln (am G))], .int .i64 0]) ∧ New w' w'' aq (am Z) (ln (am Z)) ∧ New w' w'' ar (am G) (ln (am G)) := by
  subst ht
  have hp : 0 < P := by rw [← hP]; exact Nat.two_pow_pos k
  have hX : X = X / P * P + X % P := by have := Nat.div_add_mod X P; rw [Nat.mul_comm] at this; exact this.symm
  by_cases h : s = true ∧ X % 2 ^ k ≠ 0
  · refine ⟨_, fun w' p k1 k2 => wFloor_low s ao n cap X false p (ln P) (ln P) P (X / P) (X % P) _ _ Z _ w' hc (by omega) k1 (Nat.le_refl _) (by omega) k2 hX (Nat.mod_lt _ hp) rfl rfl (by rw [h.1, ← hP]; exact dn_low h.2) ?_ rfl⟩
    rw [← hZ]
    unfold dnA
    rw [if_pos h, h.1, hP]
    show sg true (X / P) - 1 = sg true (X / P + 1)
    simp only [sg, if_true]
    omega
  · obtain ⟨G, hG⟩ : ∃ G, sg s (X % P) = G := ⟨_, rfl⟩
    refine ⟨G, fun w' p k1 k2 => wFloor_high s ao n cap X false p (ln P) (ln P) P (X / P) (X % P) Z G w' hc (by omega) k1 (Nat.le_refl _) (by omega) k2 hX (Nat.mod_lt _ hp) ?_ hG (by rw [← hG, ← hP]; exact dn_high h)⟩
    rw [← hZ]
    unfold dnA
    rw [if_neg h, hP]
    cases s <;> rfl
theorem dnA_zero (s : Bool) (X : Nat) : dnA s X 0 = X := by
  unfold dnA
  rw [if_neg (by rw [Nat.pow_zero, Nat.mod_one]; simp), Nat.pow_zero, Nat.div_one, Nat.add_zero]
theorem dnA_up (s : Bool) (X k : Nat) : dnA s (X * 2 ^ k) k = X := by
  unfold dnA
  rw [if_neg (by rw [Nat.mul_mod_left]; simp), Nat.mul_div_cancel _ (Nat.two_pow_pos k), Nat.add_zero]
theorem sg_back (s : Bool) (X k : Nat) : sg (ng (sg s (X * 2 ^ k))) X = sg s X := by
  by_cases hX : X = 0
  · subst hX; cases s <;> cases ng (sg _ (0 * 2 ^ k)) <;> rfl
  · have h : 0 < ln (X * 2 ^ k) := Nat.pos_of_ne_zero fun e => by
      have := ln_eq_zero.1 e
      rcases Nat.mul_eq_zero.1 this with h | h
      · exact hX h
      · have := Nat.two_pow_pos k; omega
    rw [ng_sg, decide_eq_true h, Bool.and_true]
theorem sg_mulP (s : Bool) (X P : Nat) : sg s X * (P : Int) = sg s (X * P) := by
  cases s
  · simp only [sg, Bool.false_eq_true, if_false]; rw [Int.natCast_mul]
  · simp only [sg, if_true]; rw [Int.natCast_mul, Int.neg_mul]
end Go.Proofs.Ytjdilgkjgednjaa
