/-
  Layer 1's texts: a number's text is read as the number.
-/
import Derived.Test.YtancpkegjgmlmaaDoorWTC
namespace Go.Proofs.YtancpkegjgmlmaaDoor
open Go.RowKit
set_option linter.unusedVariables false

theorem tvr_dgt {b X D : Nat} (hb : 2 ≤ b) (hX : X < b ^ D) : ∀ k, k ≤ D → tvr b (fun j => dgt b X D j) 0 k = X / b ^ (D - k)
  | 0, _ => by rw [Nat.sub_zero, Nat.div_eq_of_lt hX]; rfl
  | k + 1, hk => by
    rw [tvr, tvr_dgt hb hX k (by omega), Nat.zero_add]
    unfold dgt
    rw [show D - 1 - k = D - (k + 1) by omega, show D - k = D - (k + 1) + 1 by omega, Nat.pow_succ, ← Nat.div_div_eq_div_mul]
    exact Nat.div_add_mod' _ _
theorem isTx.val {b X : Nat} {t : ByteArray} (hb0 : 2 ≤ b) (hb : b ≤ 16) (h : isTx b X t) : val b t = X := by
  unfold Proofs.YtancpkegjgmlmaaDoor.val
  have e : tvr b (fun k => dval (byt t k)) 0 t.size = tvr b (fun j => dgt b X t.size j) 0 t.size := tvr_congr fun j hj => by
    show dval (byt t (0 + j)) = dgt b X t.size (0 + j)
    rw [Nat.zero_add, h.2.2.2 j hj]
    exact dval_dch (Nat.lt_of_lt_of_le (dgt_lt hb0) hb)
  rw [e, tvr_dgt hb0 h.2.1 t.size (Nat.le_refl _), Nat.sub_self, Nat.pow_zero, Nat.div_one]
theorem isTx.isT {b X : Nat} {t : ByteArray} (hb0 : 2 ≤ b) (hb : b ≤ 16) (h : isTx b X t) : isT b t := by
  refine ⟨h.1, fun hs => ?_, fun k hk => ?_⟩
  · rw [h.2.2.2 0 (by omega)]
    have h1 : b ^ (t.size - 1) ≤ X := h.2.2.1.resolve_left (by omega)
    have h2 : X / b ^ (t.size - 1) < b := by
      rw [Nat.div_lt_iff_lt_mul (Nat.pow_pos (by omega)), Nat.mul_comm, ← Nat.pow_succ, show (t.size - 1).succ = t.size by omega]; exact h.2.1
    have h3 : 0 < X / b ^ (t.size - 1) := Nat.div_pos h1 (Nat.pow_pos (by omega))
    have h4 : dgt b X t.size 0 = X / b ^ (t.size - 1) := by unfold dgt; rw [Nat.sub_zero, Nat.mod_eq_of_lt h2]
    intro e
    have := (dch_zero (Nat.lt_of_lt_of_le (dgt_lt hb0) hb)).1 e
    rw [h4] at this
    clear h1 h2 h4
    omega
  · rw [h.2.2.2 k hk, dval_dch (Nat.lt_of_lt_of_le (dgt_lt hb0) hb)]
    exact dgt_lt hb0
theorem isTx.size_le {b X n : Nat} {t : ByteArray} (hb0 : 2 ≤ b) (h : isTx b X t) (hX : X < BB ^ n) : t.size ≤ 32 * n + 1 := by
  rcases h.2.2.1 with h1 | h1
  · omega
  · have h2 : 2 ^ (t.size - 1) ≤ X := Nat.le_trans (Nat.pow_le_pow_left hb0 _) h1
    rw [BB_eq, show (4294967296 : Nat) = 2 ^ 32 by decide, ← Nat.pow_mul] at hX
    have h3 := (Nat.pow_lt_pow_iff_right (a := 2) (by decide)).1 (Nat.lt_of_le_of_lt h2 hX)
    clear h1 h2 hX
    omega
end Go.Proofs.YtancpkegjgmlmaaDoor
