/-
  Layer 1's texts: a number's text is read as the number.
-/
import Derived.Test.YthodhmkplfiohaaGreatDoorWT6
import Derived.Test.YthodhmkplfiohaaGreatDoorW11
import Derived.Laws.IdiomStrings
namespace Go.Proofs.YthodhmkplfiohaaGreatDoor
open Go.RowKit
set_option linter.unusedVariables false

/-- the digit at the place j of L -/
def dgt (b X L j : Nat) : Nat := X / b ^ (L - 1 - j) % b
end Go.Proofs.YthodhmkplfiohaaGreatDoor

namespace Go.Proofs.YthodhmkplfiohaaGreatDoor
open Go.RowKit
set_option linter.unusedVariables false

theorem New.off {w w' : World} {a : Option Addr} {X n g : Nat} (h : New w w' a X n) (hg : g < w.heap.size) : 0 < n → ∀ o, a ≠ some ⟨g, o, none⟩ := fun hn o he => by
  obtain ⟨b, off, e, hb, _⟩ := h.fresh hn
  rw [e] at he
  simp at he
  try omega
end Go.Proofs.YthodhmkplfiohaaGreatDoor

namespace Go.Proofs.YthodhmkplfiohaaGreatDoor
open Go.RowKit
set_option linter.unusedVariables false

theorem dch_zero {v : Nat} (h : v < 16) : dch v = 48 ↔ v = 0 := by unfold dch; split <;> omega
/-- t is the text of X in the base b -/
def isTx (b X : Nat) (t : ByteArray) : Prop := 1 ≤ t.size ∧ X < b ^ t.size ∧ (t.size = 1 ∨ b ^ (t.size - 1) ≤ X) ∧ ∀ j, j < t.size → byt t j = dch (dgt b X t.size j)
theorem size_uniq {b X D E : Nat} (hb : 2 ≤ b) (h1 : X < b ^ D) (h2 : D = 1 ∨ b ^ (D - 1) ≤ X) (h3 : 1 ≤ D) (k1 : X < b ^ E) (k2 : E = 1 ∨ b ^ (E - 1) ≤ X) (k3 : 1 ≤ E) : D = E := by
  rcases Nat.lt_trichotomy D E with h | h | h
  · exfalso
    have hE : b ^ (E - 1) ≤ X := k2.resolve_left (by omega)
    have : b ^ D ≤ b ^ (E - 1) := Nat.pow_le_pow_right (by omega) (by omega)
    exact absurd h1 (Nat.not_lt.2 (Nat.le_trans this hE))
  · exact h
  · exfalso
    have hE : b ^ (D - 1) ≤ X := h2.resolve_left (by omega)
    have : b ^ E ≤ b ^ (D - 1) := Nat.pow_le_pow_right (by omega) (by omega)
    exact absurd k1 (Nat.not_lt.2 (Nat.le_trans this hE))
theorem ba_ext {s t : ByteArray} (h : s.size = t.size) (hb : ∀ j, j < s.size → byt s j = byt t j) : s = t := by
  obtain ⟨sd⟩ := s
  obtain ⟨td⟩ := t
  congr 1
  refine Array.ext h fun i h1 h2 => ?_
  have := hb i h1
  rw [byt_of (show i < (⟨sd⟩ : ByteArray).size from h1), byt_of (show i < (⟨td⟩ : ByteArray).size from h2)] at this
  exact UInt8.toNat_inj.1 this
theorem isTx.uniq {b X : Nat} {s t : ByteArray} (hb : 2 ≤ b) (h : isTx b X s) (k : isTx b X t) : s = t := by
  have e := size_uniq hb h.2.1 h.2.2.1 h.1 k.2.1 k.2.2.1 k.1
  exact ba_ext e fun j hj => by rw [h.2.2.2 j hj, k.2.2.2 j (by omega), e]
end Go.Proofs.YthodhmkplfiohaaGreatDoor

namespace Go.Proofs.YthodhmkplfiohaaGreatDoor
open Go.RowKit
set_option linter.unusedVariables false

theorem lead_le {b X Q c : Nat} (h : dgt b X Q c ≠ 0) : b ^ (Q - 1 - c) ≤ X := by
  rcases Nat.lt_or_ge X (b ^ (Q - 1 - c)) with h1 | h1
  · exact absurd (by unfold dgt; rw [Nat.div_eq_of_lt h1, Nat.zero_mod]) h
  · exact h1
theorem dgt_lt {b X Q j : Nat} (hb : 2 ≤ b) : dgt b X Q j < b := Nat.mod_lt _ (by omega)
end Go.Proofs.YthodhmkplfiohaaGreatDoor

namespace Go.Proofs.YthodhmkplfiohaaGreatDoor
open Go.RowKit
set_option linter.unusedVariables false

theorem Sc.drewN {w : World} {B p b n k q : Nat} {v : Value} {xs : List Value} {an : Option Addr} (h : Sc w B p b n k v xs an) : Sc (w.drewN q) B p b n k v xs an := ⟨h.row, h.pB, h.c0, h.c1, h.c2, h.c3, h.own, h.vp, h.olds, h.next, h.np, h.nv⟩
end Go.Proofs.YthodhmkplfiohaaGreatDoor

namespace Go.Proofs.YthodhmkplfiohaaGreatDoor
open Go.RowKit
set_option linter.unusedVariables false

theorem tvr_dgt {b X D : Nat} (hb : 2 ≤ b) (hX : X < b ^ D) : ∀ k, k ≤ D → tvr b (fun j => dgt b X D j) 0 k = X / b ^ (D - k)
  | 0, _ => by rw [Nat.sub_zero, Nat.div_eq_of_lt hX]; rfl
  | k + 1, hk => by
    rw [tvr, tvr_dgt hb hX k (by omega), Nat.zero_add]
    unfold dgt
    rw [show D - 1 - k = D - (k + 1) by omega, show D - k = D - (k + 1) + 1 by omega, Nat.pow_succ, ← Nat.div_div_eq_div_mul]
    exact Nat.div_add_mod' _ _
theorem isTx.val {b X : Nat} {t : ByteArray} (hb0 : 2 ≤ b) (hb : b ≤ 16) (h : isTx b X t) : val b t = X := by
  unfold Proofs.YthodhmkplfiohaaGreatDoor.val
  have e : tvr b (fun k => dval (byt t k)) 0 t.size = tvr b (fun j => dgt b X t.size j) 0 t.size := tvr_congr fun j hj => by
    show dval (byt t (0 + j)) = dgt b X t.size (0 + j)
    rw [Nat.zero_add, h.2.2.2 j hj]
    exact dval_dch (Nat.lt_of_lt_of_le (dgt_lt hb0) hb)
  rw [e, tvr_dgt hb0 h.2.1 t.size (Nat.le_refl _), Nat.sub_self, Nat.pow_zero, Nat.div_one]
theorem isTx.isT {b X : Nat} {t : ByteArray} (hb0 : 2 ≤ b) (hb : b ≤ 16) (h : isTx b X t) : isT b t := by
  refine ⟨h.1, fun hs => ?_, fun k hk => ?_⟩
  · rw [h.2.2.2 0 (by omega)]
    have h1 : b ^ (t.size - 1) ≤ X := h.2.2.1.resolve_left (by omega)
    have h2 : X / b ^ (t.size - 1) < b := by
      rw [Nat.div_lt_iff_lt_mul (Nat.pow_pos (by omega)), Nat.mul_comm, ← Nat.pow_succ, show (t.size - 1).succ = t.size by omega]; exact h.2.1
    have h3 : 0 < X / b ^ (t.size - 1) := Nat.div_pos h1 (Nat.pow_pos (by omega))
    have h4 : dgt b X t.size 0 = X / b ^ (t.size - 1) := by unfold dgt; rw [Nat.sub_zero, Nat.mod_eq_of_lt h2]
    intro e
    have := (dch_zero (Nat.lt_of_lt_of_le (dgt_lt hb0) hb)).1 e
    rw [h4] at this
    clear h1 h2 h4
    omega
  · rw [h.2.2.2 k hk, dval_dch (Nat.lt_of_lt_of_le (dgt_lt hb0) hb)]
    exact dgt_lt hb0
end Go.Proofs.YthodhmkplfiohaaGreatDoor
