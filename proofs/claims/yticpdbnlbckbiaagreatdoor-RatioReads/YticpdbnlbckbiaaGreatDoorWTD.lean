/-
  Layer 1's texts: a number's text is read as the number.
-/
import Derived.Test.YticpdbnlbckbiaaGreatDoorWT6
import Derived.Test.YticpdbnlbckbiaaGreatDoorW11
import Derived.Laws.IdiomStrings
namespace Go.Proofs.YticpdbnlbckbiaaGreatDoor
open Go.RowKit
set_option linter.unusedVariables false

/-- the digit at the place j of L -/
def dgt (b X L j : Nat) : Nat := X / b ^ (L - 1 - j) % b
end Go.Proofs.YticpdbnlbckbiaaGreatDoor

namespace Go.Proofs.YticpdbnlbckbiaaGreatDoor
open Go.RowKit
set_option linter.unusedVariables false

theorem Seg.wr0 {w w' : World} {a : Option Addr} {X n b lo hi : Nat} (h : Seg w a X n) (k : Wr b lo hi w w') (hne : 0 < n → ∀ o, a ≠ some ⟨b, o, none⟩) : Seg w' a X n := by
  by_cases hn : 0 < n
  · exact h.wr k (hne hn)
  · obtain rfl : n = 0 := by omega
    exact ⟨h.1, fun h => absurd h (by omega)⟩
theorem New.off {w w' : World} {a : Option Addr} {X n g : Nat} (h : New w w' a X n) (hg : g < w.heap.size) : 0 < n → ∀ o, a ≠ some ⟨g, o, none⟩ := fun hn o he => by
  obtain ⟨b, off, e, hb, _⟩ := h.fresh hn
  rw [e] at he
  simp at he
  try omega
theorem dgt_high {b X Q j : Nat} (hj : j < Q) : dgt b (X / b ^ Q) Q j = dgt b X (Q + Q) j := by
  unfold dgt
  rw [Nat.div_div_eq_div_mul, ← Nat.pow_add, show Q + (Q - 1 - j) = Q + Q - 1 - j by omega]
theorem dgt_low {b X Q j : Nat} (hj : j < Q) : dgt b (X % b ^ Q) Q j = dgt b X (Q + Q) (Q + j) := by
  unfold dgt
  rw [show Q + Q - 1 - (Q + j) = Q - 1 - j by omega]
  have e : b ^ Q = b ^ (Q - 1 - j) * b ^ (j + 1) := by rw [← Nat.pow_add, show Q - 1 - j + (j + 1) = Q by omega]
  rw [e, Nat.mod_mul_right_div_self, Nat.mod_mod_of_dvd _ ⟨b ^ j, by rw [Nat.pow_succ, Nat.mul_comm]⟩]
theorem halves {n m L Q : Nat} (hL : n * 2 ^ (m + 1) = L) (hQ : n * 2 ^ m = Q) : L = Q + Q := by rw [← hL, ← hQ, Nat.pow_succ, ← Nat.mul_assoc, Nat.mul_two]
theorem half_le {n m k Q N : Nat} (hQ : n * 2 ^ m = Q) (hmk : m ≤ k) (h : n * 2 ^ k ≤ N) : Q ≤ N := by
  rw [← hQ]
  exact Nat.le_trans (Nat.mul_le_mul_left n (Nat.pow_le_pow_right (by decide) hmk)) h
theorem half_lt {b X L Q : Nat} (hb : 0 < b) (hLQ : L = Q + Q) (hX : X < b ^ L) : X / b ^ Q < b ^ Q ∧ X % b ^ Q < b ^ Q := by
  refine ⟨?_, Nat.mod_lt _ (Nat.pow_pos hb)⟩
  rw [Nat.div_lt_iff_lt_mul (Nat.pow_pos hb), ← Nat.pow_add, ← hLQ]
  exact hX
theorem ln_dig {b X L : Nat} (hb : b ≤ 16) (hX : X < b ^ L) : ln X ≤ L := ln_le_of_lt (Nat.lt_of_lt_of_le hX (Nat.pow_le_pow_left (show b ≤ BB by rw [BB_eq]; omega) L))
end Go.Proofs.YticpdbnlbckbiaaGreatDoor

namespace Go.Proofs.YticpdbnlbckbiaaGreatDoor
open Go.RowKit
set_option linter.unusedVariables false

theorem dch_zero {v : Nat} (h : v < 16) : dch v = 48 ↔ v = 0 := by unfold dch; split <;> omega
/-- t is the text of X in the base b -/
def isTx (b X : Nat) (t : ByteArray) : Prop := 1 ≤ t.size ∧ X < b ^ t.size ∧ (t.size = 1 ∨ b ^ (t.size - 1) ≤ X) ∧ ∀ j, j < t.size → byt t j = dch (dgt b X t.size j)
theorem size_uniq {b X D E : Nat} (hb : 2 ≤ b) (h1 : X < b ^ D) (h2 : D = 1 ∨ b ^ (D - 1) ≤ X) (h3 : 1 ≤ D) (k1 : X < b ^ E) (k2 : E = 1 ∨ b ^ (E - 1) ≤ X) (k3 : 1 ≤ E) : D = E := by
  rcases Nat.lt_trichotomy D E with h | h | h
  · exfalso
    have hE : b ^ (E - 1) ≤ X := k2.resolve_left (by omega)
    have : b ^ D ≤ b ^ (E - 1) := Nat.pow_le_pow_right (by omega) (by omega)
    exact absurd h1 (Nat.not_lt.2 (Nat.le_trans this hE))
  · exact h
  · exfalso
    have hE : b ^ (D - 1) ≤ X := h2.resolve_left (by omega)
    have : b ^ E ≤ b ^ (D - 1) := Nat.pow_le_pow_right (by omega) (by omega)
    exact absurd k1 (Nat.not_lt.2 (Nat.le_trans this hE))
theorem ba_ext {s t : ByteArray} (h : s.size = t.size) (hb : ∀ j, j < s.size → byt s j = byt t j) : s = t := by
  obtain ⟨sd⟩ := s
  obtain ⟨td⟩ := t
  congr 1
  refine Array.ext h fun i h1 h2 => ?_
  have := hb i h1
  rw [byt_of (show i < (⟨sd⟩ : ByteArray).size from h1), byt_of (show i < (⟨td⟩ : ByteArray).size from h2)] at this
  exact UInt8.toNat_inj.1 this
theorem isTx.uniq {b X : Nat} {s t : ByteArray} (hb : 2 ≤ b) (h : isTx b X s) (k : isTx b X t) : s = t := by
  have e := size_uniq hb h.2.1 h.2.2.1 h.1 k.2.1 k.2.2.1 k.1
  exact ba_ext e fun j hj => by rw [h.2.2.2 j hj, k.2.2.2 j (by omega), e]
end Go.Proofs.YticpdbnlbckbiaaGreatDoor

namespace Go.Proofs.YticpdbnlbckbiaaGreatDoor
open Go.RowKit
set_option linter.unusedVariables false

theorem lead_lt {b X Q : Nat} (hb : 2 ≤ b) (hX : X < b ^ Q) : ∀ c, c < Q → (∀ j, j < c → dgt b X Q j = 0) → X < b ^ (Q - c)
  | 0, _, _ => hX
  | c + 1, hc, h => by
    have ih := lead_lt hb hX c (by omega) (fun j hj => h j (by omega))
    have hz := h c (by omega)
    unfold dgt at hz
    have e : Q - c = (Q - 1 - c) + 1 := by omega
    rw [e, Nat.pow_succ] at ih
    have h1 : X / b ^ (Q - 1 - c) < b := by rw [Nat.div_lt_iff_lt_mul (Nat.pow_pos (by omega))]; rw [Nat.mul_comm]; exact ih
    rw [Nat.mod_eq_of_lt h1, Nat.div_eq_zero_iff] at hz
    rw [show Q - (c + 1) = Q - 1 - c by omega]
    rcases hz with hz | hz
    · exact absurd hz (Nat.pos_iff_ne_zero.1 (Nat.pow_pos (by omega)))
    · exact hz
theorem lead_le {b X Q c : Nat} (h : dgt b X Q c ≠ 0) : b ^ (Q - 1 - c) ≤ X := by
  rcases Nat.lt_or_ge X (b ^ (Q - 1 - c)) with h1 | h1
  · exact absurd (by unfold dgt; rw [Nat.div_eq_of_lt h1, Nat.zero_mod]) h
  · exact h1
theorem dgt_tail {b X Q c j : Nat} (h : c + j < Q) : dgt b X Q (c + j) = dgt b X (Q - c) j := by
  unfold dgt
  rw [show Q - 1 - (c + j) = Q - c - 1 - j by omega]
theorem dgt_lt {b X Q j : Nat} (hb : 2 ≤ b) : dgt b X Q j < b := Nat.mod_lt _ (by omega)
/-- the bytes behind the noughts -/
def tl (b X Q c : Nat) : List UInt8 := (List.range (Q - c)).map fun j => UInt8.ofNat (dch (dgt b X Q (c + j)))
theorem tl_length (b X Q c : Nat) : (tl b X Q c).length = Q - c := by simp [tl]
theorem tl_at {b X Q c j : Nat} (hb0 : 2 ≤ b) (hb : b ≤ 16) (hj : j < (tl b X Q c).length) : ((tl b X Q c)[j]).toNat = dch (dgt b X Q (c + j)) := by
  have h1 := dch_lt (v := dgt b X Q (c + j)) (Nat.lt_of_lt_of_le (dgt_lt hb0) hb)
  simp only [tl, List.getElem_map, List.getElem_range, UInt8.toNat_ofNat']
  exact Nat.mod_eq_of_lt (by omega)
theorem tl_isTx {b X Q c : Nat} (hb0 : 2 ≤ b) (hb : b ≤ 16) (hX : X < b ^ Q) (hc : c < Q) (hz : ∀ j, j < c → dgt b X Q j = 0) (hl : c + 1 = Q ∨ dgt b X Q c ≠ 0) : isTx b X ⟨(tl b X Q c).toArray⟩ := by
  have hs : (⟨(tl b X Q c).toArray⟩ : ByteArray).size = Q - c := by
    show (tl b X Q c).toArray.size = Q - c
    rw [List.size_toArray, tl_length]
  refine ⟨by omega, by rw [hs]; exact lead_lt hb0 hX c hc hz, ?_, fun j hj => ?_⟩
  · rw [hs]
    rcases hl with h | h
    · exact .inl (by omega)
    · right
      rw [show Q - c - 1 = Q - 1 - c by omega]
      exact lead_le h
  · rw [hs] at hj ⊢
    rw [byt_of (by omega), ← dgt_tail (by omega)]
    exact tl_at hb0 hb (by rw [tl_length]; exact hj)
end Go.Proofs.YticpdbnlbckbiaaGreatDoor

namespace Go.Proofs.YticpdbnlbckbiaaGreatDoor
open Go.RowKit
set_option linter.unusedVariables false

theorem pow_room {b n k X D : Nat} (hb0 : 2 ≤ b) (hn1 : 1 ≤ n) (hD : D ≤ 140737488355328) (hX : X < b ^ D) (h : b ^ (n * 2 ^ k) ≤ X) : k + 1 ≤ 48 ∧ n * 2 ^ (k + 1) ≤ 281474976710656 := by
  have h3 : n * 2 ^ k < D := (Nat.pow_lt_pow_iff_right (a := b) (by omega)).1 (Nat.lt_of_le_of_lt h hX)
  have h4 : 2 ^ k ≤ n * 2 ^ k := Nat.le_mul_of_pos_left _ (by omega)
  have h5 : 2 ^ k < 2 ^ 47 := Nat.lt_of_le_of_lt h4 (Nat.lt_of_lt_of_le h3 (by clear h hX h3 h4; rw [show (2 : Nat) ^ 47 = 140737488355328 by decide]; exact hD))
  have h6 := (Nat.pow_lt_pow_iff_right (a := 2) (by decide)).1 h5
  refine ⟨by clear h3 h4 h5 h hX; omega, ?_⟩
  rw [Nat.pow_succ, ← Nat.mul_assoc]
  obtain ⟨Q, hQ⟩ : ∃ Q, n * 2 ^ k = Q := ⟨_, rfl⟩
  rw [hQ] at h3 ⊢
  clear h4 h5 h6 hQ h hX
  omega
theorem Sc.drewN {w : World} {B p b n k q : Nat} {v : Value} {xs : List Value} {an : Option Addr} (h : Sc w B p b n k v xs an) : Sc (w.drewN q) B p b n k v xs an := ⟨h.row, h.pB, h.c0, h.c1, h.c2, h.c3, h.own, h.vp, h.olds, h.next, h.np, h.nv⟩
end Go.Proofs.YticpdbnlbckbiaaGreatDoor

namespace Go.Proofs.YticpdbnlbckbiaaGreatDoor
open Go.RowKit
set_option linter.unusedVariables false

theorem tvr_dgt {b X D : Nat} (hb : 2 ≤ b) (hX : X < b ^ D) : ∀ k, k ≤ D → tvr b (fun j => dgt b X D j) 0 k = X / b ^ (D - k)
  | 0, _ => by rw [Nat.sub_zero, Nat.div_eq_of_lt hX]; rfl
  | k + 1, hk => by
    rw [tvr, tvr_dgt hb hX k (by omega), Nat.zero_add]
    unfold dgt
    rw [show D - 1 - k = D - (k + 1) by omega, show D - k = D - (k + 1) + 1 by omega, Nat.pow_succ, ← Nat.div_div_eq_div_mul]
    exact Nat.div_add_mod' _ _
theorem isTx.val {b X : Nat} {t : ByteArray} (hb0 : 2 ≤ b) (hb : b ≤ 16) (h : isTx b X t) : val b t = X := by
  unfold Proofs.YticpdbnlbckbiaaGreatDoor.val
  have e : tvr b (fun k => dval (byt t k)) 0 t.size = tvr b (fun j => dgt b X t.size j) 0 t.size := tvr_congr fun j hj => by
    show dval (byt t (0 + j)) = dgt b X t.size (0 + j)
    rw [Nat.zero_add, h.2.2.2 j hj]
    exact dval_dch (Nat.lt_of_lt_of_le (dgt_lt hb0) hb)
  rw [e, tvr_dgt hb0 h.2.1 t.size (Nat.le_refl _), Nat.sub_self, Nat.pow_zero, Nat.div_one]
theorem isTx.isT {b X : Nat} {t : ByteArray} (hb0 : 2 ≤ b) (hb : b ≤ 16) (h : isTx b X t) : isT b t := by
  refine ⟨h.1, fun hs => ?_, fun k hk => ?_⟩
  · rw [h.2.2.2 0 (by omega)]
    have h1 : b ^ (t.size - 1) ≤ X := h.2.2.1.resolve_left (by omega)
    have h2 : X / b ^ (t.size - 1) < b := by
      rw [Nat.div_lt_iff_lt_mul (Nat.pow_pos (by omega)), Nat.mul_comm, ← Nat.pow_succ, show (t.size - 1).succ = t.size by omega]; exact h.2.1
    have h3 : 0 < X / b ^ (t.size - 1) := Nat.div_pos h1 (Nat.pow_pos (by omega))
    have h4 : dgt b X t.size 0 = X / b ^ (t.size - 1) := by unfold dgt; rw [Nat.sub_zero, Nat.mod_eq_of_lt h2]
    intro e
    have := (dch_zero (Nat.lt_of_lt_of_le (dgt_lt hb0) hb)).1 e
    rw [h4] at this
    clear h1 h2 h4
    omega
  · rw [h.2.2.2 k hk, dval_dch (Nat.lt_of_lt_of_le (dgt_lt hb0) hb)]
    exact dgt_lt hb0
theorem isTx.size_le {b X n : Nat} {t : ByteArray} (hb0 : 2 ≤ b) (h : isTx b X t) (hX : X < BB ^ n) : t.size ≤ 32 * n + 1 := by
  rcases h.2.2.1 with h1 | h1
  · omega
  · have h2 : 2 ^ (t.size - 1) ≤ X := Nat.le_trans (Nat.pow_le_pow_left hb0 _) h1
    rw [BB_eq, show (4294967296 : Nat) = 2 ^ 32 by decide, ← Nat.pow_mul] at hX
    have h3 := (Nat.pow_lt_pow_iff_right (a := 2) (by decide)).1 (Nat.lt_of_le_of_lt h2 hX)
    clear h1 h2 hX
    omega
end Go.Proofs.YticpdbnlbckbiaaGreatDoor
