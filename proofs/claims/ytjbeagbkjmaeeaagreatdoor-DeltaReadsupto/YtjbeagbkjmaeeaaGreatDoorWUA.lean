/-
  Layer 2: a number's text is there, and is the number's alone.
-/
import Derived.Test.YtjbeagbkjmaeeaaGreatDoorWU1
namespace Go.Proofs.YtjbeagbkjmaeeaaGreatDoor
open Go.RowKit
set_option linter.unusedVariables false

theorem lead_ex {b X Q : Nat} (k : Nat) : k < Q → (∀ j, j < k → dgt b X Q j = 0) ∨ ∃ c, c < k ∧ (∀ j, j < c → dgt b X Q j = 0) ∧ dgt b X Q c ≠ 0 := by
  induction k with
  | zero => exact fun _ => .inl fun j hj => absurd hj (by omega)
  | succ k ih =>
    intro h
    rcases ih (by omega) with h1 | ⟨c, h1, h2, h3⟩
    · by_cases e : dgt b X Q k = 0
      · exact .inl fun j hj => by
          rcases Nat.lt_or_ge j k with h2 | h2
          · exact h1 j h2
          · have : j = k := by omega
            rw [this]; exact e
      · exact .inr ⟨k, by omega, h1, e⟩
    · exact .inr ⟨c, by omega, h2, h3⟩
/-- every number has a text -/
theorem isTx_ex {b : Nat} (hb0 : 2 ≤ b) (hb : b ≤ 16) (X : Nat) : ∃ t, isTx b X t := by
  have hX : X < b ^ (X + 1) := Nat.lt_of_lt_of_le (Nat.lt_pow_self (by omega : 1 < b)) (Nat.pow_le_pow_right (by omega) (by omega))
  rcases lead_ex (b := b) (X := X) (Q := X + 1) X (by omega) with h | ⟨c, h1, h2, h3⟩
  · exact ⟨_, tl_isTx hb0 hb hX (by omega) h (.inl rfl)⟩
  · exact ⟨_, tl_isTx hb0 hb hX (by omega) h2 (.inr h3)⟩
theorem isTz_ex (s : Bool) (X : Nat) : ∃ u, isTz s X u := by
  obtain ⟨t, h⟩ := isTx_ex (b := 10) (by omega) (by omega) X
  exact ⟨_, t, h, rfl⟩
theorem isTz.uniq {s : Bool} {X : Nat} {u v : ByteArray} (h : isTz s X u) (k : isTz s X v) : u = v := by
  obtain ⟨t, ht, rfl⟩ := h
  obtain ⟨t', ht', rfl⟩ := k
  rw [ht.uniq (by omega) ht']
theorem isTx.head {X : Nat} {t : ByteArray} (h : isTx 10 X t) : byt t 0 ≠ 45 := by
  rw [h.2.2.2 0 h.1]
  have h1 : dgt 10 X t.size 0 < 10 := Nat.mod_lt _ (by omega)
  generalize dgt 10 X t.size 0 = d at h1
  match d, h1 with
  | 0, _ => decide
  | 1, _ => decide
  | 2, _ => decide
  | 3, _ => decide
  | 4, _ => decide
  | 5, _ => decide
  | 6, _ => decide
  | 7, _ => decide
  | 8, _ => decide
  | 9, _ => decide
theorem cons_byt (t : ByteArray) : byt ((⟨#[45]⟩ : ByteArray) ++ t) 0 = 45 := by
  rw [byt_of (by rw [ByteArray.size_append]; show 0 < 1 + _; omega), ByteArray.getElem_append_left (by decide)]
  rfl
theorem cons_ext (t : ByteArray) : ((⟨#[45]⟩ : ByteArray) ++ t).extract 1 ((⟨#[45]⟩ : ByteArray) ++ t).size = t := by
  have e1 : (⟨#[45]⟩ : ByteArray).size = 1 := rfl
  have e2 : ((⟨#[45]⟩ : ByteArray) ++ t).size = 1 + t.size := by rw [ByteArray.size_append, e1]
  have e3 : (((⟨#[45]⟩ : ByteArray) ++ t).extract 1 ((⟨#[45]⟩ : ByteArray) ++ t).size).size = t.size := by rw [ByteArray.size_extract, e2]; omega
  refine ba_ext e3 fun j hj => ?_
  rw [e3] at hj
  rw [byt_extract (Nat.le_refl _) (by rw [e2]; omega), byt_of (by rw [e2]; omega), ByteArray.getElem_append_right (by rw [e1]; omega), ← byt_of (by rw [e1]; omega), e1, show 1 + j - 1 = j by omega]
theorem isTz.size_le {s : Bool} {X n : Nat} {u : ByteArray} (h : isTz s X u) (hX : X < BB ^ n) : u.size ≤ 32 * n + 2 := by
  obtain ⟨t, ht, rfl⟩ := h
  have h1 := ht.size_le (by omega) hX
  split
  · rw [ByteArray.size_append]; show 1 + _ ≤ _; omega
  · omega
theorem isTz.pos {s : Bool} {X : Nat} {u : ByteArray} (h : isTz s X u) : 1 ≤ u.size := by
  obtain ⟨t, ht, rfl⟩ := h
  have h1 := ht.1
  split
  · rw [ByteArray.size_append]; show 1 ≤ 1 + _; omega
  · exact h1
/-- two numbers with one text are one number -/
theorem isTz.inj {s t : Bool} {X Y : Nat} {u : ByteArray} (h : isTz s X u) (k : isTz t Y u) : sg s X = sg t Y := by
  obtain ⟨v, hv, rfl⟩ := h
  obtain ⟨v', hv', e⟩ := k
  have h1 := hv.val (by omega) (by omega)
  have h2 := hv'.val (by omega) (by omega)
  by_cases c : s = true ∧ X ≠ 0
  · by_cases d : t = true ∧ Y ≠ 0
    · rw [if_pos c, if_pos d] at e
      have : v = v' := by have e2 := cons_ext v; rw [e, cons_ext] at e2; exact e2.symm
      subst this
      rw [← h1, ← h2, c.1, d.1]
    · rw [if_pos c, if_neg d] at e
      exact absurd (by rw [← e]; exact cons_byt v) hv'.head
  · by_cases d : t = true ∧ Y ≠ 0
    · rw [if_neg c, if_pos d] at e
      exact absurd (by rw [e]; exact cons_byt v') hv.head
    · rw [if_neg c, if_neg d] at e
      subst e
      have hXY : X = Y := by rw [← h1, ← h2]
      subst hXY
      by_cases hX : X = 0
      · subst hX; cases s <;> cases t <;> rfl
      · have c1 : s = false := by cases s; rfl; exact absurd ⟨rfl, hX⟩ c
        have d1 : t = false := by cases t; rfl; exact absurd ⟨rfl, hX⟩ d
        rw [c1, d1]
end Go.Proofs.YtjbeagbkjmaeeaaGreatDoor
