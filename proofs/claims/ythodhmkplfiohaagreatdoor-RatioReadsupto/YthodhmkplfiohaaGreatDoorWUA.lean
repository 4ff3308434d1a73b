/-
  Layer 2: a number's text is there, and is the number's alone.
-/
import Derived.Test.YthodhmkplfiohaaGreatDoorWU1
namespace Go.Proofs.YthodhmkplfiohaaGreatDoor
open Go.RowKit
set_option linter.unusedVariables false

theorem isTz.uniq {s : Bool} {X : Nat} {u v : ByteArray} (h : isTz s X u) (k : isTz s X v) : u = v := by
  obtain ⟨t, ht, rfl⟩ := h
  obtain ⟨t', ht', rfl⟩ := k
  rw [ht.uniq (by omega) ht']
theorem isTx.head {X : Nat} {t : ByteArray} (h : isTx 10 X t) : byt t 0 ≠ 45 := by
  rw [h.2.2.2 0 h.1]
  have h1 : dgt 10 X t.size 0 < 10 := Nat.mod_lt _ (by omega)
  generalize dgt 10 X t.size 0 = d at h1
  match d, h1 with
  | 0, _ => decide
  | 1, _ => decide
  | 2, _ => decide
  | 3, _ => decide
  | 4, _ => decide
  | 5, _ => decide
  | 6, _ => decide
  | 7, _ => decide
  | 8, _ => decide
  | 9, _ => decide
theorem cons_byt (t : ByteArray) : byt ((⟨#[45]⟩ : ByteArray) ++ t) 0 = 45 := by
  rw [byt_of (by rw [ByteArray.size_append]; show 0 < 1 + _; omega), ByteArray.getElem_append_left (by decide)]
  rfl
theorem cons_ext (t : ByteArray) : ((⟨#[45]⟩ : ByteArray) ++ t).extract 1 ((⟨#[45]⟩ : ByteArray) ++ t).size = t := by
  have e1 : (⟨#[45]⟩ : ByteArray).size = 1 := rfl
  have e2 : ((⟨#[45]⟩ : ByteArray) ++ t).size = 1 + t.size := by rw [ByteArray.size_append, e1]
  have e3 : (((⟨#[45]⟩ : ByteArray) ++ t).extract 1 ((⟨#[45]⟩ : ByteArray) ++ t).size).size = t.size := by rw [ByteArray.size_extract, e2]; omega
  refine ba_ext e3 fun j hj => ?_
  rw [e3] at hj
  rw [byt_extract (Nat.le_refl _) (by rw [e2]; omega), byt_of (by rw [e2]; omega), ByteArray.getElem_append_right (by rw [e1]; omega), ← byt_of (by rw [e1]; omega), e1, show 1 + j - 1 = j by omega]
theorem isTz.pos {s : Bool} {X : Nat} {u : ByteArray} (h : isTz s X u) : 1 ≤ u.size := by
  obtain ⟨t, ht, rfl⟩ := h
  have h1 := ht.1
  split
  · rw [ByteArray.size_append]; show 1 ≤ 1 + _; omega
  · exact h1
/-- two numbers with one text are one number -/
theorem isTz.inj {s t : Bool} {X Y : Nat} {u : ByteArray} (h : isTz s X u) (k : isTz t Y u) : sg s X = sg t Y := by
  obtain ⟨v, hv, rfl⟩ := h
  obtain ⟨v', hv', e⟩ := k
  have h1 := hv.val (by omega) (by omega)
  have h2 := hv'.val (by omega) (by omega)
  by_cases c : s = true ∧ X ≠ 0
  · by_cases d : t = true ∧ Y ≠ 0
    · rw [if_pos c, if_pos d] at e
      have : v = v' := by have e2 := cons_ext v; rw [e, cons_ext] at e2; exact e2.symm
      subst this
      rw [← h1, ← h2, c.1, d.1]
    · rw [if_pos c, if_neg d] at e
      exact absurd (by rw [← e]; exact cons_byt v) hv'.head
  · by_cases d : t = true ∧ Y ≠ 0
    · rw [if_neg c, if_pos d] at e
      exact absurd (by rw [e]; exact cons_byt v') hv.head
    · rw [if_neg c, if_neg d] at e
      subst e
      have hXY : X = Y := by rw [← h1, ← h2]
      subst hXY
      by_cases hX : X = 0
      · subst hX; cases s <;> cases t <;> rfl
      · have c1 : s = false := by cases s; rfl; exact absurd ⟨rfl, hX⟩ c
        have d1 : t = false := by cases t; rfl; exact absurd ⟨rfl, hX⟩ d
        rw [c1, d1]
end Go.Proofs.YthodhmkplfiohaaGreatDoor
