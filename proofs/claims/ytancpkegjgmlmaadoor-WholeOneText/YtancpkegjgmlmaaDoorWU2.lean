/-
  Layer 2's Parse, of any text.
-/
import Derived.Test.YtancpkegjgmlmaaDoorWU1
import Derived.Lib.Strings
namespace Go.Proofs.YtancpkegjgmlmaaDoor
open Go.RowKit
set_option linter.unusedVariables false

theorem dgt_tvr {b D j : Nat} {f : Nat → Nat} (hb : 2 ≤ b) (hf : ∀ k, k < D → f k < b) (hj : j < D) : dgt b (tvr b f 0 D) D j = f j := by
  have e : D = (j + 1) + (D - 1 - j) := by omega
  have hs := tvr_split b f 0 (j + 1) (D - 1 - j)
  rw [← e] at hs
  have hr : tvr b f (0 + (j + 1)) (D - 1 - j) < b ^ (D - 1 - j) := tvr_lt fun n hn => hf _ (by omega)
  unfold dgt
  rw [hs, Nat.add_comm, Nat.add_mul_div_right _ _ (Nat.pow_pos (by omega)), Nat.div_eq_of_lt hr, Nat.zero_add, tvr, Nat.zero_add, Nat.add_comm, Nat.add_mul_mod_self_right]
  exact Nat.mod_eq_of_lt (hf j hj)
/-- a text is the text of its value -/
theorem isT.isTx {b : Nat} {t : ByteArray} (hb0 : 2 ≤ b) (hb : b ≤ 16) (h : isT b t) : isTx b (Proofs.YtancpkegjgmlmaaDoor.val b t) t := by
  have hd : ∀ j, j < t.size → dgt b (Proofs.YtancpkegjgmlmaaDoor.val b t) t.size j = dval (byt t j) := fun j hj => dgt_tvr (f := fun k => dval (byt t k)) hb0 (fun k hk => h.2.2 k hk) hj
  refine ⟨h.1, val_lt h.2.2, ?_, fun j hj => ?_⟩
  · by_cases h1 : t.size = 1
    · exact .inl h1
    · right
      have hz : dgt b (Proofs.YtancpkegjgmlmaaDoor.val b t) t.size 0 ≠ 0 := by
        rw [hd 0 h.1]
        intro e
        have h48 := h.2.1 (by have := h.1; omega)
        have h2 : dval (byt t 0) < 16 := Nat.lt_of_lt_of_le (h.2.2 0 h.1) hb
        have := dch_dval h2
        rw [e] at this
        exact h48 this.symm
      have := lead_le hz
      rw [Nat.sub_zero] at this
      exact this
  · rw [hd j hj, dch_dval (Nat.lt_of_lt_of_le (h.2.2 j hj) hb)]
theorem pre_eq {s : ByteArray} (h : 0 < s.size) : ((s.extract 0 1).toList == [45]) = decide (byt s 0 = 45) := by
  rw [Lib.extract_toList, byt_of h]
  have e : s.data.toList.drop 0 = s.data.toList := rfl
  rw [e, Nat.sub_zero]
  cases hl : s.data.toList with
  | nil =>
    have h1 : s.size = s.data.toList.length := by rw [Array.length_toList]; rfl
    rw [hl] at h1
    have h2 : s.size = 0 := h1
    omega
  | cons x l =>
    have hx : s[0]'h = x := by
      have h1 : s.data.toList[0]? = some x := by rw [hl]; rfl
      have h2 : s.data[0]? = some x := by simpa using h1
      exact (Array.getElem?_eq_some_iff.1 h2).2
    rw [hx]
    have : List.take 1 (x :: l) = [x] := rfl
    rw [this]
    by_cases e : x = 45
    · subst e; rfl
    · have e2 : ¬ (x.toNat = 45) := fun h => e (UInt8.toNat_inj.1 h)
      rw [decide_eq_false e2]
      simp [e]
theorem ext_cons {s : ByteArray} (h : 0 < s.size) (hm : byt s 0 = 45) : (⟨#[45]⟩ : ByteArray) ++ s.extract 1 s.size = s := by
  have e1 : (⟨#[45]⟩ : ByteArray).size = 1 := rfl
  have e2 : (s.extract 1 s.size).size = s.size - 1 := by rw [ByteArray.size_extract]; omega
  refine ba_ext (by rw [ByteArray.size_append, e1, e2]; omega) fun j hj => ?_
  rw [ByteArray.size_append, e1, e2] at hj
  rw [byt_of (by rw [ByteArray.size_append, e1, e2]; exact hj)]
  by_cases h0 : j = 0
  · subst h0
    rw [hm, ByteArray.getElem_append_left (by decide)]
    rfl
  · rw [ByteArray.getElem_append_right (by rw [e1]; omega)]
    rw [← byt_of (s := s.extract 1 s.size) (by rw [e1, e2]; omega), byt_extract (Nat.le_refl _) (by rw [e1]; omega), e1, show 1 + (j - 1) = j by omega]
end Go.Proofs.YtancpkegjgmlmaaDoor
