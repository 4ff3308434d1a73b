/-
  How long Print's answer is.
-/
import Derived.Test.YtpfmamimhhnbiaaGreatDoorTP3
namespace Go.Proofs.YtpfmamimhhnbiaaGreatDoor
open Go.RowKit
set_option linter.unusedVariables false
set_option linter.unusedSimpArgs false

theorem PrR.cases {k : Int} {t s : ByteArray} {c : Int} (h : PrR k t s c) : (c = 0 ∧ (s = t ∨ s = barS t ∨ s = ⟨#[58]⟩ ++ t ∨ s = quoS t ∨ s = hdk k ++ t)) ∨ (c ≠ 0 ∧ s = empS) := by
  by_cases k3 : k = 3
  · obtain ⟨a1, a2, a3⟩ := h.sym k3
    by_cases hp : isPl t
    · exact Or.inl ⟨(a1 hp).2, Or.inl (a1 hp).1⟩
    · by_cases hn : hasB nbN t
      · exact Or.inr ⟨by rw [(a2 hp hn).2]; decide, (a2 hp hn).1⟩
      · exact Or.inl ⟨(a3 hp hn).2, Or.inr (Or.inl (a3 hp hn).1)⟩
  by_cases k4 : k = 4
  · obtain ⟨a1, a2⟩ := h.key k4
    by_cases hp : isPl t
    · exact Or.inl ⟨(a1 hp).2, Or.inr (Or.inr (Or.inl (a1 hp).1))⟩
    · exact Or.inr ⟨by rw [(a2 hp).2]; decide, (a2 hp).1⟩
  by_cases k9 : k = 9
  · obtain ⟨a1, a2⟩ := h.str k9
    by_cases hp : hasB nqN t
    · exact Or.inr ⟨by rw [(a1 hp).2]; decide, (a1 hp).1⟩
    · exact Or.inl ⟨(a2 hp).2, Or.inr (Or.inr (Or.inr (Or.inl (a2 hp).1)))⟩
  obtain ⟨a1, a2⟩ := h.oth k3 k4 k9
  by_cases hp : OkT (hdk k ++ t) k t
  · exact Or.inl ⟨(a1 hp).2, Or.inr (Or.inr (Or.inr (Or.inr (a1 hp).1)))⟩
  · exact Or.inr ⟨by rw [(a2 hp).2]; decide, (a2 hp).1⟩
theorem hdk_size (k : Int) : (hdk k).size ≤ 2 := by
  unfold hdk
  split
  · exact Nat.le_refl 2
  · split
    · exact Nat.le_refl 2
    · exact Nat.zero_le 2
theorem quoS_size (t : ByteArray) : (quoS t).size ≤ 2 * t.size + 2 := by
  have h1 := (dbl_len (lsB t)).2
  rw [lsB_len] at h1
  show (34 :: (dbl (lsB t) ++ [34])).toArray.size ≤ _
  rw [List.size_toArray]
  simp only [List.length_cons, List.length_append, List.length_nil]
  omega
theorem PrR.size {k : Int} {t s : ByteArray} {c : Int} (h : PrR k t s c) : s.size ≤ 2 * t.size + 2 := by
  rcases h.cases with ⟨_, e | e | e | e | e⟩ | ⟨_, e⟩
  · rw [e]; omega
  · rw [e]; unfold barS; rw [ByteArray.size_append, ByteArray.size_append]; show 1 + t.size + 1 ≤ _; omega
  · rw [e, ByteArray.size_append]; show 1 + t.size ≤ _; omega
  · rw [e]; exact quoS_size t
  · rw [e, ByteArray.size_append]; have := hdk_size k; omega
  · rw [e]; exact Nat.zero_le _
theorem PrR.err {k : Int} {t s : ByteArray} {c : Int} (h : PrR k t s c) (hc : c ≠ 0) : s = empS := by
  rcases h.cases with ⟨e, _⟩ | ⟨_, e⟩
  · exact absurd e hc
  · exact e
end Go.Proofs.YtpfmamimhhnbiaaGreatDoor
