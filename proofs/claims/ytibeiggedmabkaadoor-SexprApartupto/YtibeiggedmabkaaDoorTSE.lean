/-
  Blanks and comments; lines and columns: of the text alone.
-/
import Derived.Test.YtibeiggedmabkaaDoorTS0
namespace Go.Proofs.YtibeiggedmabkaaDoor
set_option linter.unusedVariables false
set_option linter.unusedSimpArgs false

/-- the text's byte at a place -/
def byS (S : List UInt8) (n : Nat) : Nat := (S.getD n 0).toNat
/-- how many line ends stand ahead of a place; behind which of them it stands -/
def nlN (S : List UInt8) : Nat → Nat
  | 0 => 0
  | n + 1 => if byS S n = 10 then nlN S n + 1 else nlN S n
def ahN (S : List UInt8) : Nat → Nat
  | 0 => 0
  | n + 1 => if byS S n = 10 then n + 1 else ahN S n
theorem ahN_le (S : List UInt8) : ∀ n, ahN S n ≤ n
  | 0 => Nat.le_refl _
  | n + 1 => by
    have := ahN_le S n
    simp only [ahN]
    split <;> omega
theorem nlN_le (S : List UInt8) : ∀ n, nlN S n ≤ n
  | 0 => Nat.le_refl _
  | n + 1 => by
    have := nlN_le S n
    simp only [nlN]
    split <;> omega
theorem startN_low {c : Nat} (h : startN c ≤ 4) : (c = 59 ∧ startN c = 4) ∨ (c ≠ 59 ∧ blN c = true ∧ startN c = 3) := by
  unfold startN at h ⊢
  by_cases h1 : c = 59
  · exact Or.inl ⟨h1, by simp [h1]⟩
  · refine Or.inr ⟨h1, ?_⟩
    by_cases hb : blN c = true
    · refine ⟨hb, ?_⟩
      have : c = 9 ∨ c = 10 ∨ c = 13 ∨ c = 32 := by unfold blN at hb; simp at hb; omega
      rcases this with e | e | e | e <;> subst e <;> decide
    · exfalso
      rw [if_neg h1] at h
      by_cases a40 : c = 40
      · rw [if_pos a40] at h; omega
      rw [if_neg a40] at h
      by_cases a41 : c = 41
      · rw [if_pos a41] at h; omega
      rw [if_neg a41] at h
      by_cases a124 : c = 124
      · rw [if_pos a124] at h; omega
      rw [if_neg a124] at h
      by_cases a34 : c = 34
      · rw [if_pos a34] at h; omega
      rw [if_neg a34] at h
      by_cases a58 : c = 58
      · rw [if_pos a58] at h; omega
      rw [if_neg a58] at h
      by_cases a35 : c = 35
      · rw [if_pos a35] at h; omega
      rw [if_neg a35] at h
      by_cases a48 : c = 48
      · rw [if_pos a48] at h; omega
      rw [if_neg a48] at h
      rw [if_neg hb] at h
      by_cases hd : dgN c = true
      · rw [if_pos hd] at h; omega
      rw [if_neg hd] at h
      by_cases hy : syN c = true
      · rw [if_pos hy] at h; omega
      rw [if_neg hy] at h
      omega
end Go.Proofs.YtibeiggedmabkaaDoor
