/-
  Blanks and comments; lines and columns: of the text alone.
-/
import Derived.Test.YtibeiggedmabkaaDoorTS0
namespace Go.Proofs.YtibeiggedmabkaaDoor
set_option linter.unusedVariables false
set_option linter.unusedSimpArgs false

/-- the text's byte at a place -/
def byS (S : List UInt8) (n : Nat) : Nat := (S.getD n 0).toNat
/-- how many line ends stand ahead of a place; behind which of them it stands -/
def nlN (S : List UInt8) : Nat → Nat
  | 0 => 0
  | n + 1 => if byS S n = 10 then nlN S n + 1 else nlN S n
def ahN (S : List UInt8) : Nat → Nat
  | 0 => 0
  | n + 1 => if byS S n = 10 then n + 1 else ahN S n
/-- blanks and comments alone: k bytes from a on; in a comment (4) or not (3) -/
def gapAt (S : List UInt8) (a : Nat) : Nat → Option Nat
  | 0 => some 3
  | k + 1 => match gapAt S a k with
    | none => none
    | some st => if folN st (byS S (a + k)) ≤ 4 then some (folN st (byS S (a + k))) else none
theorem ahN_le (S : List UInt8) : ∀ n, ahN S n ≤ n
  | 0 => Nat.le_refl _
  | n + 1 => by
    have := ahN_le S n
    simp only [ahN]
    split <;> omega
theorem nlN_le (S : List UInt8) : ∀ n, nlN S n ≤ n
  | 0 => Nat.le_refl _
  | n + 1 => by
    have := nlN_le S n
    simp only [nlN]
    split <;> omega
theorem gap_mono {S : List UInt8} {a k j : Nat} (h : gapAt S a k ≠ none) (hj : j ≤ k) : gapAt S a j ≠ none := by
  induction k with
  | zero => have : j = 0 := by omega
            rw [this]; exact h
  | succ k ih =>
    by_cases e : j = k + 1
    · rw [e]; exact h
    · refine ih (fun c => ?_) (by omega)
      simp only [gapAt, c] at h
      exact h rfl
theorem startN_low {c : Nat} (h : startN c ≤ 4) : (c = 59 ∧ startN c = 4) ∨ (c ≠ 59 ∧ blN c = true ∧ startN c = 3) := by
  unfold startN at h ⊢
  by_cases h1 : c = 59
  · exact Or.inl ⟨h1, by simp [h1]⟩
  · refine Or.inr ⟨h1, ?_⟩
    by_cases hb : blN c = true
    · refine ⟨hb, ?_⟩
      have : c = 9 ∨ c = 10 ∨ c = 13 ∨ c = 32 := by unfold blN at hb; simp at hb; omega
      rcases this with e | e | e | e <;> subst e <;> decide
    · exfalso
      rw [if_neg h1] at h
      by_cases a40 : c = 40
      · rw [if_pos a40] at h; omega
      rw [if_neg a40] at h
      by_cases a41 : c = 41
      · rw [if_pos a41] at h; omega
      rw [if_neg a41] at h
      by_cases a124 : c = 124
      · rw [if_pos a124] at h; omega
      rw [if_neg a124] at h
      by_cases a34 : c = 34
      · rw [if_pos a34] at h; omega
      rw [if_neg a34] at h
      by_cases a58 : c = 58
      · rw [if_pos a58] at h; omega
      rw [if_neg a58] at h
      by_cases a35 : c = 35
      · rw [if_pos a35] at h; omega
      rw [if_neg a35] at h
      by_cases a48 : c = 48
      · rw [if_pos a48] at h; omega
      rw [if_neg a48] at h
      rw [if_neg hb] at h
      by_cases hd : dgN c = true
      · rw [if_pos hd] at h; omega
      rw [if_neg hd] at h
      by_cases hy : syN c = true
      · rw [if_pos hy] at h; omega
      rw [if_neg hy] at h
      omega
theorem gap34 {S : List UInt8} {a : Nat} : ∀ {k st : Nat}, gapAt S a k = some st → st = 3 ∨ st = 4
  | 0, st, h => by simp [gapAt] at h; exact Or.inl h.symm
  | k + 1, st, h => by
    simp only [gapAt] at h
    rcases hg : gapAt S a k with _ | s
    · rw [hg] at h; simp at h
    · rw [hg] at h
      simp only at h
      split at h
      · rename_i hl
        have hs := gap34 hg
        injection h with h
        rcases hs with e | e
        · subst e
          have e3 : folN 3 (byS S (a + k)) = startN (byS S (a + k)) := by simp [folN]
          rw [e3] at h hl
          rcases startN_low hl with ⟨_, q⟩ | ⟨_, _, q⟩ <;> omega
        · subst e
          have e4 : folN 4 (byS S (a + k)) = 3 ∨ folN 4 (byS S (a + k)) = 4 := by by_cases hr : byS S (a + k) = 10 ∨ byS S (a + k) = 13 <;> simp [folN, hr]
          omega
      · simp at h
/-- one byte more -/
theorem gap_on {S : List UInt8} {a k : Nat} (h : gapAt S a (k + 1) ≠ none) : ∃ st, gapAt S a k = some st ∧ folN st (byS S (a + k)) ≤ 4 ∧ gapAt S a (k + 1) = some (folN st (byS S (a + k))) := by
  simp only [gapAt] at h ⊢
  rcases hg : gapAt S a k with _ | s
  · rw [hg] at h; exact absurd rfl h
  · rw [hg] at h
    simp only at h ⊢
    by_cases hl : folN s (byS S (a + k)) ≤ 4
    · exact ⟨s, rfl, hl, by rw [if_pos hl]⟩
    · rw [if_neg hl] at h; exact absurd rfl h
theorem gap_three {S : List UInt8} {a k : Nat} (h : gapAt S a k = some 3) (h1 : gapAt S a (k + 1) ≠ none) : (byS S (a + k) = 59 ∧ gapAt S a (k + 1) = some 4) ∨ (byS S (a + k) ≠ 59 ∧ blN (byS S (a + k)) = true ∧ gapAt S a (k + 1) = some 3) := by
  obtain ⟨st, e, hl, e2⟩ := gap_on h1
  rw [h] at e
  injection e with e
  subst e
  have e3 : folN 3 (byS S (a + k)) = startN (byS S (a + k)) := by simp [folN]
  rw [e3] at hl e2
  rcases startN_low hl with ⟨q1, q2⟩ | ⟨q1, q2, q3⟩
  · exact Or.inl ⟨q1, by rw [e2, q2]⟩
  · exact Or.inr ⟨q1, q2, by rw [e2, q3]⟩
theorem gap_four {S : List UInt8} {a k : Nat} (h : gapAt S a k = some 4) : gapAt S a (k + 1) = some (if byS S (a + k) = 10 ∨ byS S (a + k) = 13 then 3 else 4) := by
  simp only [gapAt, h]
  have e : folN 4 (byS S (a + k)) = if byS S (a + k) = 10 ∨ byS S (a + k) = 13 then 3 else 4 := by simp [folN]
  rw [e]
  split <;> simp
/-- of a piece of the text -/
theorem gap_part {S T : List UInt8} {a n : Nat} (h : ∀ i, i < n → byS T i = byS S (a + i)) : ∀ k, k ≤ n → gapAt T 0 k = gapAt S a k
  | 0, _ => rfl
  | k + 1, hk => by
    simp only [gapAt]
    rw [gap_part h k (by omega), Nat.zero_add, h k (by omega)]
end Go.Proofs.YtibeiggedmabkaaDoor
