/-
  Layer 2's Cmp; Small, of both sides.
-/
import Derived.Test.YthecapmdionnmaaWI4
namespace Go.Proofs.Ythecapmdionnmaa
open Go.RowKit
set_option linter.unusedVariables false

theorem cmp_lt {a b : Int} (h : sgn a < sgn b) : sgn (a - b) = -1 := by
  apply sgn_neg
  unfold sgn at h
  split at h
  · split at h
    · omega
    · split at h <;> omega
  · split at h
    · split at h
      · omega
      · split at h <;> omega
    · split at h
      · omega
      · split at h <;> omega
theorem cmp_gt {a b : Int} (h : sgn b < sgn a) : sgn (a - b) = 1 := by
  apply sgn_pos
  unfold sgn at h
  split at h
  · split at h
    · omega
    · split at h <;> omega
  · split at h
    · split at h
      · omega
      · split at h <;> omega
    · split at h
      · omega
      · split at h <;> omega
theorem cmp_eq {s t : Bool} {X Y : Nat} (h : sgn (sg s X) = sgn (sg t Y)) : sgn (sg s X) * cmpI X Y = sgn (sg s X - sg t Y) := by
  by_cases hX : X = 0
  · subst hX
    rw [sg_zero, sgn_zero] at h ⊢
    have : sg t Y = 0 := by
      unfold sgn at h
      split at h
      · omega
      · split at h
        · assumption
        · omega
    rw [this, Int.zero_mul]; rfl
  · by_cases hY : Y = 0
    · subst hY
      rw [sg_zero, sgn_zero, sgn_sg hX] at h
      have := sd_range s
      omega
    · rw [sgn_sg hX, sgn_sg hY] at h
      have hst : s = t := by cases s <;> cases t <;> first | rfl | (simp [sd] at h)
      subst hst
      rw [sgn_sg hX]
      rcases Nat.lt_trichotomy X Y with h' | h' | h'
      · rw [cmpI_lt h']
        cases s
        · rw [sgn_neg (by simp only [sg, Bool.false_eq_true, if_false]; omega)]; rfl
        · rw [sgn_pos (by simp only [sg, if_true]; omega)]; rfl
      · rw [cmpI_eq h', h', Int.sub_self, sgn_zero]; simp
      · rw [cmpI_gt h']
        cases s
        · rw [sgn_pos (by simp only [sg, Bool.false_eq_true, if_false]; omega)]; rfl
        · rw [sgn_neg (by simp only [sg, if_true]; omega)]; rfl


/-- does it fit into 64 bits -/
def fits (Z : Int) : Bool := decide (-9223372036854775808 ≤ Z ∧ Z ≤ 9223372036854775807)
def smI (Z : Int) : Int := if fits Z then Z else 0
theorem fits_of {Z : Int} (h1 : -9223372036854775808 ≤ Z) (h2 : Z ≤ 9223372036854775807) : fits Z = true ∧ smI Z = Z := by
  have : fits Z = true := by simp [fits, h1, h2]
  exact ⟨this, by simp [smI, this]⟩
theorem fits_no {Z : Int} (h : ¬ (-9223372036854775808 ≤ Z ∧ Z ≤ 9223372036854775807)) : fits Z = false ∧ smI Z = 0 := by
  have : fits Z = false := by unfold fits; exact decide_eq_false h
  exact ⟨this, by simp [smI, this]⟩


end Go.Proofs.Ythecapmdionnmaa
