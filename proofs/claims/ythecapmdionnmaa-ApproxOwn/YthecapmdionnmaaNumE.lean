/-
  Where a fraction lies among the floats. Plain mathematics.
-/
import Derived.Test.YthecapmdionnmaaNumF
import Derived.Test.YthecapmdionnmaaW5
namespace Go.Proofs.Ythecapmdionnmaa
set_option linter.unusedVariables false
theorem LD_pos : 0 < LD := by decide
theorem FI_LD : FI = 2047 * LD := by decide

theorem amt_at {e m : Nat} (h : e = 0 ∨ LD ≤ m) (hm : m < 2 * LD) : amt (e * LD + m) = m * 2 ^ e := by
  have hL := LD_pos
  by_cases h1 : m < LD
  · obtain rfl : e = 0 := by omega
    rw [Nat.zero_mul, Nat.zero_add, amt_small h1, Nat.pow_zero, Nat.mul_one]
  · have e1 : e * LD + m = LD * (e + 1) + (m - LD) := by rw [Nat.mul_add, Nat.mul_comm e LD]; omega
    rw [amt_big (by omega), e1, Nat.mul_add_mod, Nat.mul_add_div hL, Nat.div_eq_of_lt (show m - LD < LD by omega), Nat.mod_eq_of_lt (show m - LD < LD by omega)]
    rw [show LD + (m - LD) = m by omega, Nat.add_zero, Nat.add_sub_cancel]
theorem amt_next {e m : Nat} (h : e = 0 ∨ LD ≤ m) (hm : m < 2 * LD) : amt (e * LD + m + 1) = (m + 1) * 2 ^ e := by
  have hL := LD_pos
  by_cases h1 : m + 1 < 2 * LD
  · rw [Nat.add_assoc, amt_at (by omega) h1]
  · have e1 : e * LD + m + 1 = LD * (e + 2) + 0 := by rw [Nat.mul_add, Nat.mul_comm e LD]; omega
    have e2 : m + 1 = LD * 2 := by omega
    have hle : LD * 1 ≤ LD * (e + 2) := Nat.mul_le_mul (Nat.le_refl _) (by omega)
    rw [amt_big (by omega), e1, e2, Nat.mul_add_mod, Nat.mul_add_div hL, Nat.zero_div, Nat.zero_mod, Nat.add_zero, Nat.add_zero]
    rw [show e + 2 - 1 = e + 1 by omega, Nat.pow_succ, Nat.mul_assoc, Nat.mul_comm 2]
theorem amt_FI {z : Nat} (hz : z = 2045) : amt FI = 2 * LD * 2 ^ z := by
  have := @amt_next z (2 * LD - 1) (Or.inr (by decide)) (by decide)
  rw [show 2 * LD - 1 + 1 = 2 * LD by decide] at this
  rw [← this]
  subst hz
  rfl

/-- k are the bits of the greatest finite float that is not above N / D (T: 2 to the 1074) -/
def Cut (T N D k : Nat) : Prop := k < FI ∧ amt k * D ≤ N * T ∧ (k + 1 = FI ∨ N * T < amt (k + 1) * D)
theorem Cut.uniq {T N D k l : Nat} (h : Cut T N D k) (g : Cut T N D l) : k = l := by
  have aux : ∀ {a b : Nat}, Cut T N D a → Cut T N D b → ¬ a < b := by
    intro a b h g hl
    rcases h.2.2 with e | e
    · have := g.1; omega
    · have h1 : amt (a + 1) * D ≤ amt b * D := Nat.mul_le_mul_right _ (amt_le hl)
      have := g.2.1
      omega
  have h1 := aux h g
  have h2 := aux g h
  omega
theorem Cut.nought {D : Nat} (T : Nat) (hD : 0 < D) : Cut T 0 D 0 := by
  refine ⟨by decide, by rw [amt_zero, Nat.zero_mul]; exact Nat.zero_le _, Or.inr ?_⟩
  rw [Nat.zero_mul, amt_small (show 0 + 1 < LD by decide)]
  omega

/-- what is left, by the way to the next float -/
def rst (T N D k : Nat) : Int := if N * T = amt k * D then 0 else 2 + cmpI (2 * (N * T)) ((amt k + amt (k + 1)) * D)
/-- does the nearest lie farther from 0? -/
def nup (T N D k : Nat) : Bool := decide (rst T N D k = 3 ∨ (rst T N D k = 2 ∧ k % 2 = 1))

structure Met (T N D k left U c : Nat) : Prop where
  lt : k < FI
  at_ : N * T = amt k * D + left * 2 ^ c
  next : amt (k + 1) * D = amt k * D + U * 2 ^ c
  less : left < U

theorem met {T z N D e m left : Nat} (hT : T = 2 ^ z) (he : e ≤ 2045) (h : e = 0 ∨ LD ≤ m) (hm : m < 2 * LD) (hl : left < D * 2 ^ (e - z)) (hW : N * 2 ^ (z - e) = m * (D * 2 ^ (e - z)) + left) :
    Met T N D (e * LD + m) left (D * 2 ^ (e - z)) (min e z) := by
  refine ⟨?_, ?_, ?_, hl⟩
  · rw [FI_LD]
    have : e * LD ≤ 2045 * LD := Nat.mul_le_mul_right _ he
    omega
  · rw [amt_at h hm, hT]
    by_cases hc : e ≤ z
    · obtain ⟨y, rfl⟩ : ∃ y, z = y + e := ⟨z - e, by omega⟩
      have e1 : e - (y + e) = 0 := by omega
      rw [e1, Nat.pow_zero, Nat.mul_one, Nat.add_sub_cancel] at hW
      rw [Nat.min_eq_left hc, Nat.pow_add, ← Nat.mul_assoc, hW, Nat.add_mul, Nat.mul_assoc m D, Nat.mul_comm D, Nat.mul_assoc]
    · have e1 : z - e = 0 := by omega
      rw [e1, Nat.pow_zero, Nat.mul_one] at hW
      rw [Nat.min_eq_right (by omega), hW, Nat.add_mul]
      have e2 : (2 : Nat) ^ e = 2 ^ (e - z) * 2 ^ z := by rw [← Nat.pow_add, show e - z + z = e by omega]
      rw [e2]
      generalize (2 : Nat) ^ (e - z) = a
      generalize (2 : Nat) ^ z = b
      grind
  · rw [amt_at h hm, amt_next h hm, Nat.add_mul, Nat.one_mul, Nat.add_mul, Nat.mul_assoc D, ← Nat.pow_add, show e - z + min e z = e by omega, Nat.mul_comm D]

theorem Met.cut {T N D k left U c : Nat} (h : Met T N D k left U c) : Cut T N D k := by
  refine ⟨h.lt, by rw [h.at_]; omega, Or.inr ?_⟩
  rw [h.at_, h.next]
  have := Nat.mul_lt_mul_of_pos_right h.less (Nat.two_pow_pos c)
  omega
theorem Met.is {T N D k left U c : Nat} (h : Met T N D k left U c) : (N * T = amt k * D) ↔ left = 0 := by
  rw [h.at_]
  have hp := Nat.two_pow_pos c
  constructor
  · intro e
    rcases Nat.mul_eq_zero.1 (show left * 2 ^ c = 0 by omega) with h | h
    · exact h
    · omega
  · rintro rfl; rw [Nat.zero_mul]; rfl
theorem Met.rst {T N D k left U c : Nat} (h : Met T N D k left U c) : rst T N D k = if left = 0 then 0 else 2 + cmpI (left + left) U := by
  unfold Go.Proofs.Ythecapmdionnmaa.rst
  by_cases h0 : left = 0
  · rw [if_pos h0, if_pos (h.is.2 h0)]
  · rw [if_neg h0, if_neg (fun e => h0 (h.is.1 e))]
    have hp := Nat.two_pow_pos c
    have e1 : 2 * (N * T) = 2 * (amt k * D) + (left + left) * 2 ^ c := by rw [h.at_, Nat.add_mul]; omega
    have e2 : (amt k + amt (k + 1)) * D = 2 * (amt k * D) + U * 2 ^ c := by rw [Nat.add_mul, h.next]; omega
    rw [e1, e2]
    rcases Nat.lt_trichotomy (left + left) U with g | g | g
    · have := Nat.mul_lt_mul_of_pos_right g hp
      rw [cmpI_lt g, cmpI_lt (by omega)]
    · rw [cmpI_eq g, g, cmpI_eq rfl]
    · have := Nat.mul_lt_mul_of_pos_right g hp
      rw [cmpI_gt g, cmpI_gt (by omega)]

/-- beyond the greatest -/
theorem far_cut {T z y N D : Nat} (hT : T = 2 ^ z) (hz : y + z = 2098) (hD : 0 < D) (h : D * 2 ^ y ≤ N) : Cut T N D (FI - 1) ∧ rst T N D (FI - 1) = 3 ∧ amt FI * D ≤ N * T := by
  have hb : amt FI * D ≤ N * T := by
    obtain ⟨u, hu⟩ : ∃ u, u = 2045 := ⟨_, rfl⟩
    rw [amt_FI hu]
    have h1 := Nat.mul_le_mul_right T h
    have e : 2 * LD * 2 ^ u * D = D * 2 ^ y * T := by
      rw [hT, Nat.mul_assoc D, ← Nat.pow_add, LD_eq, show 2 * 2 ^ 52 = 2 ^ 53 by decide, ← Nat.pow_add, Nat.mul_comm, show 53 + u = y + z by omega]
    omega
  have hl : amt (FI - 1) < amt FI := amt_lt (by decide)
  have hl2 := Nat.mul_lt_mul_of_pos_right hl hD
  have hF : FI - 1 + 1 = FI := by decide
  refine ⟨⟨by decide, by omega, Or.inl hF⟩, ?_, hb⟩
  unfold rst
  rw [if_neg (by omega), hF, cmpI_gt]
  · rfl
  · rw [Nat.add_mul]; omega
theorem rst_rng (T N D k : Nat) : 0 ≤ rst T N D k ∧ rst T N D k ≤ 3 := by
  unfold rst cmpI
  split
  · omega
  · split
    · omega
    · split <;> omega
theorem rst_zero {T N D k : Nat} : rst T N D k = 0 ↔ N * T = amt k * D := by
  unfold rst cmpI
  constructor
  · intro h
    split at h
    · assumption
    · split at h
      · omega
      · split at h <;> omega
  · intro h; rw [if_pos h]
/-- N / D by 2 to the e - z, downwards -/
def quo (z N D e : Nat) : Nat := N * 2 ^ (z - e) / (D * 2 ^ (e - z))
def lef (z N D e : Nat) : Nat := N * 2 ^ (z - e) % (D * 2 ^ (e - z))
theorem up_pos {D : Nat} (hD : 0 < D) (e : Nat) : 0 < D * 2 ^ e := Nat.mul_pos hD (Nat.two_pow_pos e)
theorem quo_eq (z N D e : Nat) : N * 2 ^ (z - e) = quo z N D e * (D * 2 ^ (e - z)) + lef z N D e := by
  unfold quo lef
  have := Nat.div_add_mod (N * 2 ^ (z - e)) (D * 2 ^ (e - z))
  rw [Nat.mul_comm] at this
  exact this.symm
theorem lef_lt {D : Nat} (hD : 0 < D) (z N e : Nat) : lef z N D e < D * 2 ^ (e - z) := Nat.mod_lt _ (up_pos hD _)
theorem quo_succ (z N D e : Nat) : quo z N D (e + 1) = quo z N D e / 2 := by
  unfold quo
  by_cases h : e < z
  · obtain ⟨y, rfl⟩ : ∃ y, z = e + 1 + y := ⟨z - e - 1, by omega⟩
    rw [show e + 1 + y - (e + 1) = y by omega, show e + 1 - (e + 1 + y) = 0 by omega, show e + 1 + y - e = y + 1 by omega, show e - (e + 1 + y) = 0 by omega, Nat.pow_zero, Nat.mul_one, Nat.div_div_eq_div_mul, Nat.pow_succ, ← Nat.mul_assoc, Nat.mul_div_mul_right _ _ (by omega)]
  · rw [show z - (e + 1) = 0 by omega, show z - e = 0 by omega, show e + 1 - z = e - z + 1 by omega, Nat.div_div_eq_div_mul, Nat.pow_succ, Nat.mul_assoc D]
theorem quo_lt {z N D e a b t : Nat} (hN : N < 2 ^ a) (hD : 2 ^ (b - 1) ≤ D) (hb : 0 < b) (h : a + z ≤ t + b - 1 + e) : quo z N D e < 2 ^ t := by
  unfold quo
  have hp : 0 < D := Nat.lt_of_lt_of_le (Nat.two_pow_pos _) hD
  rw [Nat.div_lt_iff_lt_mul (up_pos hp _)]
  calc N * 2 ^ (z - e) < 2 ^ a * 2 ^ (z - e) := Nat.mul_lt_mul_of_pos_right hN (Nat.two_pow_pos _)
    _ = 2 ^ (a + (z - e)) := (Nat.pow_add ..).symm
    _ ≤ 2 ^ (t + (b - 1 + (e - z))) := Nat.pow_le_pow_right (by omega) (by omega)
    _ = 2 ^ t * (2 ^ (b - 1) * 2 ^ (e - z)) := by rw [Nat.pow_add, Nat.pow_add]
    _ ≤ 2 ^ t * (D * 2 ^ (e - z)) := Nat.mul_le_mul_left _ (Nat.mul_le_mul_right _ hD)
theorem quo_ge {z N D e a b t : Nat} (hN : 2 ^ (a - 1) ≤ N) (ha : 0 < a) (hD : D < 2 ^ b) (h0 : 0 < D) (h : t + b + e ≤ a - 1 + z) : 2 ^ t ≤ quo z N D e := by
  unfold quo
  rw [Nat.le_div_iff_mul_le (up_pos h0 _)]
  calc 2 ^ t * (D * 2 ^ (e - z)) ≤ 2 ^ t * (2 ^ b * 2 ^ (e - z)) := Nat.mul_le_mul_left _ (Nat.mul_le_mul_right _ (Nat.le_of_lt hD))
    _ = 2 ^ (t + (b + (e - z))) := by rw [Nat.pow_add, Nat.pow_add]
    _ ≤ 2 ^ (a - 1 + (z - e)) := Nat.pow_le_pow_right (by omega) (by omega)
    _ = 2 ^ (a - 1) * 2 ^ (z - e) := Nat.pow_add ..
    _ ≤ N * 2 ^ (z - e) := Nat.mul_le_mul_right _ hN
/-- so great that it is beyond all floats -/
theorem quo_far {z N D e y t : Nat} (hD : 0 < D) (hq : 2 ^ t ≤ quo z N D e) (h : y + z ≤ t + e) : D * 2 ^ y ≤ N := by
  unfold quo at hq
  rw [Nat.le_div_iff_mul_le (up_pos hD _)] at hq
  refine Nat.le_of_mul_le_mul_right (Nat.le_trans ?_ hq) (Nat.two_pow_pos (z - e))
  calc D * 2 ^ y * 2 ^ (z - e) = D * 2 ^ (y + (z - e)) := by rw [Nat.mul_assoc, Nat.pow_add]
    _ ≤ D * 2 ^ (t + (e - z)) := Nat.mul_le_mul_left _ (Nat.pow_le_pow_right (by omega) (by omega))
    _ = 2 ^ t * (D * 2 ^ (e - z)) := by rw [Nat.pow_add, ← Nat.mul_assoc, ← Nat.mul_assoc, Nat.mul_comm D]
theorem far_of {N D a b y : Nat} (hN : 2 ^ (a - 1) ≤ N) (hD : D < 2 ^ b) (h : b + y ≤ a - 1) : D * 2 ^ y ≤ N := by
  calc D * 2 ^ y ≤ 2 ^ b * 2 ^ y := Nat.mul_le_mul_right _ (Nat.le_of_lt hD)
    _ = 2 ^ (b + y) := (Nat.pow_add ..).symm
    _ ≤ 2 ^ (a - 1) := Nat.pow_le_pow_right (by omega) h
    _ ≤ N := hN
theorem met_quo {T z N D e : Nat} (hT : T = 2 ^ z) (hD : 0 < D) (he : e ≤ 2045) (h : e = 0 ∨ LD ≤ quo z N D e) (hm : quo z N D e < 2 * LD) :
    Met T N D (e * LD + quo z N D e) (lef z N D e) (D * 2 ^ (e - z)) (min e z) := met hT he h hm (lef_lt hD _ _ _) (quo_eq _ _ _ _)
/-- nearer to 0 than the least float -/
theorem tiny_cut {T z N D a b : Nat} (hT : T = 2 ^ z) (hN : N < 2 ^ a) (h0 : N ≠ 0) (hD : 2 ^ (b - 1) ≤ D) (h : a + z ≤ b - 1) : Cut T N D 0 ∧ N * T ≠ amt 0 * D := by
  have h1 : N * T < D := by
    rw [hT]
    calc N * 2 ^ z < 2 ^ a * 2 ^ z := Nat.mul_lt_mul_of_pos_right hN (Nat.two_pow_pos _)
      _ = 2 ^ (a + z) := (Nat.pow_add ..).symm
      _ ≤ 2 ^ (b - 1) := Nat.pow_le_pow_right (by omega) h
      _ ≤ D := hD
  refine ⟨⟨by decide, by rw [amt_zero, Nat.zero_mul]; exact Nat.zero_le _, Or.inr ?_⟩, ?_⟩
  · rw [amt_small (show 0 + 1 < LD by decide)]; omega
  · rw [amt_zero, Nat.zero_mul]
    have : 0 < N * T := Nat.mul_pos (by omega) (by rw [hT]; exact Nat.two_pow_pos _)
    omega
end Go.Proofs.Ythecapmdionnmaa
