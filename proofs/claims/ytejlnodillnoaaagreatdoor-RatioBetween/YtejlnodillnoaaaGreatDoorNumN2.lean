import Derived.Test.YtejlnodillnoaaaGreatDoorNumZ
set_option linter.unusedSimpArgs false
namespace Go.Proofs.YtejlnodillnoaaaGreatDoor
set_option linter.unusedVariables false
def sbm (a b c d : Int) : Nat := (2 * (a + b + c + d)).toNat + if a < b then 1 else 0
structure Sb (a b c d : Int) : Prop where
  a0 : 0 ≤ a
  b0 : 0 < b
  c0 : 0 < c
  d0 : 0 ≤ d
  lt : a * d < c * b
theorem Sb.more {a b c d : Int} (h : Sb a b c d) : 0 < c - a / b * d := by
  have h1 : a / b * b ≤ a := Int.ediv_mul_le a (by have := h.b0; omega)
  have h2 : a / b * b * d ≤ a * d := Int.mul_le_mul_of_nonneg_right h1 h.d0
  have h3 : a / b * d * b < c * b := by
    have e : a / b * d * b = a / b * b * d := by grind
    have := h.lt
    omega
  have h4 := Int.lt_of_mul_lt_mul_right h3 (Int.le_of_lt h.b0)
  omega
theorem Sb.next {a b c d : Int} (h : Sb a b c d) (hn : ¬ (a / b + 1) * d < c) : Sb d (c - a / b * d) b (a % b) := by
  have hm := Int.emod_nonneg a (by have := h.b0; omega : b ≠ 0)
  refine ⟨h.d0, h.more, h.b0, hm, ?_⟩
  have e := Int.emod_add_mul_ediv a b
  have hl := h.lt
  generalize a / b = q at *
  generalize a % b = m at *
  subst e
  have e2 : b * (c - q * d) = c * b - b * q * d := by grind
  have e3 : (m + b * q) * d = d * m + b * q * d := by grind
  omega
theorem Sb.less {a b c d : Int} (h : Sb a b c d) (hn : ¬ (a / b + 1) * d < c) : sbm d (c - a / b * d) b (a % b) < sbm a b c d := by
  have k := h.next hn
  obtain ⟨h1, h2, h3, h4, h5⟩ := h
  have hq : 0 ≤ a / b := Int.ediv_nonneg h1 (by omega)
  have hm := Int.emod_lt_of_pos a h2
  have e := Int.emod_add_mul_ediv a b
  obtain ⟨k1, k2, k3, k4, _⟩ := k
  unfold sbm
  rcases Int.lt_or_le 0 (a / b) with hp | hp
  · have h6 : d ≤ a / b * d := by
      have := Int.mul_le_mul_of_nonneg_right (show (1 : Int) ≤ a / b by omega) h4
      omega
    have h7 : b ≤ b * (a / b) := by
      have := Int.mul_le_mul_of_nonneg_left (show (1 : Int) ≤ a / b by omega) (Int.le_of_lt h2)
      omega
    split <;> split <;> omega
  · have h0 : a / b = 0 := by omega
    rw [h0] at hn e k2 ⊢
    simp only [Int.zero_mul, Int.sub_zero, Int.zero_add, Int.one_mul, Int.mul_zero, Int.add_zero] at hn e k2 ⊢
    rw [if_neg (by omega), if_pos (by omega)]
    omega
def sbl : Nat → Int → Int → Int → Int → List Int
  | 0, _, _, _, _ => []
  | n + 1, a, b, c, d => if (a / b + 1) * d < c then [a / b + 1] else a / b :: sbl n d (c - a / b * d) b (a % b)
structure Sbt (a b c d P Q : Int) : Prop where
  p0 : 0 < P
  q0 : 0 < Q
  lo : a * Q < P * b
  hi : P * d < c * Q
  least : ∀ P' Q', 0 < Q' → a * Q' < P' * b → P' * d < c * Q' → P ≤ P' ∧ Q ≤ Q'
theorem Sb.end {a b c d : Int} (h : Sb a b c d) (hn : (a / b + 1) * d < c) : Sbt a b c d (a / b + 1) 1 := by
  obtain ⟨h1, h2, h3, h4, h5⟩ := h
  have hq : 0 ≤ a / b := Int.ediv_nonneg h1 (by omega)
  have hm := Int.emod_lt_of_pos a h2
  have hm0 := Int.emod_nonneg a (by omega : b ≠ 0)
  have e := Int.emod_add_mul_ediv a b
  refine ⟨by omega, by omega, ?_, by omega, fun P' Q' hQ hl _ => ⟨?_, by omega⟩⟩
  · have : (a / b + 1) * b = b * (a / b) + b := by grind
    omega
  · have h6 : a / b * b ≤ a * Q' := by
      have h7 : a * 1 ≤ a * Q' := Int.mul_le_mul_of_nonneg_left (by omega) h1
      have h8 : a / b * b = b * (a / b) := Int.mul_comm _ _
      omega
    have h9 := Int.lt_of_mul_lt_mul_right (show a / b * b < P' * b by omega) (by omega : 0 ≤ b)
    omega
theorem Sb.step {a b c d p q : Int} (h : Sb a b c d) (k : Sbt d (c - a / b * d) b (a % b) p q) : Sbt a b c d (a / b * p + q) p := by
  obtain ⟨h1, h2, h3, h4, h5⟩ := h
  have hq : 0 ≤ a / b := Int.ediv_nonneg h1 (by omega)
  have hm0 := Int.emod_nonneg a (by omega : b ≠ 0)
  have e := Int.emod_add_mul_ediv a b
  obtain ⟨k1, k2, k3, k4, k5⟩ := k
  generalize a / b = f at *
  generalize a % b = m at *
  subst e
  have hfp : 0 ≤ f * p := Int.mul_nonneg hq (by omega)
  refine ⟨by omega, k1, ?_, ?_, fun P' Q' hQ hl hh => ?_⟩
  · have e1 : (m + b * f) * p = p * m + b * f * p := by grind
    have e2 : (f * p + q) * b = b * q + b * f * p := by grind
    omega
  · have e1 : (f * p + q) * d = d * q + f * d * p := by grind
    have e2 : p * (c - f * d) = c * p - f * d * p := by grind
    omega
  · have g1 : f * Q' < P' := by
      have e1 : (m + b * f) * Q' = m * Q' + f * Q' * b := by grind
      have h6 : 0 ≤ m * Q' := Int.mul_nonneg hm0 (by omega)
      exact Int.lt_of_mul_lt_mul_right (show f * Q' * b < P' * b by omega) (by omega : 0 ≤ b)
    have g2 := k5 Q' (P' - f * Q') (by omega) (by
      have e1 : d * (P' - f * Q') = P' * d - f * d * Q' := by grind
      have e2 : Q' * (c - f * d) = c * Q' - f * d * Q' := by grind
      omega) (by
      have e1 : b * (P' - f * Q') = P' * b - b * f * Q' := by grind
      have e2 : (m + b * f) * Q' = Q' * m + b * f * Q' := by grind
      omega)
    refine ⟨?_, g2.1⟩
    have h6 : f * p ≤ f * Q' := Int.mul_le_mul_of_nonneg_left g2.1 hq
    omega
theorem sbl_is : ∀ (n : Nat) (a b c d : Int), Sb a b c d → sbm a b c d < n → Sbt a b c d (cpq (sbl n a b c d)).1 (cpq (sbl n a b c d)).2
  | 0, a, b, c, d, h, hn => absurd hn (by omega)
  | n + 1, a, b, c, d, h, hn => by
    by_cases hk : (a / b + 1) * d < c
    · have e : sbl (n + 1) a b c d = [a / b + 1] := by unfold sbl; rw [if_pos hk]
      rw [e]
      have := h.end hk
      simpa [cpq] using this
    · have e : sbl (n + 1) a b c d = a / b :: sbl n d (c - a / b * d) b (a % b) := by rw [sbl, if_neg hk]
      rw [e]
      have := h.step (sbl_is n _ _ _ _ (h.next hk) (by have := h.less hk; omega))
      simpa [cpq] using this
theorem Sbt.uniq {a b c d P Q P' Q' : Int} (h : Sbt a b c d P Q) (k : Sbt a b c d P' Q') : P = P' ∧ Q = Q' := by
  have h1 := h.least P' Q' k.q0 k.lo k.hi
  have h2 := k.least P Q h.q0 h.lo h.hi
  omega
theorem Sbt.small {a b c d P Q : Int} (h : Sbt a b c d P Q) (s : Sb a b c d) : P ≤ a + c ∧ Q ≤ b + d := by
  obtain ⟨h1, h2, h3, h4, h5⟩ := s
  refine h.least (a + c) (b + d) (by omega) ?_ ?_
  · have e1 : a * (b + d) = a * b + a * d := by grind
    have e2 : (a + c) * b = a * b + c * b := by grind
    omega
  · have e1 : (a + c) * d = a * d + c * d := by grind
    have e2 : c * (b + d) = c * b + c * d := by grind
    omega
structure Si (a b c d P Q : Int) : Prop where
  q0 : 0 < Q
  lo : a * Q < P * b
  hi : P * d < c * Q
  least : ∀ P' Q', 0 < Q' → a * Q' < P' * b → P' * d < c * Q' → Q < Q' ∨ Q = Q' ∧ P.natAbs ≤ P'.natAbs
theorem Si.uniq {a b c d P Q P' Q' : Int} (h : Si a b c d P Q) (k : Si a b c d P' Q') (hb : 0 < b) (hd : 0 < d) : P = P' ∧ Q = Q' := by
  have h1 := h.least P' Q' k.q0 k.lo k.hi
  have h2 := k.least P Q h.q0 h.lo h.hi
  obtain rfl : Q = Q' := by omega
  refine ⟨?_, rfl⟩
  have h3 : P.natAbs = P'.natAbs := by omega
  rcases Int.natAbs_eq_natAbs_iff.1 h3 with e | e
  · exact e
  · by_cases h0 : P = 0
    · omega
    · exfalso
      have hq := h.q0
      have h4 := h.least 0 1 (by omega)
      have hneg : a < 0 := by
        apply Int.lt_of_mul_lt_mul_right (a := Q) _ (by omega)
        have l1 := h.lo
        have l2 := k.lo
        rw [Int.zero_mul]
        rcases Int.lt_or_gt_of_ne h0 with hp | hp
        · have := Int.mul_neg_of_neg_of_pos hp hb
          omega
        · have := Int.mul_neg_of_neg_of_pos (show P' < 0 by omega) hb
          omega
      have hpos : 0 < c := by
        apply Int.lt_of_mul_lt_mul_right (a := Q) _ (by omega)
        have l1 := h.hi
        have l2 := k.hi
        rw [Int.zero_mul]
        rcases Int.lt_or_gt_of_ne h0 with hp | hp
        · have := Int.mul_pos (show 0 < P' by omega) hd
          omega
        · have := Int.mul_pos hp hd
          omega
      have := h4 (by omega) (by omega)
      omega
theorem Sbt.si {a b c d P Q : Int} (h : Sbt a b c d P Q) (ha : 0 ≤ a) (hb : 0 < b) : Si a b c d P Q :=
  ⟨h.q0, h.lo, h.hi, fun P' Q' hQ hl hh => by
    have := h.least P' Q' hQ hl hh
    have := h.p0
    omega⟩
theorem Si.neg {a b c d P Q : Int} (h : Si (-c) d (-a) b P Q) : Si a b c d (-P) Q := by
  obtain ⟨h1, h2, h3, h4⟩ := h
  rw [Int.neg_mul] at h2 h3
  refine ⟨h1, by rw [Int.neg_mul]; omega, by rw [Int.neg_mul]; omega, fun P' Q' hQ hl hh => ?_⟩
  have := h4 (-P') Q' hQ (by rw [Int.neg_mul, Int.neg_mul]; omega) (by rw [Int.neg_mul, Int.neg_mul]; omega)
  rw [Int.natAbs_neg] at this ⊢
  exact this
theorem Si.zero {a b c d : Int} (ha : a < 0) (hc : 0 < c) : Si a b c d 0 1 := ⟨by omega, by omega, by omega, fun P' Q' hQ _ _ => by
  rcases Int.lt_or_eq_of_le (show (1 : Int) ≤ Q' by omega) with h | h
  · exact Or.inl h
  · exact Or.inr ⟨h, by simp⟩⟩
theorem si_below {a b c d g : Int} (hb : 0 < b) (hd : 0 < d) (hc : c ≤ 0) (hn : (a / b + 1) * d < c) (hg : c ≤ g * d) (hg2 : (g - 1) * d < c) : Si a b c d (g - 1) 1 := by
  have hm := Int.emod_lt_of_pos a hb
  have e := Int.emod_add_mul_ediv a b
  have h1 : a / b + 1 < g := Int.lt_of_mul_lt_mul_right (show (a / b + 1) * d < g * d by omega) (by omega)
  have hg0 : g - 1 < 0 := by
    by_cases h : g - 1 < 0
    · exact h
    · have := Int.mul_nonneg (show (0 : Int) ≤ g - 1 by omega) (Int.le_of_lt hd)
      omega
  refine ⟨by omega, ?_, by omega, fun P' Q' hQ hl hh => ?_⟩
  · have h2 : (a / b + 1) * b ≤ (g - 1) * b := Int.mul_le_mul_of_nonneg_right (by omega) (by omega)
    have : (a / b + 1) * b = b * (a / b) + b := by grind
    omega
  · rcases Int.lt_or_eq_of_le (show (1 : Int) ≤ Q' by omega) with h | h
    · exact Or.inl h
    · refine Or.inr ⟨h, ?_⟩
      subst h
      have h3 : P' < g := Int.lt_of_mul_lt_mul_right (show P' * d < g * d by omega) (by omega)
      omega
theorem si_shift {a b c d f r q : Int} (hb : 0 < b) (hd : 0 < d) (hf : f < 0) (ha : f * b ≤ a) (hc : c ≤ (f + 1) * d) (h : Sbt (a - f * b) b (c - f * d) d r q) : Si a b c d (f * q + r) q := by
  obtain ⟨h1, h2, h3, h4, h5⟩ := h
  have e0 : (f + 1) * d = f * d + d := by grind
  have hr : r < q := by
    apply Int.lt_of_mul_lt_mul_right (a := d) _ (by omega)
    have h6 : (c - f * d) * q ≤ d * q := Int.mul_le_mul_of_nonneg_right (by omega) (by omega)
    have : q * d = d * q := Int.mul_comm _ _
    omega
  have key : ∀ P' Q', a * Q' < P' * b → P' * d < c * Q' → (a - f * b) * Q' < (P' - f * Q') * b ∧ (P' - f * Q') * d < (c - f * d) * Q' := fun P' Q' hl hh => by
    have e1 : (a - f * b) * Q' = a * Q' - f * Q' * b := by grind
    have e2 : (P' - f * Q') * b = P' * b - f * Q' * b := by grind
    have e3 : (P' - f * Q') * d = P' * d - f * Q' * d := by grind
    have e4 : (c - f * d) * Q' = c * Q' - f * Q' * d := by grind
    omega
  refine ⟨h2, ?_, ?_, fun P' Q' hQ hl hh => ?_⟩
  · have e1 : (a - f * b) * q = a * q - f * q * b := by grind
    have e2 : (f * q + r) * b = r * b + f * q * b := by grind
    omega
  · have e3 : (f * q + r) * d = r * d + f * q * d := by grind
    have e4 : (c - f * d) * q = c * q - f * q * d := by grind
    omega
  · obtain ⟨k1, k2⟩ := key P' Q' hl hh
    have k3 := h5 _ _ hQ k1 k2
    rcases Int.lt_or_eq_of_le k3.2 with h | h
    · exact Or.inl h
    · refine Or.inr ⟨h, ?_⟩
      subst h
      -- the amount of P' is no less: else there were one with a lesser denominator
      have hle : P' ≤ f * q + r := by
        rcases Int.lt_or_le (f * q + r) P' with hx | hx
        · exfalso
          have hx2 : r + 1 ≤ P' - f * q := by omega
          have hq2 : P' - f * q < q := by
            apply Int.lt_of_mul_lt_mul_right (a := d) _ (by omega)
            have h6 : (c - f * d) * q ≤ d * q := Int.mul_le_mul_of_nonneg_right (by omega) (by omega)
            have : q * d = d * q := Int.mul_comm _ _
            omega
          have k4 := h5 r (q - 1) (by omega) (by
            have h7 : 0 ≤ a - f * b := by omega
            have e1 : (a - f * b) * (q - 1) = (a - f * b) * q - (a - f * b) := by grind
            omega) (by
            -- r / (q - 1) is below (r + 1) / q, which is at most P' / q
            apply Int.lt_of_mul_lt_mul_right (a := q) _ (by omega)
            have h8 : (P' - f * q) * d * (q - 1) < (c - f * d) * q * (q - 1) := Int.mul_lt_mul_of_pos_right k2 (by omega)
            have h9 : r * q < (r + 1) * (q - 1) := by
              have : (r + 1) * (q - 1) = r * q - r + q - 1 := by grind
              omega
            have h10 : (r + 1) * (q - 1) ≤ (P' - f * q) * (q - 1) := Int.mul_le_mul_of_nonneg_right hx2 (by omega)
            have h11 : r * q * d < (P' - f * q) * (q - 1) * d := Int.mul_lt_mul_of_pos_right (by omega) hd
            have e5 : r * d * q = r * q * d := by grind
            have e6 : (P' - f * q) * d * (q - 1) = (P' - f * q) * (q - 1) * d := by grind
            have e7 : (c - f * d) * (q - 1) * q = (c - f * d) * q * (q - 1) := by grind
            omega)
          omega
        · exact hx
      have hneg : f * q + r < 0 := by
        have : f * q ≤ -1 * q := Int.mul_le_mul_of_nonneg_right (by omega) (by omega)
        omega
      omega
end Go.Proofs.YtejlnodillnoaaaGreatDoor
