/-
  No float is nearer: distances as the law reckons them.
-/
import Derived.Test.YticdpbkbnflgbaaWFO
import Derived.Test.YticdpbkbnflgbaaWFC
namespace Go.Proofs.Yticdpbkbnflgbaa
open Go.RowKit
set_option linter.unusedVariables false

theorem near_core {a lo hi u : Int} {r : Int} {k j : Nat} {up : Bool} (h1 : lo ≤ a) (h2 : lo < hi)
    (hr : (r = 0 ∧ a = lo) ∨ (r ≠ 0 ∧ a ≠ lo ∧ ((r = 1 ∧ 2 * a < lo + hi) ∨ (r = 2 ∧ 2 * a = lo + hi) ∨ (r = 3 ∧ lo + hi < 2 * a))))
    (hup : up = true ↔ (r = 3 ∨ (r = 2 ∧ k % 2 = 1))) (hj : j = if up then k + 1 else k) (hu : u ≤ lo ∨ (hi ≤ u ∧ a < hi)) (ha : up = true → a < hi) :
    ((if up then hi else lo) - a).natAbs < (u - a).natAbs ∨ (((if up then hi else lo) - a).natAbs = (u - a).natAbs ∧ (u = (if up then hi else lo) ∨ j % 2 = 0)) := by
  cases up
  · have hn : ¬ (r = 3 ∨ (r = 2 ∧ k % 2 = 1)) := fun h => absurd (hup.2 h) (by decide)
    simp only [Bool.false_eq_true, if_false] at hj ⊢
    subst hj
    omega
  · have hn := hup.1 rfl
    have := ha rfl
    simp only [if_true] at hj ⊢
    subst hj
    omega
theorem rst_parts {T N D k : Nat} : (rst T N D k = 0 ∧ (N * T : Int) = (amt k : Int) * D) ∨ (rst T N D k ≠ 0 ∧ (N * T : Int) ≠ (amt k : Int) * D ∧ ((rst T N D k = 1 ∧ 2 * (N * T : Int) < (amt k : Int) * D + (amt (k + 1) : Int) * D) ∨ (rst T N D k = 2 ∧ 2 * (N * T : Int) = (amt k : Int) * D + (amt (k + 1) : Int) * D) ∨ (rst T N D k = 3 ∧ (amt k : Int) * D + (amt (k + 1) : Int) * D < 2 * (N * T : Int)))) := by
  have c1 : ((N * T : Nat) : Int) = (N : Int) * T := Int.natCast_mul ..
  have c2 : ((amt k * D : Nat) : Int) = (amt k : Int) * D := Int.natCast_mul ..
  have c3 : ((amt (k + 1) * D : Nat) : Int) = (amt (k + 1) : Int) * D := Int.natCast_mul ..
  rw [← c1, ← c2, ← c3]
  have e : (amt k + amt (k + 1)) * D = amt k * D + amt (k + 1) * D := Nat.add_mul ..
  unfold rst
  rw [e]
  generalize N * T = a
  generalize amt k * D = lo
  generalize amt (k + 1) * D = hi
  by_cases h : a = lo
  · rw [if_pos h]; exact Or.inl ⟨rfl, by omega⟩
  · rw [if_neg h]
    right
    unfold cmpI
    split
    · exact ⟨by omega, by omega, Or.inl ⟨rfl, by omega⟩⟩
    · split
      · exact ⟨by omega, by omega, Or.inr (Or.inl ⟨rfl, by omega⟩)⟩
      · exact ⟨by omega, by omega, Or.inr (Or.inr ⟨rfl, by omega⟩)⟩
theorem near_pos {T N D k j m : Nat} {v : Int} (hD : 0 < D) (C : Cut T N D k) (hj : j = if nup T N D k then k + 1 else k) (hjF : j < FI) (hm : m < FI) (hv : v = (amt m : Int) ∨ v = -(amt m : Int)) :
    ((amt j : Int) * D - N * T).natAbs < (v * D - N * T).natAbs ∨ (((amt j : Int) * D - N * T).natAbs = (v * D - N * T).natAbs ∧ (v = (amt j : Int) ∨ j % 2 = 0)) := by
  have hD' : (0 : Int) < D := by omega
  have h1 : (amt k : Int) * D ≤ N * T := by
    have c1 : ((N * T : Nat) : Int) = (N : Int) * T := Int.natCast_mul ..
    have c2 : ((amt k * D : Nat) : Int) = (amt k : Int) * D := Int.natCast_mul ..
    have := C.2.1
    omega
  have h3 : k + 1 < FI → (N * T : Int) < (amt (k + 1) : Int) * D := fun h => by
    have c1 : ((N * T : Nat) : Int) = (N : Int) * T := Int.natCast_mul ..
    have c2 : ((amt (k + 1) * D : Nat) : Int) = (amt (k + 1) : Int) * D := Int.natCast_mul ..
    have := C.2.2.resolve_left (by omega)
    omega
  have h2 : (amt k : Int) * D < (amt (k + 1) : Int) * D := Int.mul_lt_mul_of_pos_right (by have := amt_lt (show k < k + 1 by omega); omega) hD'
  have hu : v * D ≤ (amt k : Int) * D ∨ ((amt (k + 1) : Int) * D ≤ v * D ∧ (N * T : Int) < (amt (k + 1) : Int) * D) := by
    rcases hv with rfl | rfl
    · by_cases hmk : m ≤ k
      · exact Or.inl (Int.mul_le_mul_of_nonneg_right (by have := amt_le hmk; omega) (by omega))
      · exact Or.inr ⟨Int.mul_le_mul_of_nonneg_right (by have := amt_le (show k + 1 ≤ m by omega); omega) (by omega), h3 (by omega)⟩
    · exact Or.inl (Int.mul_le_mul_of_nonneg_right (by omega) (by omega))
  have hup : nup T N D k = true ↔ (rst T N D k = 3 ∨ (rst T N D k = 2 ∧ k % 2 = 1)) := by unfold nup; rw [decide_eq_true_iff]
  have hc := near_core h1 h2 rst_parts hup hj hu (fun h => by rw [h, if_pos rfl] at hj; exact h3 (by omega))
  have e : (if nup T N D k = true then (amt (k + 1) : Int) * D else (amt k : Int) * D) = (amt j : Int) * D := by
    rw [hj]; split <;> rfl
  rw [e] at hc
  rcases hc with g | ⟨g, g2⟩
  · exact Or.inl g
  · refine Or.inr ⟨g, ?_⟩
    rcases g2 with g2 | g2
    · exact Or.inl (Int.eq_of_mul_eq_mul_right (by omega) g2)
    · exact Or.inr g2
theorem fv_key {b c : Nat} (h : fv b = fv c) : fkey b = fkey c := by
  have e : ∀ x, fv x = sgd (fneg x) (amt (x % SB)) := fun x => rfl
  have k : ∀ x, fkey x = sgd (fneg x) (x % SB) := fun x => rfl
  have h1 := sgd_lt (fneg b) (fneg c) (b % SB) (c % SB)
  have h2 := sgd_lt (fneg c) (fneg b) (c % SB) (b % SB)
  rw [e, e] at h
  rw [k, k]
  omega
theorem fv_fB' {s : Bool} {k : Nat} (h : k ≤ FI) : fv (fB s k) = sg s (amt k) := by
  unfold fv; rw [fB_neg h, fB_mod h]
/-- no float is nearer -/
theorem near_all {T : Nat} {s : Bool} {X Y k c : Nat} (C : Cut T (rN X Y) (rd Y) k) (hf : nearB T s X Y k % SB < FI) (hc : c % SB < FI) :
    (fv (nearB T s X Y k) * ((rd Y : Nat) : Int) - rn s X Y * (T : Int)).natAbs < (fv c * ((rd Y : Nat) : Int) - rn s X Y * (T : Int)).natAbs ∨
    ((fv (nearB T s X Y k) * ((rd Y : Nat) : Int) - rn s X Y * (T : Int)).natAbs = (fv c * ((rd Y : Nat) : Int) - rn s X Y * (T : Int)).natAbs ∧ (fkey (nearB T s X Y k) = fkey c ∨ nearB T s X Y k % 2 = 0)) := by
  have hk := C.1
  have ha : am (rn s X Y) = rN X Y := rN_am s X Y
  have hD := rd_pos Y
  obtain ⟨j, hj⟩ : ∃ j, j = if nup T (rN X Y) (rd Y) k then k + 1 else k := ⟨_, rfl⟩
  have hn : nearB T s X Y k = fB (decide (rn s X Y < 0)) j := by unfold nearB; rw [hj]
  have hjF : j ≤ FI := by rw [hj]; split <;> omega
  rw [hn, fB_mod hjF] at hf
  rw [hn]
  have hcv : fv c = sg (fneg c) (amt (c % SB)) := rfl
  have hpar : fB (decide (rn s X Y < 0)) j % 2 = j % 2 := by
    unfold fB; rw [SBv]; split <;> omega
  rw [hpar]
  have hkey : fv c = fv (fB (decide (rn s X Y < 0)) j) → fkey (fB (decide (rn s X Y < 0)) j) = fkey c := fun h => (fv_key h).symm
  rw [fv_fB' hjF] at hkey ⊢
  generalize rn s X Y = A at ha hkey ⊢
  generalize rN X Y = N at ha C hj
  generalize rd Y = D at C hD hj ⊢
  generalize fB (decide (A < 0)) j = B at hkey ⊢
  by_cases hA : A < 0
  · have hAN : A = -(N : Int) := by unfold am at ha; omega
    have hv : -(fv c) = (amt (c % SB) : Int) ∨ -(fv c) = -(amt (c % SB) : Int) := by rw [hcv]; unfold sg; split <;> omega
    have := near_pos hD C hj hf hc hv
    rw [decide_eq_true hA] at hkey ⊢
    have e1 : (sg true (amt j) * (D : Int) - A * (T : Int)).natAbs = ((amt j : Int) * D - N * T).natAbs := by
      rw [← Int.natAbs_neg]; congr 1; rw [hAN]; simp only [sg, if_true]; grind
    have e2 : (fv c * (D : Int) - A * (T : Int)).natAbs = (-(fv c) * D - N * T).natAbs := by
      rw [← Int.natAbs_neg]; congr 1; rw [hAN]; grind
    rw [e1, e2]
    rcases this with g | ⟨g, g2⟩
    · exact Or.inl g
    · refine Or.inr ⟨g, ?_⟩
      rcases g2 with g2 | g2
      · exact Or.inl (hkey (by simp only [sg, if_true]; omega))
      · exact Or.inr g2
  · have hAN : A = (N : Int) := by unfold am at ha; omega
    have hv : fv c = (amt (c % SB) : Int) ∨ fv c = -(amt (c % SB) : Int) := by rw [hcv]; unfold sg; split <;> omega
    have := near_pos hD C hj hf hc hv
    rw [decide_eq_false hA] at hkey ⊢
    rw [hAN]
    simp only [sg, Bool.false_eq_true, if_false] at hkey ⊢
    rcases this with g | ⟨g, g2⟩
    · exact Or.inl g
    · refine Or.inr ⟨g, ?_⟩
      rcases g2 with g2 | g2
      · exact Or.inl (hkey g2)
      · exact Or.inr g2
end Go.Proofs.Yticdpbkbnflgbaa

namespace Go.Proofs.Yticdpbkbnflgbaa
open Go.RowKit
set_option linter.unusedVariables false

/-- the distance of two numbers, and which is less -/
theorem dist_cmp {P : Int} {x y Z V1 : Int} {Z3 Z6 : Int} {V3 V6 : Nat} (h3 : Low ((x.natAbs : Nat) : Int) P Z3 V3) (h6 : Low ((y.natAbs : Nat) : Int) P Z6 V6) (hP : 0 < P) : sgn (rn (ng Z3) (am Z3) V3 * ((rd V6 : Nat) : Int) - rn (ng Z6) (am Z6) V6 * ((rd V3 : Nat) : Int)) = sgn ((x.natAbs : Int) - (y.natAbs : Int)) := by
  have p3 := h3.pos
  have p6 := h6.pos
  rw [rn_nf p3, rn_nf p6, rd_nf p3, rd_nf p6]
  have e3 := h3.eq
  have e6 := h6.eq
  have a := sgn_mul_pos (a := Z3 * (V6 : Int) - Z6 * (V3 : Int)) hP
  have b := sgn_mul_pos (a := (x.natAbs : Int) - (y.natAbs : Int)) (b := (V3 : Int) * (V6 : Int)) (Int.mul_pos (by omega) (by omega))
  rw [← a, ← b]
  congr 1
  grind
/-- what is too great -/
theorem over_all {T : Nat} {s : Bool} {X Y k : Nat} (C : Cut T (rN X Y) (rd Y) k) (hf : ¬ nearB T s X Y k % SB < FI) : nearB T s X Y k = fB (decide (rn s X Y < 0)) FI ∧ k + 1 = FI ∧ rst T (rN X Y) (rd Y) k ≠ 0 ∧ rn s X Y ≠ 0 := by
  have hk := C.1
  unfold nearB at hf ⊢
  by_cases hu : nup T (rN X Y) (rd Y) k = true
  · rw [if_pos hu] at hf ⊢
    rw [fB_mod (by omega)] at hf
    have e : k + 1 = FI := by omega
    have hr : rst T (rN X Y) (rd Y) k ≠ 0 := by unfold nup at hu; rw [decide_eq_true_iff] at hu; omega
    refine ⟨by rw [e], e, hr, fun h => hr ?_⟩
    have h2 := rN_am s X Y
    rw [h] at h2
    have h3 : rN X Y = 0 := by rw [← h2]; rfl
    rw [h3] at C ⊢
    have h4 := C.2.1
    rw [rst_zero]
    omega
  · rw [if_neg hu, fB_mod (by omega)] at hf
    exact absurd hk hf
theorem up_over {T : Nat} {X Y k k2 : Nat} {A ZA : Int} {VA : Nat} (hA : am A = rN X Y) (C : Cut T (rN X Y) (rd Y) k) (hk : k + 1 = FI) (hr : rst T (rN X Y) (rd Y) k ≠ 0) (hL : Low ((am A : Nat) : Int) ((rd Y : Nat) : Int) ZA VA) (C2 : Cut T (rN (am ZA) VA) (rd VA) k2) : upB T (ng ZA) (am ZA) VA k2 = FI := by
  have p := hL.pos
  have e := hL.eq
  have pY := rd_pos Y
  have e1 : rN (am ZA) VA = am ZA := rN_of (by omega)
  have e2 : rd VA = VA := rd_nf p
  have hZ : 0 ≤ ZA := by
    refine Int.le_of_not_gt fun g => ?_
    have h1 := Int.mul_neg_of_neg_of_pos g (show (0 : Int) < ((rd Y : Nat) : Int) by omega)
    have h2 := Int.mul_nonneg (show (0 : Int) ≤ ((am A : Nat) : Int) by omega) (show (0 : Int) ≤ (VA : Int) by omega)
    omega
  have hN : am ZA * rd Y = rN X Y * VA := by
    have h1 : ((am ZA : Nat) : Int) = ZA := by unfold am; omega
    have : ((am ZA * rd Y : Nat) : Int) = ((am A * VA : Nat) : Int) := by rw [Int.natCast_mul, Int.natCast_mul, h1]; exact e
    rw [hA] at this
    omega
  rw [e1, e2] at C2
  have a := cut_mono pY p (by omega) C C2
  have b := cut_mono p pY (by omega) C2 C
  obtain ⟨rfl, hrr⟩ : k = k2 ∧ rst T (rN X Y) (rd Y) k = rst T (am ZA) VA k2 := by
    rcases a with a | ⟨a, a'⟩ <;> rcases b with b | ⟨b, b'⟩
    · omega
    · omega
    · omega
    · exact ⟨a, by omega⟩
  unfold upB
  rw [e1, e2, rn_nf p, decide_eq_false (by omega), if_pos ⟨by rw [← hrr]; exact hr, by omega⟩, hk]; rfl

theorem abs_low {S x P M : Int} {U N : Nat} (hP : 0 < P) (h : Low x P S U) (m : Low ((x.natAbs : Nat) : Int) P M N) : Low ((am (rn (ng S) (am S) U) : Nat) : Int) ((rd U : Nat) : Int) M N := by
  have q := h.pos
  rw [rn_nf q, rd_nf q]
  refine m.congr (by omega) ?_
  have a1 := congrArg Int.natAbs h.eq
  rw [Int.natAbs_mul, Int.natAbs_mul, Int.natAbs_natCast] at a1
  have a2 : ((P.natAbs : Nat) : Int) = P := by omega
  have a3 : ((am S * P.natAbs : Nat) : Int) = ((x.natAbs * U : Nat) : Int) := congrArg Nat.cast a1
  rw [Int.natCast_mul, Int.natCast_mul, a2] at a3
  exact a3.symm
theorem ord_same {b c : Nat} (hb : b % SB ≤ FI) (hc : c % SB ≤ FI) (h : fkey b = fkey c) : FloatKind.f64.format.order b c = some .eq := by
  have e : FloatKind.f64.format.order b c = some (compare (fkey b) (fkey c)) := order_eq hb hc
  rw [e, fcmp_eq h]
theorem ord_diff {b c : Nat} (hb : b % SB ≤ FI) (hc : c % SB ≤ FI) (h : ¬ fkey b = fkey c) : (FloatKind.f64.format.order b c == some .eq) = false := by
  have e : FloatKind.f64.format.order b c = some (compare (fkey b) (fkey c)) := order_eq hb hc
  rw [e, eq_of_cmp, decide_eq_false h]
theorem amt_lnT {k : Nat} (h : k < FI) : amt k < BB ^ 70 := by
  rw [← fm_fe k]
  have h1 := fm_lt k
  have h2 := fe_lt h
  obtain ⟨c, hc⟩ : ∃ c : Nat, c = 70 := ⟨_, rfl⟩
  rw [← hc]
  have h3 : fm k * 2 ^ fe k < 2 ^ 53 * 2 ^ fe k := Nat.mul_lt_mul_of_pos_right (by omega) (Nat.two_pow_pos _)
  refine Nat.lt_of_lt_of_le h3 ?_
  rw [← Nat.pow_add, BB_two]
  exact Nat.pow_le_pow_right (by omega) (by omega)
theorem T_lnT {z T : Nat} (hz : z = 1074) (hT : T = 2 ^ z) : T < BB ^ 70 := by
  obtain ⟨c, hc⟩ : ∃ c : Nat, c = 70 := ⟨_, rfl⟩
  rw [← hc, hT, BB_two]
  exact Nat.pow_lt_pow_right (by omega) (by omega)
theorem amt_fv {b : Nat} (h : b % SB < FI) : am (fv b) < BB ^ 70 := by unfold fv; rw [am_sg]; exact amt_lnT h
theorem s_len {z T n m X Y : Nat} {s : Bool} {f S : Int} {U : Nat} (hz : z = 1074) (hT : T = 2 ^ z) (hf : am f < BB ^ 70) (hX : X < BB ^ n) (hY : Y < BB ^ m) (h : Low (f * ((rd Y : Nat) : Int) - rn s X Y * (T : Int)) ((T : Int) * ((rd Y : Nat) : Int)) S U) (hn : n ≤ 35184372087808) (hm : m ≤ 35184372087808) : ln (am S) ≤ 35184372087900 ∧ ln U ≤ 35184372087900 := by
  have l0 := Nat.lt_of_le_of_lt (rn_am s X Y) hX
  have k0 := rd_lt hY
  have t0 := T_lnT hz hT
  obtain ⟨c, hc⟩ : ∃ c : Nat, c = 70 := ⟨_, rfl⟩
  rw [← hc] at hf t0
  rw [Int.sub_eq_add_neg, ← Int.neg_mul] at h
  exact ln1 h (lt_sum (lt_prod hf (by rw [am_nat]; exact k0)) (lt_prod (by rw [am_neg]; exact l0) (by rw [am_nat]; exact t0)) (k := 35184372087900) (by omega) (by omega)) (lt_prod (by rw [am_nat]; exact t0) (by rw [am_nat]; exact k0)) (k := 35184372087900) (by omega) (by omega)
theorem m_len {S M : Int} {U N : Nat} (h : Low ((am (rn (ng S) (am S) U) : Nat) : Int) ((rd U : Nat) : Int) M N) (h1 : ln (am S) ≤ 35184372087900) (h2 : ln U ≤ 35184372087900) : ln (am M) ≤ 35184372087901 ∧ ln N ≤ 35184372087901 := by
  have l0 := Nat.lt_of_le_of_lt (rn_am (ng S) (am S) U) (ln_lt (am S))
  have k0 := rd_lt (ln_lt U)
  exact ln1 h (by rw [am_nat]; exact l0) (by rw [am_nat]; exact k0) (k := 35184372087901) (by omega) (by omega)
end Go.Proofs.Yticdpbkbnflgbaa
