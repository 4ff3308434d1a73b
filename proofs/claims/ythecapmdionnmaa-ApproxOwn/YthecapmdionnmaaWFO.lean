/-
  Roundings rise with the number.
-/
import Derived.Test.YthecapmdionnmaaWF4
namespace Go.Proofs.Ythecapmdionnmaa
open Go.RowKit
set_option linter.unusedVariables false

theorem fkey_fB {s : Bool} {j : Nat} (h : j ≤ FI) : fkey (fB s j) = if s then -(j : Int) else (j : Int) := by
  unfold fkey
  rw [fB_neg h, fB_mod h]
theorem le_run {b c : Nat} (hb : b % SB ≤ FI) (hc : c % SB ≤ FI) (h : fkey b ≤ fkey c) : (FloatKind.f64.format.order b c == some .lt || FloatKind.f64.format.order b c == some .eq) = true := by
  have e : FloatKind.f64.format.order b c = some (compare (fkey b) (fkey c)) := order_eq hb hc
  rw [e]
  rcases Int.lt_or_eq_of_le h with g | g
  · rw [fcmp_lt g]; rfl
  · rw [fcmp_eq g]; rfl
theorem cmpI_mono {a b c d : Nat} (hb : 0 < b) (hd : 0 < d) (h : a * d ≤ c * b) : cmpI a b ≤ cmpI c d := by
  rcases Nat.lt_trichotomy a b with g | g | g
  · rw [cmpI_lt g]; unfold cmpI; split
    · omega
    · split <;> omega
  · subst g
    rw [cmpI_eq rfl]
    have : d ≤ c := Nat.le_of_mul_le_mul_left (c := a) (by rw [Nat.mul_comm a c]; exact h) hb
    unfold cmpI; rw [if_neg (by omega)]; split <;> omega
  · have h1 : a * d < a * (c + 1) ∧ (c = 0 → False) := by
      refine ⟨Nat.lt_of_le_of_lt h ?_, ?_⟩
      · rw [Nat.mul_comm c b]
        exact Nat.lt_of_le_of_lt (Nat.mul_le_mul_right c (Nat.le_of_lt g)) (by rw [Nat.mul_succ]; omega)
      · rintro rfl
        rw [Nat.zero_mul] at h
        have := Nat.mul_pos (show 0 < a by omega) hd
        omega
    have h2 : d < c := by
      refine Nat.lt_of_not_le fun hcd => ?_
      have h3 : c * b < c * a := Nat.mul_lt_mul_of_pos_left g (Nat.pos_of_ne_zero h1.2)
      have h4 : a * c ≤ a * d := Nat.mul_le_mul_left _ hcd
      rw [Nat.mul_comm a c] at h4
      omega
    rw [cmpI_gt g, cmpI_gt h2]; omega
theorem cut_mono {T N1 D1 k1 N2 D2 k2 : Nat} (h1 : 0 < D1) (h2 : 0 < D2) (h : N1 * D2 ≤ N2 * D1) (C1 : Cut T N1 D1 k1) (C2 : Cut T N2 D2 k2) : k1 < k2 ∨ (k1 = k2 ∧ rst T N1 D1 k1 ≤ rst T N2 D2 k2) := by
  have hT : N1 * T * D2 ≤ N2 * T * D1 := by
    have := Nat.mul_le_mul_right T h
    rw [show N1 * T * D2 = N1 * D2 * T by grind, show N2 * T * D1 = N2 * D1 * T by grind]; exact this
  rcases Nat.lt_trichotomy k1 k2 with g | g | g
  · exact Or.inl g
  · subst g
    refine Or.inr ⟨rfl, ?_⟩
    have r2 := rst_rng T N2 D2 k1
    by_cases e1 : N1 * T = amt k1 * D1
    · rw [rst_zero.2 e1]; omega
    · have e2 : ¬ N2 * T = amt k1 * D2 := by
        intro e
        rw [e] at hT
        have h3 := C1.2.1
        have h4 : amt k1 * D1 * D2 < N1 * T * D2 := Nat.mul_lt_mul_of_pos_right (by omega) h2
        have h5 : amt k1 * D2 * D1 = amt k1 * D1 * D2 := by grind
        omega
      unfold rst
      rw [if_neg e1, if_neg e2]
      have hS : 0 < amt k1 + amt (k1 + 1) := by
        have := amt_lt (show 0 < k1 + 1 by omega)
        omega
      have := cmpI_mono (Nat.mul_pos hS h1) (Nat.mul_pos hS h2) (a := 2 * (N1 * T)) (c := 2 * (N2 * T)) (by
        rw [show 2 * (N1 * T) * ((amt k1 + amt (k1 + 1)) * D2) = 2 * (amt k1 + amt (k1 + 1)) * (N1 * T * D2) by grind, show 2 * (N2 * T) * ((amt k1 + amt (k1 + 1)) * D1) = 2 * (amt k1 + amt (k1 + 1)) * (N2 * T * D1) by grind]
        exact Nat.mul_le_mul_left _ hT)
      omega
  · exfalso
    have hne : k2 + 1 ≠ FI := by have := C1.1; omega
    have h3 := C2.2.2.resolve_left hne
    have h4 : amt (k2 + 1) * D2 ≤ amt k1 * D2 := Nat.mul_le_mul_right _ (amt_le g)
    have h5 : N2 * T * D1 < amt k1 * D2 * D1 := Nat.mul_lt_mul_of_pos_right (by omega) h1
    have h6 : amt k1 * D1 * D2 ≤ N1 * T * D2 := Nat.mul_le_mul_right _ C1.2.1
    have h7 : amt k1 * D2 * D1 = amt k1 * D1 * D2 := by grind
    omega
theorem nup_mono {T N1 D1 k1 N2 D2 k2 : Nat} (h1 : 0 < D1) (h2 : 0 < D2) (h : N1 * D2 ≤ N2 * D1) (C1 : Cut T N1 D1 k1) (C2 : Cut T N2 D2 k2) : (if nup T N1 D1 k1 then k1 + 1 else k1) ≤ (if nup T N2 D2 k2 then k2 + 1 else k2) := by
  have r2 := rst_rng T N2 D2 k2
  rcases cut_mono h1 h2 h C1 C2 with g | ⟨rfl, g⟩
  · split <;> split <;> omega
  · by_cases e : nup T N1 D1 k1 = true
    · have e2 : nup T N2 D2 k1 = true := by
        unfold nup at e ⊢
        rw [decide_eq_true_iff] at e ⊢
        omega
      rw [if_pos e, if_pos e2]; omega
    · rw [if_neg e]; split <;> omega
theorem ups_mono {T N1 D1 k1 N2 D2 k2 : Nat} (h1 : 0 < D1) (h2 : 0 < D2) (h : N1 * D2 ≤ N2 * D1) (C1 : Cut T N1 D1 k1) (C2 : Cut T N2 D2 k2) : (if rst T N1 D1 k1 ≠ 0 then k1 + 1 else k1) ≤ (if rst T N2 D2 k2 ≠ 0 then k2 + 1 else k2) := by
  have r1 := rst_rng T N1 D1 k1
  have r2 := rst_rng T N2 D2 k2
  rcases cut_mono h1 h2 h C1 C2 with g | ⟨rfl, g⟩
  · split <;> split <;> omega
  · split <;> split <;> omega
theorem cut_le {T N1 D1 k1 N2 D2 k2 : Nat} (h1 : 0 < D1) (h2 : 0 < D2) (h : N1 * D2 ≤ N2 * D1) (C1 : Cut T N1 D1 k1) (C2 : Cut T N2 D2 k2) : k1 ≤ k2 := by
  rcases cut_mono h1 h2 h C1 C2 with g | ⟨rfl, g⟩ <;> omega
/-- the order of two numbers, by their amounts -/
theorem am_le {A1 A2 : Int} {D1 D2 : Nat} (h : A1 * (D2 : Int) ≤ A2 * (D1 : Int)) (h1 : 0 < D1) (h2 : 0 < D2) :
    (¬ A1 < 0 → ¬ A2 < 0 → am A1 * D2 ≤ am A2 * D1) ∧ (A1 < 0 → A2 < 0 → am A2 * D1 ≤ am A1 * D2) ∧ (A2 < 0 → A1 < 0) := by
  have e : ∀ A : Int, ¬ A < 0 → ((am A : Nat) : Int) = A := fun A h => by unfold am; omega
  have e' : ∀ A : Int, A < 0 → ((am A : Nat) : Int) = -A := fun A h => by unfold am; omega
  refine ⟨fun g1 g2 => ?_, fun g1 g2 => ?_, fun g => ?_⟩
  · have : ((am A1 * D2 : Nat) : Int) ≤ ((am A2 * D1 : Nat) : Int) := by rw [Int.natCast_mul, Int.natCast_mul, e _ g1, e _ g2]; exact h
    omega
  · have : ((am A2 * D1 : Nat) : Int) ≤ ((am A1 * D2 : Nat) : Int) := by rw [Int.natCast_mul, Int.natCast_mul, e' _ g1, e' _ g2, Int.neg_mul, Int.neg_mul]; omega
    omega
  · have g1 := Int.mul_neg_of_neg_of_pos g (show (0 : Int) < D1 by omega)
    refine Int.lt_of_not_ge fun g2 => ?_
    have := Int.mul_nonneg g2 (show (0 : Int) ≤ D2 by omega)
    omega
/-- two roundings, by their amounts -/
theorem key_le {A1 A2 : Int} {D1 D2 j1 j2 : Nat} (h1 : 0 < D1) (h2 : 0 < D2) (f1 : j1 ≤ FI) (f2 : j2 ≤ FI) (h : A1 * (D2 : Int) ≤ A2 * (D1 : Int))
    (hp : ¬ A1 < 0 → ¬ A2 < 0 → am A1 * D2 ≤ am A2 * D1 → j1 ≤ j2) (hn : A1 < 0 → A2 < 0 → am A2 * D1 ≤ am A1 * D2 → j2 ≤ j1) :
    (FloatKind.f64.format.order (fB (decide (A1 < 0)) j1) (fB (decide (A2 < 0)) j2) == some .lt || FloatKind.f64.format.order (fB (decide (A1 < 0)) j1) (fB (decide (A2 < 0)) j2) == some .eq) = true := by
  refine le_run (by rw [fB_mod f1]; exact f1) (by rw [fB_mod f2]; exact f2) ?_
  rw [fkey_fB f1, fkey_fB f2]
  obtain ⟨a, b, c⟩ := am_le h h1 h2
  by_cases g1 : A1 < 0 <;> by_cases g2 : A2 < 0
  · have := hn g1 g2 (b g1 g2)
    rw [decide_eq_true g1, decide_eq_true g2, if_pos rfl, if_pos rfl]; omega
  · rw [decide_eq_true g1, decide_eq_false g2, if_pos rfl, if_neg (by decide)]; omega
  · exact absurd (c g2) g1
  · have := hp g1 g2 (a g1 g2)
    rw [decide_eq_false g1, decide_eq_false g2, if_neg (by decide), if_neg (by decide)]; omega
theorem if_le {p : Prop} [Decidable p] {k : Nat} (h : k < FI) : (if p then k + 1 else k) ≤ FI := by split <;> omega

section
variable {T : Nat} {s1 s2 : Bool} {X1 Y1 X2 Y2 k1 k2 : Nat}
theorem near_le (h : rn s1 X1 Y1 * ((rd Y2 : Nat) : Int) ≤ rn s2 X2 Y2 * ((rd Y1 : Nat) : Int)) (C1 : Cut T (rN X1 Y1) (rd Y1) k1) (C2 : Cut T (rN X2 Y2) (rd Y2) k2) :
    (FloatKind.f64.format.order (nearB T s1 X1 Y1 k1) (nearB T s2 X2 Y2 k2) == some .lt || FloatKind.f64.format.order (nearB T s1 X1 Y1 k1) (nearB T s2 X2 Y2 k2) == some .eq) = true := by
  refine key_le (rd_pos _) (rd_pos _) (if_le C1.1) (if_le C2.1) h (fun _ _ g => ?_) (fun _ _ g => ?_)
  · rw [rN_am, rN_am] at g; exact nup_mono (rd_pos _) (rd_pos _) g C1 C2
  · rw [rN_am, rN_am] at g; exact nup_mono (rd_pos _) (rd_pos _) g C2 C1
theorem down_le (h : rn s1 X1 Y1 * ((rd Y2 : Nat) : Int) ≤ rn s2 X2 Y2 * ((rd Y1 : Nat) : Int)) (C1 : Cut T (rN X1 Y1) (rd Y1) k1) (C2 : Cut T (rN X2 Y2) (rd Y2) k2) :
    (FloatKind.f64.format.order (downB T s1 X1 Y1 k1) (downB T s2 X2 Y2 k2) == some .lt || FloatKind.f64.format.order (downB T s1 X1 Y1 k1) (downB T s2 X2 Y2 k2) == some .eq) = true := by
  refine key_le (rd_pos _) (rd_pos _) (if_le C1.1) (if_le C2.1) h (fun a b g => ?_) (fun a b g => ?_)
  · rw [rN_am, rN_am] at g
    rw [if_neg (fun h => a h.2), if_neg (fun h => b h.2)]; exact cut_le (rd_pos _) (rd_pos _) g C1 C2
  · rw [rN_am, rN_am] at g
    have := ups_mono (rd_pos _) (rd_pos _) g C2 C1
    simpa only [a, b, and_true] using this
theorem up_le (h : rn s1 X1 Y1 * ((rd Y2 : Nat) : Int) ≤ rn s2 X2 Y2 * ((rd Y1 : Nat) : Int)) (C1 : Cut T (rN X1 Y1) (rd Y1) k1) (C2 : Cut T (rN X2 Y2) (rd Y2) k2) :
    (FloatKind.f64.format.order (upB T s1 X1 Y1 k1) (upB T s2 X2 Y2 k2) == some .lt || FloatKind.f64.format.order (upB T s1 X1 Y1 k1) (upB T s2 X2 Y2 k2) == some .eq) = true := by
  refine key_le (rd_pos _) (rd_pos _) (if_le C1.1) (if_le C2.1) h (fun a b g => ?_) (fun a b g => ?_)
  · rw [rN_am, rN_am] at g
    have := ups_mono (rd_pos _) (rd_pos _) g C1 C2
    simpa only [a, b, not_false_eq_true, and_true] using this
  · rw [rN_am, rN_am] at g
    rw [if_neg (fun h => h.2 b), if_neg (fun h => h.2 a)]; exact cut_le (rd_pos _) (rd_pos _) g C2 C1
end

theorem nup_is' {T N D k : Nat} (h : N * T = amt k * D) : nup T N D k = false := by
  unfold nup
  rw [rst_zero.2 h]; simp
/-- the bits of 1 -/
def ONE : Nat := 4607182418800017408
theorem amt_one {z T : Nat} (hz : z = 1074) (hT : T = 2 ^ z) : amt ONE = T := by
  have := @amt_at 1022 LD (Or.inr (Nat.le_refl _)) (by decide)
  rw [show 1022 * LD + LD = ONE by decide] at this
  rw [this, hT, LD_eq]
  obtain ⟨y, hy⟩ : ∃ y : Nat, y = 1022 := ⟨_, rfl⟩
  rw [← hy, ← Nat.pow_add, show 52 + y = z by omega]
theorem one_cut {z T : Nat} (hz : z = 1074) (hT : T = 2 ^ z) : Cut T (rN 1 1) (rd 1) ONE ∧ nearB T false 1 1 ONE = ONE := by
  have h := amt_one hz hT
  have e1 : rN 1 1 = 1 := rfl
  have e2 : rd 1 = 1 := rfl
  rw [e1, e2]
  have hl := amt_lt (show ONE < ONE + 1 by omega)
  refine ⟨⟨by decide, by omega, Or.inr (by omega)⟩, ?_⟩
  unfold nearB
  rw [e1, e2, nup_is' (by omega)]; rfl
end Go.Proofs.Ythecapmdionnmaa
