/-
  ApproxNear.
-/
import Derived.Test.YtjofldgaefjapabWF4
import Derived.Test.YtjofldgaefjapabWFC
import Derived.Test.YtjofldgaefjapabWFB
import Derived.Test.YtjofldgaefjapabOpenQ
import Derived.Laws.Cover2
namespace Go.Proofs.Ytjofldgaefjapab
open Go.RowKit
set_option linter.unusedVariables false

theorem fkey_fB {s : Bool} {j : Nat} (h : j ≤ FI) : fkey (fB s j) = if s then -(j : Int) else (j : Int) := by
  unfold fkey
  rw [fB_neg h, fB_mod h]
theorem le_run {b c : Nat} (hb : b % SB ≤ FI) (hc : c % SB ≤ FI) (h : fkey b ≤ fkey c) : (FloatKind.f64.format.order b c == some .lt || FloatKind.f64.format.order b c == some .eq) = true := by
  have e : FloatKind.f64.format.order b c = some (compare (fkey b) (fkey c)) := order_eq hb hc
  rw [e]
  rcases Int.lt_or_eq_of_le h with g | g
  · rw [fcmp_lt g]; rfl
  · rw [fcmp_eq g]; rfl
theorem cmpI_mono {a b c d : Nat} (hb : 0 < b) (hd : 0 < d) (h : a * d ≤ c * b) : cmpI a b ≤ cmpI c d := by
  rcases Nat.lt_trichotomy a b with g | g | g
  · rw [cmpI_lt g]; unfold cmpI; split
    · omega
    · split <;> omega
  · subst g
    rw [cmpI_eq rfl]
    have : d ≤ c := Nat.le_of_mul_le_mul_left (c := a) (by rw [Nat.mul_comm a c]; exact h) hb
    unfold cmpI; rw [if_neg (by omega)]; split <;> omega
  · have h1 : a * d < a * (c + 1) ∧ (c = 0 → False) := by
      refine ⟨Nat.lt_of_le_of_lt h ?_, ?_⟩
      · rw [Nat.mul_comm c b]
        exact Nat.lt_of_le_of_lt (Nat.mul_le_mul_right c (Nat.le_of_lt g)) (by rw [Nat.mul_succ]; omega)
      · rintro rfl
        rw [Nat.zero_mul] at h
        have := Nat.mul_pos (show 0 < a by omega) hd
        omega
    have h2 : d < c := by
      refine Nat.lt_of_not_le fun hcd => ?_
      have h3 : c * b < c * a := Nat.mul_lt_mul_of_pos_left g (Nat.pos_of_ne_zero h1.2)
      have h4 : a * c ≤ a * d := Nat.mul_le_mul_left _ hcd
      rw [Nat.mul_comm a c] at h4
      omega
    rw [cmpI_gt g, cmpI_gt h2]; omega
theorem cut_mono {T N1 D1 k1 N2 D2 k2 : Nat} (h1 : 0 < D1) (h2 : 0 < D2) (h : N1 * D2 ≤ N2 * D1) (C1 : Cut T N1 D1 k1) (C2 : Cut T N2 D2 k2) : k1 < k2 ∨ (k1 = k2 ∧ rst T N1 D1 k1 ≤ rst T N2 D2 k2) := by
  have hT : N1 * T * D2 ≤ N2 * T * D1 := by
    have := Nat.mul_le_mul_right T h
    rw [show N1 * T * D2 = N1 * D2 * T by grind, show N2 * T * D1 = N2 * D1 * T by grind]; exact this
  rcases Nat.lt_trichotomy k1 k2 with g | g | g
  · exact Or.inl g
  · subst g
    refine Or.inr ⟨rfl, ?_⟩
    have r2 := rst_rng T N2 D2 k1
    by_cases e1 : N1 * T = amt k1 * D1
    · rw [rst_zero.2 e1]; omega
    · have e2 : ¬ N2 * T = amt k1 * D2 := by
        intro e
        rw [e] at hT
        have h3 := C1.2.1
        have h4 : amt k1 * D1 * D2 < N1 * T * D2 := Nat.mul_lt_mul_of_pos_right (by omega) h2
        have h5 : amt k1 * D2 * D1 = amt k1 * D1 * D2 := by grind
        omega
      unfold rst
      rw [if_neg e1, if_neg e2]
      have hS : 0 < amt k1 + amt (k1 + 1) := by
        have := amt_lt (show 0 < k1 + 1 by omega)
        omega
      have := cmpI_mono (Nat.mul_pos hS h1) (Nat.mul_pos hS h2) (a := 2 * (N1 * T)) (c := 2 * (N2 * T)) (by
        rw [show 2 * (N1 * T) * ((amt k1 + amt (k1 + 1)) * D2) = 2 * (amt k1 + amt (k1 + 1)) * (N1 * T * D2) by grind, show 2 * (N2 * T) * ((amt k1 + amt (k1 + 1)) * D1) = 2 * (amt k1 + amt (k1 + 1)) * (N2 * T * D1) by grind]
        exact Nat.mul_le_mul_left _ hT)
      omega
  · exfalso
    have hne : k2 + 1 ≠ FI := by have := C1.1; omega
    have h3 := C2.2.2.resolve_left hne
    have h4 : amt (k2 + 1) * D2 ≤ amt k1 * D2 := Nat.mul_le_mul_right _ (amt_le g)
    have h5 : N2 * T * D1 < amt k1 * D2 * D1 := Nat.mul_lt_mul_of_pos_right (by omega) h1
    have h6 : amt k1 * D1 * D2 ≤ N1 * T * D2 := Nat.mul_le_mul_right _ C1.2.1
    have h7 : amt k1 * D2 * D1 = amt k1 * D1 * D2 := by grind
    omega
theorem nup_mono {T N1 D1 k1 N2 D2 k2 : Nat} (h1 : 0 < D1) (h2 : 0 < D2) (h : N1 * D2 ≤ N2 * D1) (C1 : Cut T N1 D1 k1) (C2 : Cut T N2 D2 k2) : (if nup T N1 D1 k1 then k1 + 1 else k1) ≤ (if nup T N2 D2 k2 then k2 + 1 else k2) := by
  have r2 := rst_rng T N2 D2 k2
  rcases cut_mono h1 h2 h C1 C2 with g | ⟨rfl, g⟩
  · split <;> split <;> omega
  · by_cases e : nup T N1 D1 k1 = true
    · have e2 : nup T N2 D2 k1 = true := by
        unfold nup at e ⊢
        rw [decide_eq_true_iff] at e ⊢
        omega
      rw [if_pos e, if_pos e2]; omega
    · rw [if_neg e]; split <;> omega
theorem ups_mono {T N1 D1 k1 N2 D2 k2 : Nat} (h1 : 0 < D1) (h2 : 0 < D2) (h : N1 * D2 ≤ N2 * D1) (C1 : Cut T N1 D1 k1) (C2 : Cut T N2 D2 k2) : (if rst T N1 D1 k1 ≠ 0 then k1 + 1 else k1) ≤ (if rst T N2 D2 k2 ≠ 0 then k2 + 1 else k2) := by
  have r1 := rst_rng T N1 D1 k1
  have r2 := rst_rng T N2 D2 k2
  rcases cut_mono h1 h2 h C1 C2 with g | ⟨rfl, g⟩
  · split <;> split <;> omega
  · split <;> split <;> omega
theorem cut_le {T N1 D1 k1 N2 D2 k2 : Nat} (h1 : 0 < D1) (h2 : 0 < D2) (h : N1 * D2 ≤ N2 * D1) (C1 : Cut T N1 D1 k1) (C2 : Cut T N2 D2 k2) : k1 ≤ k2 := by
  rcases cut_mono h1 h2 h C1 C2 with g | ⟨rfl, g⟩ <;> omega
/-- the order of two numbers, by their amounts -/
theorem am_le {A1 A2 : Int} {D1 D2 : Nat} (h : A1 * (D2 : Int) ≤ A2 * (D1 : Int)) (h1 : 0 < D1) (h2 : 0 < D2) :
    (¬ A1 < 0 → ¬ A2 < 0 → am A1 * D2 ≤ am A2 * D1) ∧ (A1 < 0 → A2 < 0 → am A2 * D1 ≤ am A1 * D2) ∧ (A2 < 0 → A1 < 0) := by
  have e : ∀ A : Int, ¬ A < 0 → ((am A : Nat) : Int) = A := fun A h => by unfold am; omega
  have e' : ∀ A : Int, A < 0 → ((am A : Nat) : Int) = -A := fun A h => by unfold am; omega
  refine ⟨fun g1 g2 => ?_, fun g1 g2 => ?_, fun g => ?_⟩
  · have : ((am A1 * D2 : Nat) : Int) ≤ ((am A2 * D1 : Nat) : Int) := by rw [Int.natCast_mul, Int.natCast_mul, e _ g1, e _ g2]; exact h
    omega
  · have : ((am A2 * D1 : Nat) : Int) ≤ ((am A1 * D2 : Nat) : Int) := by rw [Int.natCast_mul, Int.natCast_mul, e' _ g1, e' _ g2, Int.neg_mul, Int.neg_mul]; omega
    omega
  · have g1 := Int.mul_neg_of_neg_of_pos g (show (0 : Int) < D1 by omega)
    refine Int.lt_of_not_ge fun g2 => ?_
    have := Int.mul_nonneg g2 (show (0 : Int) ≤ D2 by omega)
    omega
/-- two roundings, by their amounts -/
theorem key_le {A1 A2 : Int} {D1 D2 j1 j2 : Nat} (h1 : 0 < D1) (h2 : 0 < D2) (f1 : j1 ≤ FI) (f2 : j2 ≤ FI) (h : A1 * (D2 : Int) ≤ A2 * (D1 : Int))
    (hp : ¬ A1 < 0 → ¬ A2 < 0 → am A1 * D2 ≤ am A2 * D1 → j1 ≤ j2) (hn : A1 < 0 → A2 < 0 → am A2 * D1 ≤ am A1 * D2 → j2 ≤ j1) :
    (FloatKind.f64.format.order (fB (decide (A1 < 0)) j1) (fB (decide (A2 < 0)) j2) == some .lt || FloatKind.f64.format.order (fB (decide (A1 < 0)) j1) (fB (decide (A2 < 0)) j2) == some .eq) = true := by
  refine le_run (by rw [fB_mod f1]; exact f1) (by rw [fB_mod f2]; exact f2) ?_
  rw [fkey_fB f1, fkey_fB f2]
  obtain ⟨a, b, c⟩ := am_le h h1 h2
  by_cases g1 : A1 < 0 <;> by_cases g2 : A2 < 0
  · have := hn g1 g2 (b g1 g2)
    rw [decide_eq_true g1, decide_eq_true g2, if_pos rfl, if_pos rfl]; omega
  · rw [decide_eq_true g1, decide_eq_false g2, if_pos rfl, if_neg (by decide)]; omega
  · exact absurd (c g2) g1
  · have := hp g1 g2 (a g1 g2)
    rw [decide_eq_false g1, decide_eq_false g2, if_neg (by decide), if_neg (by decide)]; omega
theorem if_le {p : Prop} [Decidable p] {k : Nat} (h : k < FI) : (if p then k + 1 else k) ≤ FI := by split <;> omega

section
variable {T : Nat} {s1 s2 : Bool} {X1 Y1 X2 Y2 k1 k2 : Nat}
theorem near_le (h : rn s1 X1 Y1 * ((rd Y2 : Nat) : Int) ≤ rn s2 X2 Y2 * ((rd Y1 : Nat) : Int)) (C1 : Cut T (rN X1 Y1) (rd Y1) k1) (C2 : Cut T (rN X2 Y2) (rd Y2) k2) :
    (FloatKind.f64.format.order (nearB T s1 X1 Y1 k1) (nearB T s2 X2 Y2 k2) == some .lt || FloatKind.f64.format.order (nearB T s1 X1 Y1 k1) (nearB T s2 X2 Y2 k2) == some .eq) = true := by
  refine key_le (rd_pos _) (rd_pos _) (if_le C1.1) (if_le C2.1) h (fun _ _ g => ?_) (fun _ _ g => ?_)
  · rw [rN_am, rN_am] at g; exact nup_mono (rd_pos _) (rd_pos _) g C1 C2
  · rw [rN_am, rN_am] at g; exact nup_mono (rd_pos _) (rd_pos _) g C2 C1
theorem down_le (h : rn s1 X1 Y1 * ((rd Y2 : Nat) : Int) ≤ rn s2 X2 Y2 * ((rd Y1 : Nat) : Int)) (C1 : Cut T (rN X1 Y1) (rd Y1) k1) (C2 : Cut T (rN X2 Y2) (rd Y2) k2) :
    (FloatKind.f64.format.order (downB T s1 X1 Y1 k1) (downB T s2 X2 Y2 k2) == some .lt || FloatKind.f64.format.order (downB T s1 X1 Y1 k1) (downB T s2 X2 Y2 k2) == some .eq) = true := by
  refine key_le (rd_pos _) (rd_pos _) (if_le C1.1) (if_le C2.1) h (fun a b g => ?_) (fun a b g => ?_)
  · rw [rN_am, rN_am] at g
    rw [if_neg (fun h => a h.2), if_neg (fun h => b h.2)]; exact cut_le (rd_pos _) (rd_pos _) g C1 C2
  · rw [rN_am, rN_am] at g
    have := ups_mono (rd_pos _) (rd_pos _) g C2 C1
    simpa only [a, b, and_true] using this
theorem up_le (h : rn s1 X1 Y1 * ((rd Y2 : Nat) : Int) ≤ rn s2 X2 Y2 * ((rd Y1 : Nat) : Int)) (C1 : Cut T (rN X1 Y1) (rd Y1) k1) (C2 : Cut T (rN X2 Y2) (rd Y2) k2) :
    (FloatKind.f64.format.order (upB T s1 X1 Y1 k1) (upB T s2 X2 Y2 k2) == some .lt || FloatKind.f64.format.order (upB T s1 X1 Y1 k1) (upB T s2 X2 Y2 k2) == some .eq) = true := by
  refine key_le (rd_pos _) (rd_pos _) (if_le C1.1) (if_le C2.1) h (fun a b g => ?_) (fun a b g => ?_)
  · rw [rN_am, rN_am] at g
    have := ups_mono (rd_pos _) (rd_pos _) g C1 C2
    simpa only [a, b, not_false_eq_true, and_true] using this
  · rw [rN_am, rN_am] at g
    rw [if_neg (fun h => h.2 b), if_neg (fun h => h.2 a)]; exact cut_le (rd_pos _) (rd_pos _) g C2 C1
end

theorem nup_is' {T N D k : Nat} (h : N * T = amt k * D) : nup T N D k = false := by
  unfold nup
  rw [rst_zero.2 h]; simp
/-- the bits of 1 -/
def ONE : Nat := 4607182418800017408
theorem amt_one {z T : Nat} (hz : z = 1074) (hT : T = 2 ^ z) : amt ONE = T := by
  have := @amt_at 1022 LD (Or.inr (Nat.le_refl _)) (by decide)
  rw [show 1022 * LD + LD = ONE by decide] at this
  rw [this, hT, LD_eq]
  obtain ⟨y, hy⟩ : ∃ y : Nat, y = 1022 := ⟨_, rfl⟩
  rw [← hy, ← Nat.pow_add, show 52 + y = z by omega]
theorem one_cut {z T : Nat} (hz : z = 1074) (hT : T = 2 ^ z) : Cut T (rN 1 1) (rd 1) ONE ∧ nearB T false 1 1 ONE = ONE := by
  have h := amt_one hz hT
  have e1 : rN 1 1 = 1 := rfl
  have e2 : rd 1 = 1 := rfl
  rw [e1, e2]
  have hl := amt_lt (show ONE < ONE + 1 by omega)
  refine ⟨⟨by decide, by omega, Or.inr (by omega)⟩, ?_⟩
  unfold nearB
  rw [e1, e2, nup_is' (by omega)]; rfl
end Go.Proofs.Ytjofldgaefjapab

namespace Go.Proofs.Ytjofldgaefjapab
open Go.RowKit
set_option linter.unusedVariables false

set_option maxHeartbeats 1000000 in
theorem lfinite_is (b : Nat) (c : Bool) (w : World) (hb : b < 18446744073709551616) (hc : decide (b % SB < FI) = c) :
    Calls Try.prog 7 #[.float .f64 b] w fun e w' => e = .returned (.bool c) ∧ Below w.heap.size w w' := by
  have hbr := bits_run
  have HN := hide' (fun w' => vnan_any b w' hb)
  have HI := hide' (fun w' => vinf_any b w' hb)
  by_cases hn : FI < b % SB
  · obtain rfl : c = false := by rw [← hc]; exact decide_eq_false (by omega)
    have hd : decide (FI < b % SB) = true := decide_eq_true hn
    clear hn hc HI
    go_enter Try.func7, Try.ntmps7
    go_wp2_with fail
    refine (HN.out _).mono ?_
    rintro e w' ⟨rfl, rfl⟩
    go_wp2
    go_ret
    exact ⟨rfl, Below.refl _ _⟩
  · have hd : decide (FI < b % SB) = false := decide_eq_false hn
    have hd2 : decide (b % SB = FI) = !c := by
      rw [← hc]
      by_cases h : b % SB = FI
      · rw [decide_eq_true h, decide_eq_false (by omega)]; rfl
      · rw [decide_eq_false h, decide_eq_true (by omega)]; rfl
    clear hn hc
    go_enter Try.func7, Try.ntmps7
    go_wp2_with fail
    refine (HN.out _).mono ?_
    rintro e w' ⟨rfl, rfl⟩
    rw [hd]
    go_wp2_with fail
    refine (HI.out _).mono ?_
    rintro e w' ⟨rfl, rfl⟩
    rw [hd2]
    cases c
    · go_wp2
      go_ret
      exact ⟨rfl, Below.refl _ _⟩
    · go_wp2
      go_ret
      exact ⟨rfl, Below.refl _ _⟩
set_option maxHeartbeats 2000000 in
set_option maxRecDepth 100000 in
theorem lnumber_is (z T b : Nat) (Z : Int) (V : Nat) (w : World) (hz : z = 1074) (hT : T = 2 ^ z) (hb : b < 18446744073709551616) (hf : b % SB < FI) (hL : Low (fv b) (T : Int) Z V) :
    Calls Try.prog 15 #[.float .f64 b] w fun e w' => ∃ p q, e = .returned (.agg #[.bool (ng Z), .slice p (ln (am Z)) (ln (am Z)), .slice q (ln V) (ln V)]) ∧ New w w' p (am Z) (ln (am Z)) ∧ New w w' q V (ln V) := by
  have hbr := bits_run
  have HU := hide' (fun w' => Number_is z T b Z V w' hz hT hb hf hL)
  clear hz hT hL hf
  go_enter Try.func15, Try.ntmps15
  go_upto_region 1 with fail
  have r00 : ((w.alloc (.cells #[.bool false, .slice none 0 0, .slice none 0 0] 27))).cell? ⟨w.heap.size, 0, none⟩ = some (.bool false) := by go_simp
  have r01 : ((w.alloc (.cells #[.bool false, .slice none 0 0, .slice none 0 0] 27))).cell? ⟨w.heap.size, 1, none⟩ = some (.slice none 0 0) := by go_simp
  have r02 : ((w.alloc (.cells #[.bool false, .slice none 0 0, .slice none 0 0] 27))).cell? ⟨w.heap.size, 2, none⟩ = some (.slice none 0 0) := by go_simp
  have hB : Below w.heap.size w ((w.alloc (.cells #[.bool false, .slice none 0 0, .slice none 0 0] 27))) := ((Below.refl _ _).alloc (by (try simp only [World.size_alloc]); omega) _)
  have hR0 : Row ((w.alloc (.cells #[.bool false, .slice none 0 0, .slice none 0 0] 27))) (w.heap.size) := by
    have := row_new (w) #[.bool false, .slice none 0 0, .slice none 0 0] 27
    try simp only [World.size_alloc] at this
    exact this
  have hz : ((w.alloc (.cells #[.bool false, .slice none 0 0, .slice none 0 0] 27))).heap.size = w.heap.size + 1 := by simp only [World.size_alloc]
  generalize (w.alloc (.cells #[.bool false, .slice none 0 0, .slice none 0 0] 27)) = W at r00 r01 r02 hR0 hB hz ⊢
  have hBW : Below W.heap.size W W := Below.refl _ _
  go_wp2_with fail
  refine (HU.out _).mono ?_
  rintro e w1 ⟨p1, q1, rfl, hp1, hq1⟩
  have b1 := hp1.below
  replace hp1 := hp1.back hBW
  replace hq1 := hq1.back hBW
  replace hBW := hBW.trans (b1.mono hBW.size)
  replace r00 := below_cell b1 r00
  replace r01 := below_cell b1 r01
  replace r02 := below_cell b1 r02
  replace hR0 := below_row b1 hR0
  have fz0 := fun o => hR0.frozen o
  go_wp2
  all_goals refine bodyPost_ret (v := Value.agg #[Value.bool (ng Z), Value.slice p1 (ln (am Z)) (ln (am Z)), Value.slice q1 (ln V) (ln V)]) (by rw [results_cell rfl]; go_simp) rfl ?_
  all_goals exact ⟨p1, q1, rfl, hp1.mid hB (((((Mid.refl _ _ _).set _ _ (by omega) (by omega) _).set _ _ (by omega) (by omega) _).set _ _ (by omega) (by omega) _)), hq1.mid hB (((((Mid.refl _ _ _).set _ _ (by omega) (by omega) _).set _ _ (by omega) (by omega) _).set _ _ (by omega) (by omega) _))⟩
theorem fv_fB {s : Bool} {k : Nat} (h : k ≤ FI) : fv (fB s k) = sg s (amt k) := by
  unfold fv; rw [fB_neg h, fB_mod h]
theorem ord_lt {b c : Nat} (hb : b % SB ≤ FI) (hc : c % SB ≤ FI) (h : fkey b < fkey c) : FloatKind.f64.format.order b c = some .lt := by
  have e : FloatKind.f64.format.order b c = some (compare (fkey b) (fkey c)) := order_eq hb hc
  rw [e, fcmp_lt h]
theorem ord_gt {b c : Nat} (hb : b % SB ≤ FI) (hc : c % SB ≤ FI) (h : fkey c < fkey b) : FloatKind.f64.format.order b c = some .gt := by
  have e : FloatKind.f64.format.order b c = some (compare (fkey b) (fkey c)) := order_eq hb hc
  rw [e, fcmp_gt h]
theorem ord_eq {b : Nat} (hb : b % SB ≤ FI) : FloatKind.f64.format.order b b = some .eq := by
  have e : FloatKind.f64.format.order b b = some (compare (fkey b) (fkey b)) := order_eq hb hb
  rw [e, fcmp_eq rfl]
/-- a float's number against another number -/
theorem cmp_num {z T b : Nat} {Z A : Int} {V D : Nat} {C : Int} (hT : T = 2 ^ z) (hL : Low (fv b) (T : Int) Z V) (hC : sgn (fv b * (D : Int) - A * (T : Int)) = C) : sgn (Z * (D : Int) - A * (V : Int)) = C := by
  have hT0 : (0 : Int) < T := by rw [hT]; have := Nat.two_pow_pos z; omega
  have hV : (0 : Int) < V := by have := hL.pos; omega
  have e := hL.eq
  have h1 := sgn_mul_pos (a := Z * (D : Int) - A * (V : Int)) hT0
  have h2 := sgn_mul_pos (a := fv b * (D : Int) - A * (T : Int)) hV
  rw [← h1, ← hC, ← h2]
  congr 1
  grind
end Go.Proofs.Ytjofldgaefjapab

namespace Go.Proofs.Ytjofldgaefjapab
open Go.RowKit
set_option linter.unusedVariables false

theorem near_core {a lo hi u : Int} {r : Int} {k j : Nat} {up : Bool} (h1 : lo ≤ a) (h2 : lo < hi)
    (hr : (r = 0 ∧ a = lo) ∨ (r ≠ 0 ∧ a ≠ lo ∧ ((r = 1 ∧ 2 * a < lo + hi) ∨ (r = 2 ∧ 2 * a = lo + hi) ∨ (r = 3 ∧ lo + hi < 2 * a))))
    (hup : up = true ↔ (r = 3 ∨ (r = 2 ∧ k % 2 = 1))) (hj : j = if up then k + 1 else k) (hu : u ≤ lo ∨ (hi ≤ u ∧ a < hi)) (ha : up = true → a < hi) :
    ((if up then hi else lo) - a).natAbs < (u - a).natAbs ∨ (((if up then hi else lo) - a).natAbs = (u - a).natAbs ∧ (u = (if up then hi else lo) ∨ j % 2 = 0)) := by
  cases up
  · have hn : ¬ (r = 3 ∨ (r = 2 ∧ k % 2 = 1)) := fun h => absurd (hup.2 h) (by decide)
    simp only [Bool.false_eq_true, if_false] at hj ⊢
    subst hj
    omega
  · have hn := hup.1 rfl
    have := ha rfl
    simp only [if_true] at hj ⊢
    subst hj
    omega
theorem rst_parts {T N D k : Nat} : (rst T N D k = 0 ∧ (N * T : Int) = (amt k : Int) * D) ∨ (rst T N D k ≠ 0 ∧ (N * T : Int) ≠ (amt k : Int) * D ∧ ((rst T N D k = 1 ∧ 2 * (N * T : Int) < (amt k : Int) * D + (amt (k + 1) : Int) * D) ∨ (rst T N D k = 2 ∧ 2 * (N * T : Int) = (amt k : Int) * D + (amt (k + 1) : Int) * D) ∨ (rst T N D k = 3 ∧ (amt k : Int) * D + (amt (k + 1) : Int) * D < 2 * (N * T : Int)))) := by
  have c1 : ((N * T : Nat) : Int) = (N : Int) * T := Int.natCast_mul ..
  have c2 : ((amt k * D : Nat) : Int) = (amt k : Int) * D := Int.natCast_mul ..
  have c3 : ((amt (k + 1) * D : Nat) : Int) = (amt (k + 1) : Int) * D := Int.natCast_mul ..
  rw [← c1, ← c2, ← c3]
  have e : (amt k + amt (k + 1)) * D = amt k * D + amt (k + 1) * D := Nat.add_mul ..
  unfold rst
  rw [e]
  generalize N * T = a
  generalize amt k * D = lo
  generalize amt (k + 1) * D = hi
  by_cases h : a = lo
  · rw [if_pos h]; exact Or.inl ⟨rfl, by omega⟩
  · rw [if_neg h]
    right
    unfold cmpI
    split
    · exact ⟨by omega, by omega, Or.inl ⟨rfl, by omega⟩⟩
    · split
      · exact ⟨by omega, by omega, Or.inr (Or.inl ⟨rfl, by omega⟩)⟩
      · exact ⟨by omega, by omega, Or.inr (Or.inr ⟨rfl, by omega⟩)⟩
theorem near_pos {T N D k j m : Nat} {v : Int} (hD : 0 < D) (C : Cut T N D k) (hj : j = if nup T N D k then k + 1 else k) (hjF : j < FI) (hm : m < FI) (hv : v = (amt m : Int) ∨ v = -(amt m : Int)) :
    ((amt j : Int) * D - N * T).natAbs < (v * D - N * T).natAbs ∨ (((amt j : Int) * D - N * T).natAbs = (v * D - N * T).natAbs ∧ (v = (amt j : Int) ∨ j % 2 = 0)) := by
  have hD' : (0 : Int) < D := by omega
  have h1 : (amt k : Int) * D ≤ N * T := by
    have c1 : ((N * T : Nat) : Int) = (N : Int) * T := Int.natCast_mul ..
    have c2 : ((amt k * D : Nat) : Int) = (amt k : Int) * D := Int.natCast_mul ..
    have := C.2.1
    omega
  have h3 : k + 1 < FI → (N * T : Int) < (amt (k + 1) : Int) * D := fun h => by
    have c1 : ((N * T : Nat) : Int) = (N : Int) * T := Int.natCast_mul ..
    have c2 : ((amt (k + 1) * D : Nat) : Int) = (amt (k + 1) : Int) * D := Int.natCast_mul ..
    have := C.2.2.resolve_left (by omega)
    omega
  have h2 : (amt k : Int) * D < (amt (k + 1) : Int) * D := Int.mul_lt_mul_of_pos_right (by have := amt_lt (show k < k + 1 by omega); omega) hD'
  have hu : v * D ≤ (amt k : Int) * D ∨ ((amt (k + 1) : Int) * D ≤ v * D ∧ (N * T : Int) < (amt (k + 1) : Int) * D) := by
    rcases hv with rfl | rfl
    · by_cases hmk : m ≤ k
      · exact Or.inl (Int.mul_le_mul_of_nonneg_right (by have := amt_le hmk; omega) (by omega))
      · exact Or.inr ⟨Int.mul_le_mul_of_nonneg_right (by have := amt_le (show k + 1 ≤ m by omega); omega) (by omega), h3 (by omega)⟩
    · exact Or.inl (Int.mul_le_mul_of_nonneg_right (by omega) (by omega))
  have hup : nup T N D k = true ↔ (rst T N D k = 3 ∨ (rst T N D k = 2 ∧ k % 2 = 1)) := by unfold nup; rw [decide_eq_true_iff]
  have hc := near_core h1 h2 rst_parts hup hj hu (fun h => by rw [h, if_pos rfl] at hj; exact h3 (by omega))
  have e : (if nup T N D k = true then (amt (k + 1) : Int) * D else (amt k : Int) * D) = (amt j : Int) * D := by
    rw [hj]; split <;> rfl
  rw [e] at hc
  rcases hc with g | ⟨g, g2⟩
  · exact Or.inl g
  · refine Or.inr ⟨g, ?_⟩
    rcases g2 with g2 | g2
    · exact Or.inl (Int.eq_of_mul_eq_mul_right (by omega) g2)
    · exact Or.inr g2
theorem fv_key {b c : Nat} (h : fv b = fv c) : fkey b = fkey c := by
  have e : ∀ x, fv x = sgd (fneg x) (amt (x % SB)) := fun x => rfl
  have k : ∀ x, fkey x = sgd (fneg x) (x % SB) := fun x => rfl
  have h1 := sgd_lt (fneg b) (fneg c) (b % SB) (c % SB)
  have h2 := sgd_lt (fneg c) (fneg b) (c % SB) (b % SB)
  rw [e, e] at h
  rw [k, k]
  omega
theorem fv_fB' {s : Bool} {k : Nat} (h : k ≤ FI) : fv (fB s k) = sg s (amt k) := by
  unfold fv; rw [fB_neg h, fB_mod h]
/-- no float is nearer -/
theorem near_all {T : Nat} {s : Bool} {X Y k c : Nat} (C : Cut T (rN X Y) (rd Y) k) (hf : nearB T s X Y k % SB < FI) (hc : c % SB < FI) :
    (fv (nearB T s X Y k) * ((rd Y : Nat) : Int) - rn s X Y * (T : Int)).natAbs < (fv c * ((rd Y : Nat) : Int) - rn s X Y * (T : Int)).natAbs ∨
    ((fv (nearB T s X Y k) * ((rd Y : Nat) : Int) - rn s X Y * (T : Int)).natAbs = (fv c * ((rd Y : Nat) : Int) - rn s X Y * (T : Int)).natAbs ∧ (fkey (nearB T s X Y k) = fkey c ∨ nearB T s X Y k % 2 = 0)) := by
  have hk := C.1
  have ha : am (rn s X Y) = rN X Y := rN_am s X Y
  have hD := rd_pos Y
  obtain ⟨j, hj⟩ : ∃ j, j = if nup T (rN X Y) (rd Y) k then k + 1 else k := ⟨_, rfl⟩
  have hn : nearB T s X Y k = fB (decide (rn s X Y < 0)) j := by unfold nearB; rw [hj]
  have hjF : j ≤ FI := by rw [hj]; split <;> omega
  rw [hn, fB_mod hjF] at hf
  rw [hn]
  have hcv : fv c = sg (fneg c) (amt (c % SB)) := rfl
  have hpar : fB (decide (rn s X Y < 0)) j % 2 = j % 2 := by
    unfold fB; rw [SBv]; split <;> omega
  rw [hpar]
  have hkey : fv c = fv (fB (decide (rn s X Y < 0)) j) → fkey (fB (decide (rn s X Y < 0)) j) = fkey c := fun h => (fv_key h).symm
  rw [fv_fB' hjF] at hkey ⊢
  generalize rn s X Y = A at ha hkey ⊢
  generalize rN X Y = N at ha C hj
  generalize rd Y = D at C hD hj ⊢
  generalize fB (decide (A < 0)) j = B at hkey ⊢
  by_cases hA : A < 0
  · have hAN : A = -(N : Int) := by unfold am at ha; omega
    have hv : -(fv c) = (amt (c % SB) : Int) ∨ -(fv c) = -(amt (c % SB) : Int) := by rw [hcv]; unfold sg; split <;> omega
    have := near_pos hD C hj hf hc hv
    rw [decide_eq_true hA] at hkey ⊢
    have e1 : (sg true (amt j) * (D : Int) - A * (T : Int)).natAbs = ((amt j : Int) * D - N * T).natAbs := by
      rw [← Int.natAbs_neg]; congr 1; rw [hAN]; simp only [sg, if_true]; grind
    have e2 : (fv c * (D : Int) - A * (T : Int)).natAbs = (-(fv c) * D - N * T).natAbs := by
      rw [← Int.natAbs_neg]; congr 1; rw [hAN]; grind
    rw [e1, e2]
    rcases this with g | ⟨g, g2⟩
    · exact Or.inl g
    · refine Or.inr ⟨g, ?_⟩
      rcases g2 with g2 | g2
      · exact Or.inl (hkey (by simp only [sg, if_true]; omega))
      · exact Or.inr g2
  · have hAN : A = (N : Int) := by unfold am at ha; omega
    have hv : fv c = (amt (c % SB) : Int) ∨ fv c = -(amt (c % SB) : Int) := by rw [hcv]; unfold sg; split <;> omega
    have := near_pos hD C hj hf hc hv
    rw [decide_eq_false hA] at hkey ⊢
    rw [hAN]
    simp only [sg, Bool.false_eq_true, if_false] at hkey ⊢
    rcases this with g | ⟨g, g2⟩
    · exact Or.inl g
    · refine Or.inr ⟨g, ?_⟩
      rcases g2 with g2 | g2
      · exact Or.inl (hkey g2)
      · exact Or.inr g2
end Go.Proofs.Ytjofldgaefjapab

namespace Go.Proofs.Ytjofldgaefjapab
open Go.RowKit
set_option linter.unusedVariables false

/-- the distance of two numbers, and which is less -/
theorem dist_cmp {P : Int} {x y Z V1 : Int} {Z3 Z6 : Int} {V3 V6 : Nat} (h3 : Low ((x.natAbs : Nat) : Int) P Z3 V3) (h6 : Low ((y.natAbs : Nat) : Int) P Z6 V6) (hP : 0 < P) : sgn (rn (ng Z3) (am Z3) V3 * ((rd V6 : Nat) : Int) - rn (ng Z6) (am Z6) V6 * ((rd V3 : Nat) : Int)) = sgn ((x.natAbs : Int) - (y.natAbs : Int)) := by
  have p3 := h3.pos
  have p6 := h6.pos
  rw [rn_nf p3, rn_nf p6, rd_nf p3, rd_nf p6]
  have e3 := h3.eq
  have e6 := h6.eq
  have a := sgn_mul_pos (a := Z3 * (V6 : Int) - Z6 * (V3 : Int)) hP
  have b := sgn_mul_pos (a := (x.natAbs : Int) - (y.natAbs : Int)) (b := (V3 : Int) * (V6 : Int)) (Int.mul_pos (by omega) (by omega))
  rw [← a, ← b]
  congr 1
  grind
/-- what is too great -/
theorem over_all {T : Nat} {s : Bool} {X Y k : Nat} (C : Cut T (rN X Y) (rd Y) k) (hf : ¬ nearB T s X Y k % SB < FI) : nearB T s X Y k = fB (decide (rn s X Y < 0)) FI ∧ k + 1 = FI ∧ rst T (rN X Y) (rd Y) k ≠ 0 ∧ rn s X Y ≠ 0 := by
  have hk := C.1
  unfold nearB at hf ⊢
  by_cases hu : nup T (rN X Y) (rd Y) k = true
  · rw [if_pos hu] at hf ⊢
    rw [fB_mod (by omega)] at hf
    have e : k + 1 = FI := by omega
    have hr : rst T (rN X Y) (rd Y) k ≠ 0 := by unfold nup at hu; rw [decide_eq_true_iff] at hu; omega
    refine ⟨by rw [e], e, hr, fun h => hr ?_⟩
    have h2 := rN_am s X Y
    rw [h] at h2
    have h3 : rN X Y = 0 := by rw [← h2]; rfl
    rw [h3] at C ⊢
    have h4 := C.2.1
    rw [rst_zero]
    omega
  · rw [if_neg hu, fB_mod (by omega)] at hf
    exact absurd hk hf
theorem up_over {T : Nat} {X Y k k2 : Nat} {A ZA : Int} {VA : Nat} (hA : am A = rN X Y) (C : Cut T (rN X Y) (rd Y) k) (hk : k + 1 = FI) (hr : rst T (rN X Y) (rd Y) k ≠ 0) (hL : Low ((am A : Nat) : Int) ((rd Y : Nat) : Int) ZA VA) (C2 : Cut T (rN (am ZA) VA) (rd VA) k2) : upB T (ng ZA) (am ZA) VA k2 = FI := by
  have p := hL.pos
  have e := hL.eq
  have pY := rd_pos Y
  have e1 : rN (am ZA) VA = am ZA := rN_of (by omega)
  have e2 : rd VA = VA := rd_nf p
  have hZ : 0 ≤ ZA := by
    refine Int.le_of_not_gt fun g => ?_
    have h1 := Int.mul_neg_of_neg_of_pos g (show (0 : Int) < ((rd Y : Nat) : Int) by omega)
    have h2 := Int.mul_nonneg (show (0 : Int) ≤ ((am A : Nat) : Int) by omega) (show (0 : Int) ≤ (VA : Int) by omega)
    omega
  have hN : am ZA * rd Y = rN X Y * VA := by
    have h1 : ((am ZA : Nat) : Int) = ZA := by unfold am; omega
    have : ((am ZA * rd Y : Nat) : Int) = ((am A * VA : Nat) : Int) := by rw [Int.natCast_mul, Int.natCast_mul, h1]; exact e
    rw [hA] at this
    omega
  rw [e1, e2] at C2
  have a := cut_mono pY p (by omega) C C2
  have b := cut_mono p pY (by omega) C2 C
  obtain ⟨rfl, hrr⟩ : k = k2 ∧ rst T (rN X Y) (rd Y) k = rst T (am ZA) VA k2 := by
    rcases a with a | ⟨a, a'⟩ <;> rcases b with b | ⟨b, b'⟩
    · omega
    · omega
    · omega
    · exact ⟨a, by omega⟩
  unfold upB
  rw [e1, e2, rn_nf p, decide_eq_false (by omega), if_pos ⟨by rw [← hrr]; exact hr, by omega⟩, hk]; rfl

theorem abs_low {S x P M : Int} {U N : Nat} (hP : 0 < P) (h : Low x P S U) (m : Low ((x.natAbs : Nat) : Int) P M N) : Low ((am (rn (ng S) (am S) U) : Nat) : Int) ((rd U : Nat) : Int) M N := by
  have q := h.pos
  rw [rn_nf q, rd_nf q]
  refine m.congr (by omega) ?_
  have a1 := congrArg Int.natAbs h.eq
  rw [Int.natAbs_mul, Int.natAbs_mul, Int.natAbs_natCast] at a1
  have a2 : ((P.natAbs : Nat) : Int) = P := by omega
  have a3 : ((am S * P.natAbs : Nat) : Int) = ((x.natAbs * U : Nat) : Int) := congrArg Nat.cast a1
  rw [Int.natCast_mul, Int.natCast_mul, a2] at a3
  exact a3.symm
theorem ord_same {b c : Nat} (hb : b % SB ≤ FI) (hc : c % SB ≤ FI) (h : fkey b = fkey c) : FloatKind.f64.format.order b c = some .eq := by
  have e : FloatKind.f64.format.order b c = some (compare (fkey b) (fkey c)) := order_eq hb hc
  rw [e, fcmp_eq h]
theorem ord_diff {b c : Nat} (hb : b % SB ≤ FI) (hc : c % SB ≤ FI) (h : ¬ fkey b = fkey c) : (FloatKind.f64.format.order b c == some .eq) = false := by
  have e : FloatKind.f64.format.order b c = some (compare (fkey b) (fkey c)) := order_eq hb hc
  rw [e, eq_of_cmp, decide_eq_false h]
theorem amt_fv {b : Nat} (h : b % SB < FI) : am (fv b) < BB ^ 3000 := by unfold fv; rw [am_sg]; exact amt_ln h
theorem s_len {z T n m X Y : Nat} {s : Bool} {f S : Int} {U : Nat} (hz : z = 1074) (hT : T = 2 ^ z) (hf : am f < BB ^ 3000) (hX : X < BB ^ n) (hY : Y < BB ^ m) (h : Low (f * ((rd Y : Nat) : Int) - rn s X Y * (T : Int)) ((T : Int) * ((rd Y : Nat) : Int)) S U) (hn : n ≤ 1048576) (hm : m ≤ 1048576) : ln (am S) ≤ 1060000 ∧ ln U ≤ 1060000 := by
  have l0 := Nat.lt_of_le_of_lt (rn_am s X Y) hX
  have k0 := rd_lt hY
  have t0 := T_ln hz hT
  obtain ⟨c, hc⟩ : ∃ c : Nat, c = 3000 := ⟨_, rfl⟩
  rw [← hc] at hf t0
  rw [Int.sub_eq_add_neg, ← Int.neg_mul] at h
  exact ln1 h (lt_sum (lt_prod hf (by rw [am_nat]; exact k0)) (lt_prod (by rw [am_neg]; exact l0) (by rw [am_nat]; exact t0)) (k := 1060000) (by omega) (by omega)) (lt_prod (by rw [am_nat]; exact t0) (by rw [am_nat]; exact k0)) (k := 1060000) (by omega) (by omega)
theorem m_len {S M : Int} {U N : Nat} (h : Low ((am (rn (ng S) (am S) U) : Nat) : Int) ((rd U : Nat) : Int) M N) (h1 : ln (am S) ≤ 1060000) (h2 : ln U ≤ 1060000) : ln (am M) ≤ 1060001 ∧ ln N ≤ 1060001 := by
  have l0 := Nat.lt_of_le_of_lt (rn_am (ng S) (am S) U) (ln_lt (am S))
  have k0 := rd_lt (ln_lt U)
  exact ln1 h (by rw [am_nat]; exact l0) (by rw [am_nat]; exact k0) (k := 1060001) (by omega) (by omega)
end Go.Proofs.Ytjofldgaefjapab

namespace Go.Proofs.Ytjofldgaefjapab.approxNear
open Go.ChangeShapes Go.WideShapes Go.ChangeAt Go.RowKit Go.Proofs.Ytjofldgaefjapab
set_option linter.unusedVariables false

theorem cell_lt {w : World} {c o : Nat} {v : Value} (h : w.cell? ⟨c, o, none⟩ = some v) : c < w.heap.size := by
  obtain ⟨cur, e, fr, hb, _⟩ := Sort.cells_of_cell? h
  exact (Array.getElem?_eq_some_iff.1 hb).1
theorem al3 {X w1 : World} {u0 u1 u2 : Value} {t : TypeId} (b : Below (X.alloc (.cells #[u0, u1, u2] t)).heap.size (X.alloc (.cells #[u0, u1, u2] t)) w1) : w1.cell? ⟨X.heap.size, 0, none⟩ = some u0 ∧ w1.cell? ⟨X.heap.size, 1, none⟩ = some u1 ∧ w1.cell? ⟨X.heap.size, 2, none⟩ = some u2 ∧ Row w1 X.heap.size :=
  ⟨below_cell b (by go_simp), below_cell b (by go_simp), below_cell b (by go_simp), below_row b (row_new X _ t)⟩
theorem _root_.Go.Proofs.Ytjofldgaefjapab.New.seg3 {w1 w3 : World} {p : Option Addr} {Z n c : Nat} (h : New w1 w3 p Z n) (hc : c < w1.heap.size) (u v x : Value) : Seg (((w3.setCell ⟨c, 0, none⟩ u).setCell ⟨c, 1, none⟩ v).setCell ⟨c, 2, none⟩ x) p Z n :=
  (h.fre.mid ((((Mid.refl 0 w1.heap.size w3).set c 0 (Nat.zero_le _) hc u).set c 1 (Nat.zero_le _) hc v).set c 2 (Nat.zero_le _) hc x)).seg

set_option maxHeartbeats 8000000 in
set_option maxRecDepth 100000 in
theorem walk_is (s0 : Bool) (a0 : Option Addr) (n0 c0 X0 : Nat) (b0 : Option Addr) (m0 d0 Y0 : Nat) (b : Nat) (w : World) (hc0 : n0 ≤ c0) (hm0 : n0 ≤ 1048576) (hS0 : Seg w a0 X0 n0) (hd0 : m0 ≤ d0) (hk0 : m0 ≤ 1048576) (hT0 : Seg w b0 Y0 m0) (hb : b < 18446744073709551616) (hf : b % SB < FI) :
    Calls Try.prog 3 #[Value.agg #[Value.bool s0, Value.slice a0 n0 c0, Value.slice b0 m0 d0], .float .f64 b] w fun e w' => e = .returned (.bool true) ∧ Below w.heap.size w w' := by
  obtain ⟨z, hz⟩ : ∃ z : Nat, z = 1074 := ⟨_, rfl⟩
  obtain ⟨T, hT⟩ : ∃ T : Nat, T = 2 ^ z := ⟨_, rfl⟩
  have Hnear := hide' (fun w' k1 k2 => near_is s0 a0 n0 c0 X0 b0 m0 d0 Y0 z T w' hc0 (by omega) k1 hd0 (by omega) k2 hz hT)
  have HF := hide' (fun w' => lfinite_is b true w' hb (decide_eq_true hf))
  have hcF := hf
  have HZ := hide' hz
  have HT := hide' hT
  clear hz hT hf
  go_enter Try.func3, Try.ntmps3
  go_wp2_with fail
  have q00 : ((w.alloc (.cells #[.bool s0, .slice a0 n0 c0, .slice b0 m0 d0] 27))).cell? ⟨w.heap.size, 0, none⟩ = some (.bool s0) := by go_simp
  have q01 : ((w.alloc (.cells #[.bool s0, .slice a0 n0 c0, .slice b0 m0 d0] 27))).cell? ⟨w.heap.size, 1, none⟩ = some (.slice a0 n0 c0) := by go_simp
  have q02 : ((w.alloc (.cells #[.bool s0, .slice a0 n0 c0, .slice b0 m0 d0] 27))).cell? ⟨w.heap.size, 2, none⟩ = some (.slice b0 m0 d0) := by go_simp
  have hB : Below w.heap.size w ((w.alloc (.cells #[.bool s0, .slice a0 n0 c0, .slice b0 m0 d0] 27))) := ((Below.refl _ _).alloc (by (try simp only [World.size_alloc]); omega) _)
  have hz : ((w.alloc (.cells #[.bool s0, .slice a0 n0 c0, .slice b0 m0 d0] 27))).heap.size = w.heap.size + 1 := by simp only [World.size_alloc]
  generalize (w.alloc (.cells #[.bool s0, .slice a0 n0 c0, .slice b0 m0 d0] 27)) = W at q00 q01 q02 hB hz ⊢
  have hBW : Below W.heap.size W W := Below.refl _ _
  refine (HF.out _).mono ?_
  rintro e w5 ⟨rfl, b5⟩
  replace hBW := hBW.trans (b5.mono hBW.size)
  replace q00 := below_cell b5 q00
  replace q01 := below_cell b5 q01
  replace q02 := below_cell b5 q02
  go_wp2_with fail
  refine (Hnear.out _ (sb hS0 hB hBW) (sb hT0 hB hBW)).mono ?_
  rintro e w6 ⟨k, rfl, hC, bb6⟩
  have b6 := bb6
  replace hBW := hBW.trans (b6.mono hBW.size)
  replace q00 := below_cell b6 q00
  replace q01 := below_cell b6 q01
  replace q02 := below_cell b6 q02
  have hn6 : nearB T s0 X0 Y0 k < 18446744073709551616 := fB_lt (if_le hC.1)
  clear HF Hnear
  by_cases hnf : nearB T s0 X0 Y0 k % SB < FI
  · have HD := near_all (c := b) (s := s0) hC hnf hcF
    clear hC
    generalize nearB T s0 X0 Y0 k = n at *
    have HN := hide' (fun w' => lfinite_is n true w' hn6 (decide_eq_true hnf))
    have hTp : (0 : Int) < T := by rw [HT.out]; have := Nat.two_pow_pos z; omega
    have hPP : (0 : Int) < (T : Int) * ((rd Y0 : Nat) : Int) := Int.mul_pos hTp (by have := rd_pos Y0; omega)
    obtain ⟨Z1, V1, g1⟩ := low_ex (fv n) (T : Int) (by omega)
    have p1 := g1.pos
    obtain ⟨l1, m1⟩ := low_fl HZ.out HT.out (by unfold fv; rw [am_sg]; exact amt_ln hnf) g1
    obtain ⟨S1, U1, s1⟩ := low_ex (fv n * ((rd Y0 : Nat) : Int) - rn s0 X0 Y0 * (T : Int)) ((T : Int) * ((rd Y0 : Nat) : Int)) (by omega)
    obtain ⟨M1, N1, m_1⟩ := low_ex (((fv n * ((rd Y0 : Nat) : Int) - rn s0 X0 Y0 * (T : Int)).natAbs : Nat) : Int) ((T : Int) * ((rd Y0 : Nat) : Int)) (by omega)
    have q1 := s1.pos
    have hs1 : Low (rn (ng Z1) (am Z1) V1 * ((rd Y0 : Nat) : Int) + -(rn s0 X0 Y0) * ((rd V1 : Nat) : Int)) (((rd V1 : Nat) : Int) * ((rd Y0 : Nat) : Int)) S1 U1 := by
      rw [rn_nf p1, rd_nf p1]
      refine s1.congr (Int.mul_ne_zero (by omega) (rd_ne Y0)) ?_
      have a1 := g1.eq
      grind
    have hm1 := abs_low hPP s1 m_1
    have ls1 := s_len HZ.out HT.out (amt_fv hnf) hS0.1 hT0.1 s1 hm0 hk0
    have lm1 := m_len hm1 ls1.1 ls1.2
    obtain ⟨la1, lb1⟩ := ls1
    obtain ⟨lc1, ld1⟩ := lm1
    have HU1 := hide' (fun w' => lnumber_is z T n Z1 V1 w' HZ.out HT.out hn6 hnf g1)
    have HS1 := hide' (fun w' p q k1 k2 k3 k4 => vqSub_is (ng Z1) p (ln (am Z1)) (ln (am Z1)) (am Z1) q (ln V1) (ln V1) V1 s0 a0 n0 c0 X0 b0 m0 d0 Y0 S1 U1 w' (Nat.le_refl _) (by omega) k1 (Nat.le_refl _) (by omega) k2 hc0 (by omega) k3 hd0 (by omega) k4 hs1)
    have HA1 := hide' (fun w' p q k1 k2 => vqAbs_is (ng S1) p (ln (am S1)) (ln (am S1)) (am S1) q (ln U1) (ln U1) U1 M1 N1 w' (Nat.le_refl _) (by omega) k1 (Nat.le_refl _) (by omega) k2 hm1)
    obtain ⟨Z2, V2, g2⟩ := low_ex (fv b) (T : Int) (by omega)
    have p2 := g2.pos
    obtain ⟨l2, m2⟩ := low_fl HZ.out HT.out (by unfold fv; rw [am_sg]; exact amt_ln hcF) g2
    obtain ⟨S2, U2, s2⟩ := low_ex (fv b * ((rd Y0 : Nat) : Int) - rn s0 X0 Y0 * (T : Int)) ((T : Int) * ((rd Y0 : Nat) : Int)) (by omega)
    obtain ⟨M2, N2, m_2⟩ := low_ex (((fv b * ((rd Y0 : Nat) : Int) - rn s0 X0 Y0 * (T : Int)).natAbs : Nat) : Int) ((T : Int) * ((rd Y0 : Nat) : Int)) (by omega)
    have q2 := s2.pos
    have hs2 : Low (rn (ng Z2) (am Z2) V2 * ((rd Y0 : Nat) : Int) + -(rn s0 X0 Y0) * ((rd V2 : Nat) : Int)) (((rd V2 : Nat) : Int) * ((rd Y0 : Nat) : Int)) S2 U2 := by
      rw [rn_nf p2, rd_nf p2]
      refine s2.congr (Int.mul_ne_zero (by omega) (rd_ne Y0)) ?_
      have a1 := g2.eq
      grind
    have hm2 := abs_low hPP s2 m_2
    have ls2 := s_len HZ.out HT.out (amt_fv hcF) hS0.1 hT0.1 s2 hm0 hk0
    have lm2 := m_len hm2 ls2.1 ls2.2
    obtain ⟨la2, lb2⟩ := ls2
    obtain ⟨lc2, ld2⟩ := lm2
    have HU2 := hide' (fun w' => lnumber_is z T b Z2 V2 w' HZ.out HT.out hb hcF g2)
    have HS2 := hide' (fun w' p q k1 k2 k3 k4 => vqSub_is (ng Z2) p (ln (am Z2)) (ln (am Z2)) (am Z2) q (ln V2) (ln V2) V2 s0 a0 n0 c0 X0 b0 m0 d0 Y0 S2 U2 w' (Nat.le_refl _) (by omega) k1 (Nat.le_refl _) (by omega) k2 hc0 (by omega) k3 hd0 (by omega) k4 hs2)
    have HA2 := hide' (fun w' p q k1 k2 => vqAbs_is (ng S2) p (ln (am S2)) (ln (am S2)) (am S2) q (ln U2) (ln U2) U2 M2 N2 w' (Nat.le_refl _) (by omega) k1 (Nat.le_refl _) (by omega) k2 hm2)
    have hcd := dist_cmp (Z := 0) (V1 := 0) m_1 m_2 hPP
    obtain ⟨C, hCC⟩ : ∃ C, sgn (((fv n * ((rd Y0 : Nat) : Int) - rn s0 X0 Y0 * (T : Int)).natAbs : Int) - ((fv b * ((rd Y0 : Nat) : Int) - rn s0 X0 Y0 * (T : Int)).natAbs : Int)) = C := ⟨_, rfl⟩
    rw [hCC] at hcd
    have HC := hide' (fun w' p q p' q' k1 k2 k3 k4 => vqCmp_is (ng M1) p (ln (am M1)) (ln (am M1)) (am M1) q (ln N1) (ln N1) N1 (ng M2) p' (ln (am M2)) (ln (am M2)) (am M2) q' (ln N2) (ln N2) N2 C w' (Nat.le_refl _) (by omega) k1 (Nat.le_refl _) (by omega) k2 (Nat.le_refl _) (by omega) k3 (Nat.le_refl _) (by omega) k4 hcd)
    have hfin : C = -1 ∨ (C = 0 ∧ (fkey n = fkey b ∨ n % 2 = 0)) := by
      rw [← hCC]
      rcases HD with h | ⟨h, h2⟩
      · exact Or.inl (sgn_neg (by omega))
      · refine Or.inr ⟨?_, h2⟩
        rw [show ∀ a b : Nat, a = b → ((a : Int) - (b : Int)) = 0 from fun a b e => by omega]
        · rfl
        · exact h
    have HFIN := hide' hfin
    have hnm : n % SB ≤ FI := by omega
    have hcm : b % SB ≤ FI := by omega
    have HLE := hide' hcm
    have HLN := hide' hnm
    clear hfin hCC hcd HD hm1 hm2 hs1 hs2 m_1 m_2 g1 g2 p1 p2 q1 q2 hPP hTp hnm hcm HZ HT
    have hnf2 := hnf
    clear hnf hcF hnf2
    go_wp2_with fail
    refine (HN.out _).mono ?_
    rintro e w7 ⟨rfl, b7⟩
    replace hBW := hBW.trans (b7.mono hBW.size)
    replace q00 := below_cell b7 q00
    replace q01 := below_cell b7 q01
    replace q02 := below_cell b7 q02
    go_upto_region 7 with fail
    have hsW1 := hBW.size
    replace hB := hB.trans (hBW.mono hB.size)
    clear hBW
    have hBW : Below w7.heap.size w7 w7 := Below.refl _ _
    go_cut [7] from 38 to 42 (fun s7 wx => ∃ wv c p q, wv = wx ∧ s7 = .pointer (some ⟨c, 0, none⟩) ∧ w7.heap.size ≤ c ∧ wx.cell? ⟨c, 0, none⟩ = some (.bool (ng M1)) ∧ wx.cell? ⟨c, 1, none⟩ = some (.slice p (ln (am M1)) (ln (am M1))) ∧ wx.cell? ⟨c, 2, none⟩ = some (.slice q (ln N1) (ln N1)) ∧ Seg wx p (am M1) (ln (am M1)) ∧ Seg wx q N1 (ln N1) ∧ Below w7.heap.size w7 wx)
    case first =>
      replace hBW := hBW.drew
      first
        | go_region_held3 (fun w' => w'.cell? ⟨w.heap.size, 0, none⟩ = some (.bool s0) ∧ w'.cell? ⟨w.heap.size, 1, none⟩ = some (.slice a0 n0 c0) ∧ w'.cell? ⟨w.heap.size, 2, none⟩ = some (.slice b0 m0 d0) ∧ Below w.heap.size w w')
            (first | exact ⟨q00, q01, q02, hB.trans (hBW.mono hB.size)⟩ | exact kp3 b61 (by assumption) | exact kp3 b62 (by assumption) | exact kp3 b63 (by assumption) | exact kp3 (below_alloc _) (by assumption) | exact kp3 (below_alloc _) ⟨q00, q01, q02, hB.trans (hBW.mono hB.size)⟩ | exact kpT3_3 (by assumption) (by omega) (by omega) (by omega) (by omega))
            (first
              | (go_at_call 15; (fail_if_success clear b61); refine Calls.mono (HU1.out _) ?_; rintro e w61 ⟨p61, q61, rfl, hp61, hq61⟩; have b61 := hp61.below; (try replace b61 := un_drew b61); (try ((fail_if_success (have hh := laR)); obtain ⟨la0, la1, la2, laR⟩ := al3 b61; have lage := hBW.size; have lac := lt_al (w := _) (o := _) (Nat.le_refl _) b61; (try simp only [size_drew] at la0 la1 la2 laR lage lac); replace b61 := below_al b61)); (try (have lac := laR.lt; replace la0 := below_cell b61 la0; replace la1 := below_cell b61 la1; replace la2 := below_cell b61 la2; replace laR := below_row b61 laR)); (try (have laf := fun o => laR.frozen o)); replace hBW := hBW.trans (b61.mono hBW.size); replace q00 := below_cell b61 q00; replace q01 := below_cell b61 q01; replace q02 := below_cell b61 q02; have kP61 := hp61.seg; have kQ61 := hq61.seg; clear hp61 hq61)
              | (go_at_call 14; (fail_if_success clear b62); refine Calls.mono (HS1.out _ p61 q61 (by first | exact kP61 | exact (kP61).later (below_alloc _)) (by first | exact kQ61 | exact (kQ61).later (below_alloc _)) (by first | exact (sb hS0 hB hBW) | exact ((sb hS0 hB hBW)).later (below_alloc _)) (by first | exact (sb hT0 hB hBW) | exact ((sb hT0 hB hBW)).later (below_alloc _))) ?_; rintro e w62 ⟨p62, q62, rfl, hp62, hq62⟩; have b62 := hp62.below; (try replace b62 := un_drew b62); (try ((fail_if_success (have hh := laR)); obtain ⟨la0, la1, la2, laR⟩ := al3 b62; have lage := hBW.size; have lac := lt_al (w := _) (o := _) (Nat.le_refl _) b62; (try simp only [size_drew] at la0 la1 la2 laR lage lac); replace b62 := below_al b62)); (try (have lac := laR.lt; replace la0 := below_cell b62 la0; replace la1 := below_cell b62 la1; replace la2 := below_cell b62 la2; replace laR := below_row b62 laR)); (try (have laf := fun o => laR.frozen o)); replace hBW := hBW.trans (b62.mono hBW.size); replace q00 := below_cell b62 q00; replace q01 := below_cell b62 q01; replace q02 := below_cell b62 q02; replace kP61 := kP61.later b62; replace kQ61 := kQ61.later b62; have kP62 := hp62.seg; have kQ62 := hq62.seg; clear hp62 hq62)
              | (go_at_call 10; (fail_if_success clear b63); refine Calls.mono (HA1.out _ p62 q62 (by first | exact kP62 | exact (kP62).later (below_alloc _)) (by first | exact kQ62 | exact (kQ62).later (below_alloc _))) ?_; rintro e w63 ⟨p63, q63, rfl, hp63, hq63⟩; have b63 := hp63.below; (try replace b63 := un_drew b63); (try ((fail_if_success (have hh := laR)); obtain ⟨la0, la1, la2, laR⟩ := al3 b63; have lage := hBW.size; have lac := lt_al (w := _) (o := _) (Nat.le_refl _) b63; (try simp only [size_drew] at la0 la1 la2 laR lage lac); replace b63 := below_al b63)); (try (have lac := laR.lt; replace la0 := below_cell b63 la0; replace la1 := below_cell b63 la1; replace la2 := below_cell b63 la2; replace laR := below_row b63 laR)); (try (have laf := fun o => laR.frozen o)); replace hBW := hBW.trans (b63.mono hBW.size); replace q00 := below_cell b63 q00; replace q01 := below_cell b63 q01; replace q02 := below_cell b63 q02; replace kP61 := kP61.later b63; replace kQ61 := kQ61.later b63; replace kP62 := kP62.later b63; replace kQ62 := kQ62.later b63))
        | fail
      all_goals go_wp2_with fail
      all_goals go_meet
      all_goals first
        | exact ⟨_, _, _, _, rfl, rfl, lage, (set3_same la0 la1 la2).1, (set3_same la0 la1 la2).2.1, (set3_same la0 la1 la2).2.2, hp63.seg3 lac _ _ _, hq63.seg3 lac _ _ _, ((hBW.setCell lage _).setCell lage _).setCell lage _⟩
        | exact ⟨_, _, _, _, rfl, rfl, hBW.size, by go_simp, by go_simp, by go_simp, hp63.seg.later (below_alloc _), hq63.seg.later (below_alloc _), hBW.trans ((below_alloc _).mono hBW.size)⟩
    case rest =>
    clear hBW
    obtain ⟨wz1, c1, pp1, qq1, hwz, rfl, hge1, lc10, lc11, lc12, kP1, kQ1, hBW⟩ := hcut
    subst hwz
    have hlt1 := cell_lt lc10
    replace q00 := below_cell hBW q00
    replace q01 := below_cell hBW q01
    replace q02 := below_cell hBW q02
    go_upto_region 8 with fail
    have hsW2 := hBW.size
    replace hB := hB.trans (hBW.mono hB.size)
    clear hBW
    have hBW : Below wz1.heap.size wz1 wz1 := Below.refl _ _
    go_cut [8] from 43 to 47 (fun s7 wx => ∃ wv c p q, wv = wx ∧ s7 = .pointer (some ⟨c, 0, none⟩) ∧ wz1.heap.size ≤ c ∧ wx.cell? ⟨c, 0, none⟩ = some (.bool (ng M2)) ∧ wx.cell? ⟨c, 1, none⟩ = some (.slice p (ln (am M2)) (ln (am M2))) ∧ wx.cell? ⟨c, 2, none⟩ = some (.slice q (ln N2) (ln N2)) ∧ Seg wx p (am M2) (ln (am M2)) ∧ Seg wx q N2 (ln N2) ∧ Below wz1.heap.size wz1 wx)
    case first =>
      replace hBW := hBW.drew
      first
        | go_region_held3 (fun w' => w'.cell? ⟨w.heap.size, 0, none⟩ = some (.bool s0) ∧ w'.cell? ⟨w.heap.size, 1, none⟩ = some (.slice a0 n0 c0) ∧ w'.cell? ⟨w.heap.size, 2, none⟩ = some (.slice b0 m0 d0) ∧ w'.cell? ⟨c1, 0, none⟩ = some (.bool (ng M1)) ∧ w'.cell? ⟨c1, 1, none⟩ = some (.slice pp1 (ln (am M1)) (ln (am M1))) ∧ w'.cell? ⟨c1, 2, none⟩ = some (.slice qq1 (ln N1) (ln N1)) ∧ Below w.heap.size w w')
            (first | exact ⟨q00, q01, q02, lc10, lc11, lc12, hB.trans (hBW.mono hB.size)⟩ | exact kp6 b81 (by assumption) | exact kp6 b82 (by assumption) | exact kp6 b83 (by assumption) | exact kp6 (below_alloc _) (by assumption) | exact kp6 (below_alloc _) ⟨q00, q01, q02, lc10, lc11, lc12, hB.trans (hBW.mono hB.size)⟩ | exact kpT6_3 (by assumption) (by omega) (by omega) (by omega) (by omega) (by omega) (by omega) (by omega))
            (first
              | (go_at_call 15; (fail_if_success clear b81); refine Calls.mono (HU2.out _) ?_; rintro e w81 ⟨p81, q81, rfl, hp81, hq81⟩; have b81 := hp81.below; (try replace b81 := un_drew b81); (try ((fail_if_success (have hh := laR)); obtain ⟨la0, la1, la2, laR⟩ := al3 b81; have lage := hBW.size; have lac := lt_al (w := _) (o := _) (Nat.le_refl _) b81; (try simp only [size_drew] at la0 la1 la2 laR lage lac); replace b81 := below_al b81)); (try (have lac := laR.lt; replace la0 := below_cell b81 la0; replace la1 := below_cell b81 la1; replace la2 := below_cell b81 la2; replace laR := below_row b81 laR)); (try (have laf := fun o => laR.frozen o)); replace hBW := hBW.trans (b81.mono hBW.size); replace q00 := below_cell b81 q00; replace q01 := below_cell b81 q01; replace q02 := below_cell b81 q02; replace lc10 := below_cell b81 lc10; replace lc11 := below_cell b81 lc11; replace lc12 := below_cell b81 lc12; have kP81 := hp81.seg; have kQ81 := hq81.seg; clear hp81 hq81)
              | (go_at_call 14; (fail_if_success clear b82); refine Calls.mono (HS2.out _ p81 q81 (by first | exact kP81 | exact (kP81).later (below_alloc _)) (by first | exact kQ81 | exact (kQ81).later (below_alloc _)) (by first | exact (sb hS0 hB hBW) | exact ((sb hS0 hB hBW)).later (below_alloc _)) (by first | exact (sb hT0 hB hBW) | exact ((sb hT0 hB hBW)).later (below_alloc _))) ?_; rintro e w82 ⟨p82, q82, rfl, hp82, hq82⟩; have b82 := hp82.below; (try replace b82 := un_drew b82); (try ((fail_if_success (have hh := laR)); obtain ⟨la0, la1, la2, laR⟩ := al3 b82; have lage := hBW.size; have lac := lt_al (w := _) (o := _) (Nat.le_refl _) b82; (try simp only [size_drew] at la0 la1 la2 laR lage lac); replace b82 := below_al b82)); (try (have lac := laR.lt; replace la0 := below_cell b82 la0; replace la1 := below_cell b82 la1; replace la2 := below_cell b82 la2; replace laR := below_row b82 laR)); (try (have laf := fun o => laR.frozen o)); replace hBW := hBW.trans (b82.mono hBW.size); replace q00 := below_cell b82 q00; replace q01 := below_cell b82 q01; replace q02 := below_cell b82 q02; replace lc10 := below_cell b82 lc10; replace lc11 := below_cell b82 lc11; replace lc12 := below_cell b82 lc12; replace kP81 := kP81.later b82; replace kQ81 := kQ81.later b82; have kP82 := hp82.seg; have kQ82 := hq82.seg; clear hp82 hq82)
              | (go_at_call 10; (fail_if_success clear b83); refine Calls.mono (HA2.out _ p82 q82 (by first | exact kP82 | exact (kP82).later (below_alloc _)) (by first | exact kQ82 | exact (kQ82).later (below_alloc _))) ?_; rintro e w83 ⟨p83, q83, rfl, hp83, hq83⟩; have b83 := hp83.below; (try replace b83 := un_drew b83); (try ((fail_if_success (have hh := laR)); obtain ⟨la0, la1, la2, laR⟩ := al3 b83; have lage := hBW.size; have lac := lt_al (w := _) (o := _) (Nat.le_refl _) b83; (try simp only [size_drew] at la0 la1 la2 laR lage lac); replace b83 := below_al b83)); (try (have lac := laR.lt; replace la0 := below_cell b83 la0; replace la1 := below_cell b83 la1; replace la2 := below_cell b83 la2; replace laR := below_row b83 laR)); (try (have laf := fun o => laR.frozen o)); replace hBW := hBW.trans (b83.mono hBW.size); replace q00 := below_cell b83 q00; replace q01 := below_cell b83 q01; replace q02 := below_cell b83 q02; replace lc10 := below_cell b83 lc10; replace lc11 := below_cell b83 lc11; replace lc12 := below_cell b83 lc12; replace kP81 := kP81.later b83; replace kQ81 := kQ81.later b83; replace kP82 := kP82.later b83; replace kQ82 := kQ82.later b83))
        | fail
      all_goals go_wp2_with fail
      all_goals go_meet
      all_goals first
        | exact ⟨_, _, _, _, rfl, rfl, lage, (set3_same la0 la1 la2).1, (set3_same la0 la1 la2).2.1, (set3_same la0 la1 la2).2.2, hp83.seg3 lac _ _ _, hq83.seg3 lac _ _ _, ((hBW.setCell lage _).setCell lage _).setCell lage _⟩
        | exact ⟨_, _, _, _, rfl, rfl, hBW.size, by go_simp, by go_simp, by go_simp, hp83.seg.later (below_alloc _), hq83.seg.later (below_alloc _), hBW.trans ((below_alloc _).mono hBW.size)⟩
    case rest =>
    clear hBW
    obtain ⟨wz2, c2, pp2, qq2, hwz, rfl, hge2, lc20, lc21, lc22, kP2, kQ2, hBW⟩ := hcut
    subst hwz
    have hlt2 := cell_lt lc20
    replace q00 := below_cell hBW q00
    replace q01 := below_cell hBW q01
    replace q02 := below_cell hBW q02
    replace lc10 := below_cell hBW lc10
    replace lc11 := below_cell hBW lc11
    replace lc12 := below_cell hBW lc12
    replace kP1 := kP1.later hBW
    replace kQ1 := kQ1.later hBW
    go_wp2_with fail
    refine (HC.out _ _ _ _ _ kP1 kQ1 kP2 kQ2).mono ?_
    rintro e w91 ⟨rfl, b91⟩
    replace hBW := hBW.trans (b91.mono hBW.size)
    replace q00 := below_cell b91 q00
    replace q01 := below_cell b91 q01
    replace q02 := below_cell b91 q02
    replace lc10 := below_cell b91 lc10
    replace lc11 := below_cell b91 lc11
    replace lc12 := below_cell b91 lc12
    replace lc20 := below_cell b91 lc20
    replace lc21 := below_cell b91 lc21
    replace lc22 := below_cell b91 lc22
    replace kP1 := kP1.later b91
    replace kQ1 := kQ1.later b91
    replace kP2 := kP2.later b91
    replace kQ2 := kQ2.later b91
    rcases HFIN.out with rfl | ⟨rfl, h⟩
    · skip
      clear HFIN HLE HLN
      go_wp2
      go_ret
      exact ⟨rfl, hB.trans (hBW.mono hB.size)⟩
    · by_cases hk : fkey n = fkey b
      · have hE := ord_same HLN.out HLE.out hk
        clear HFIN HLE HLN hk h
        go_wp2
        go_ret
        exact ⟨rfl, hB.trans (hBW.mono hB.size)⟩
      · have hE := ord_diff HLN.out HLE.out hk
        have hev : ((n : Int) % 2 == 0) = true := by rw [beq_iff_eq]; have := h.resolve_left hk; omega
        have hbr := bits_run
        clear HFIN HLE HLN hk h
        go_wp2
        go_ret
        exact ⟨rfl, hB.trans (hBW.mono hB.size)⟩
  · obtain ⟨eN, eK, eR, eA⟩ := over_all hC hnf
    have HN := hide' (fun w' => lfinite_is _ false w' hn6 (decide_eq_false hnf))
    rw [eN] at HN hn6 ⊢
    clear eN hnf
    obtain ⟨ZA, VA, gA⟩ := low_ex ((am (rn s0 X0 Y0) : Nat) : Int) ((rd Y0 : Nat) : Int) (rd_ne Y0)
    have lA := gA.le
    rw [am_nat, am_nat] at lA
    have lA1 : ln (am ZA) ≤ n0 := ln_le_of_lt (Nat.lt_of_le_of_lt (Nat.le_trans lA.1 (rn_am s0 X0 Y0)) hS0.1)
    have lA2 : ln VA ≤ m0 + 1 := ln_le_of_lt (Nat.lt_of_le_of_lt lA.2 (rd_lt hT0.1))
    clear lA
    have HA := hide' (fun w' k1 k2 => vqAbs_is s0 a0 n0 c0 X0 b0 m0 d0 Y0 ZA VA w' hc0 (by omega) k1 hd0 (by omega) k2 gA)
    have HUp := hide' (fun w' p q k1 k2 => vup_is (ng ZA) p (ln (am ZA)) (ln (am ZA)) (am ZA) q (ln VA) (ln VA) VA z T w' (Nat.le_refl _) (by omega) k1 (Nat.le_refl _) (by omega) k2 HZ.out HT.out)
    have HOV := hide' (fun k2 => up_over (rN_am s0 X0 Y0) hC eK eR gA (k2 := k2))
    have HFI := hide' (fun w' => lfinite_is FI false w' (by decide) (by decide))
    obtain ⟨C, hCC⟩ : ∃ C, sgn (rn s0 X0 Y0) = C := ⟨_, rfl⟩
    have HSg := hide' (fun w' k1 k2 => vqSign_is s0 a0 n0 c0 X0 b0 m0 d0 Y0 C w' hc0 (by omega) k1 hd0 (by omega) k2 hCC)
    have hbr := bits_run
    have hmod := fB_mod (s := decide (rn s0 X0 Y0 < 0)) (Nat.le_refl FI)
    have hgt : (FloatKind.f64.format.order (fB (decide (rn s0 X0 Y0 < 0)) FI) 0 == some .gt) = decide (0 < C) := by
      rw [show FloatKind.f64.format = Ieee.double from rfl, f_above hn6 (by rw [hmod]; exact Nat.le_refl _), decide_eq_decide, ← hCC]
      have e1 := FIv
      have e2 := SBv
      by_cases hA : rn s0 X0 Y0 < 0
      · rw [decide_eq_true hA, sgn_neg hA]; unfold fB; simp; try omega
      · rw [decide_eq_false hA, sgn_pos (by omega)]; unfold fB; simp; try omega
    have HNN' := fun w' => vnan_any (fB (decide (rn s0 X0 Y0 < 0)) FI) w' hn6
    rw [hmod, decide_eq_false (Nat.lt_irrefl FI)] at HNN'
    have HNN := hide' HNN'
    clear HNN' hmod gA hCC hC eK eR eA HZ HT
    generalize fB (decide (rn s0 X0 Y0 < 0)) FI = n at *
    go_wp2_with fail
    refine (HN.out _).mono ?_
    rintro e w7 ⟨rfl, b7⟩
    replace hBW := hBW.trans (b7.mono hBW.size)
    replace q00 := below_cell b7 q00
    replace q01 := below_cell b7 q01
    replace q02 := below_cell b7 q02
    go_wp2_with fail
    refine (HA.out _ (sb hS0 hB hBW) (sb hT0 hB hBW)).mono ?_
    rintro e w8 ⟨p8, q8, rfl, hp8, hq8⟩
    have b8 := hp8.below
    replace hp8 := hp8.back hBW
    replace hq8 := hq8.back hBW
    replace hBW := hBW.trans (b8.mono hBW.size)
    replace q00 := below_cell b8 q00
    replace q01 := below_cell b8 q01
    replace q02 := below_cell b8 q02
    go_wp2_with fail
    refine (HUp.out _ _ _ hp8.seg hq8.seg).mono ?_
    rintro e w9 ⟨k2, rfl, hC2, bb9⟩
    have b9 := bb9
    replace hBW := hBW.trans (b9.mono hBW.size)
    replace q00 := below_cell b9 q00
    replace q01 := below_cell b9 q01
    replace q02 := below_cell b9 q02
    replace hp8 := hp8.later b9
    replace hq8 := hq8.later b9
    rw [HOV.out _ hC2]
    clear HOV hC2
    go_wp2_with fail
    refine (HFI.out _).mono ?_
    rintro e w10 ⟨rfl, b10⟩
    replace hBW := hBW.trans (b10.mono hBW.size)
    replace q00 := below_cell b10 q00
    replace q01 := below_cell b10 q01
    replace q02 := below_cell b10 q02
    replace hp8 := hp8.later b10
    replace hq8 := hq8.later b10
    go_wp2_with fail
    refine (HNN.out _).mono ?_
    rintro e w19 ⟨rfl, rfl⟩
    go_wp2_with fail
    refine (HSg.out _ (sb hS0 hB hBW) (sb hT0 hB hBW)).mono ?_
    rintro e w11 ⟨rfl, b11⟩
    replace hBW := hBW.trans (b11.mono hBW.size)
    replace q00 := below_cell b11 q00
    replace q01 := below_cell b11 q01
    replace q02 := below_cell b11 q02
    replace hp8 := hp8.later b11
    replace hq8 := hq8.later b11
    by_cases hc0C : 0 < C
    · rw [decide_eq_true hc0C] at hgt
      go_wp2
      go_ret
      exact ⟨rfl, hB.trans (hBW.mono hB.size)⟩
    · rw [decide_eq_false hc0C] at hgt
      go_wp2
      go_ret
      exact ⟨rfl, hB.trans (hBW.mono hB.size)⟩
set_option maxHeartbeats 8000000 in
set_option maxRecDepth 100000 in
theorem walk_no (s0 : Bool) (a0 : Option Addr) (n0 c0 X0 : Nat) (b0 : Option Addr) (m0 d0 Y0 : Nat) (b : Nat) (w : World) (hc0 : n0 ≤ c0) (hm0 : n0 ≤ 1048576) (hS0 : Seg w a0 X0 n0) (hd0 : m0 ≤ d0) (hk0 : m0 ≤ 1048576) (hT0 : Seg w b0 Y0 m0) (hb : b < 18446744073709551616) (hf : ¬ b % SB < FI) :
    Calls Try.prog 3 #[Value.agg #[Value.bool s0, Value.slice a0 n0 c0, Value.slice b0 m0 d0], .float .f64 b] w fun e w' => e = .returned (.bool true) ∧ Below w.heap.size w w' := by
  obtain ⟨z, hz⟩ : ∃ z : Nat, z = 1074 := ⟨_, rfl⟩
  obtain ⟨T, hT⟩ : ∃ T : Nat, T = 2 ^ z := ⟨_, rfl⟩
  have Hnear := hide' (fun w' k1 k2 => near_is s0 a0 n0 c0 X0 b0 m0 d0 Y0 z T w' hc0 (by omega) k1 hd0 (by omega) k2 hz hT)
  have HF := hide' (fun w' => lfinite_is b false w' hb (decide_eq_false hf))
  have hcF : 0 % SB < FI := by decide
  have hb0 : (0 : Nat) < 18446744073709551616 := by omega
  have HZ := hide' hz
  have HT := hide' hT
  clear hz hT hf
  go_enter Try.func3, Try.ntmps3
  go_wp2_with fail
  have q00 : ((w.alloc (.cells #[.bool s0, .slice a0 n0 c0, .slice b0 m0 d0] 27))).cell? ⟨w.heap.size, 0, none⟩ = some (.bool s0) := by go_simp
  have q01 : ((w.alloc (.cells #[.bool s0, .slice a0 n0 c0, .slice b0 m0 d0] 27))).cell? ⟨w.heap.size, 1, none⟩ = some (.slice a0 n0 c0) := by go_simp
  have q02 : ((w.alloc (.cells #[.bool s0, .slice a0 n0 c0, .slice b0 m0 d0] 27))).cell? ⟨w.heap.size, 2, none⟩ = some (.slice b0 m0 d0) := by go_simp
  have hB : Below w.heap.size w ((w.alloc (.cells #[.bool s0, .slice a0 n0 c0, .slice b0 m0 d0] 27))) := ((Below.refl _ _).alloc (by (try simp only [World.size_alloc]); omega) _)
  have hz : ((w.alloc (.cells #[.bool s0, .slice a0 n0 c0, .slice b0 m0 d0] 27))).heap.size = w.heap.size + 1 := by simp only [World.size_alloc]
  generalize (w.alloc (.cells #[.bool s0, .slice a0 n0 c0, .slice b0 m0 d0] 27)) = W at q00 q01 q02 hB hz ⊢
  have hBW : Below W.heap.size W W := Below.refl _ _
  refine (HF.out _).mono ?_
  rintro e w5 ⟨rfl, b5⟩
  replace hBW := hBW.trans (b5.mono hBW.size)
  replace q00 := below_cell b5 q00
  replace q01 := below_cell b5 q01
  replace q02 := below_cell b5 q02
  go_wp2_with fail
  refine (Hnear.out _ (sb hS0 hB hBW) (sb hT0 hB hBW)).mono ?_
  rintro e w6 ⟨k, rfl, hC, bb6⟩
  have b6 := bb6
  replace hBW := hBW.trans (b6.mono hBW.size)
  replace q00 := below_cell b6 q00
  replace q01 := below_cell b6 q01
  replace q02 := below_cell b6 q02
  have hn6 : nearB T s0 X0 Y0 k < 18446744073709551616 := fB_lt (if_le hC.1)
  clear HF Hnear
  by_cases hnf : nearB T s0 X0 Y0 k % SB < FI
  · have HD := near_all (c := 0) (s := s0) hC hnf hcF
    clear hC
    generalize nearB T s0 X0 Y0 k = n at *
    have HN := hide' (fun w' => lfinite_is n true w' hn6 (decide_eq_true hnf))
    have hTp : (0 : Int) < T := by rw [HT.out]; have := Nat.two_pow_pos z; omega
    have hPP : (0 : Int) < (T : Int) * ((rd Y0 : Nat) : Int) := Int.mul_pos hTp (by have := rd_pos Y0; omega)
    obtain ⟨Z1, V1, g1⟩ := low_ex (fv n) (T : Int) (by omega)
    have p1 := g1.pos
    obtain ⟨l1, m1⟩ := low_fl HZ.out HT.out (by unfold fv; rw [am_sg]; exact amt_ln hnf) g1
    obtain ⟨S1, U1, s1⟩ := low_ex (fv n * ((rd Y0 : Nat) : Int) - rn s0 X0 Y0 * (T : Int)) ((T : Int) * ((rd Y0 : Nat) : Int)) (by omega)
    obtain ⟨M1, N1, m_1⟩ := low_ex (((fv n * ((rd Y0 : Nat) : Int) - rn s0 X0 Y0 * (T : Int)).natAbs : Nat) : Int) ((T : Int) * ((rd Y0 : Nat) : Int)) (by omega)
    have q1 := s1.pos
    have hs1 : Low (rn (ng Z1) (am Z1) V1 * ((rd Y0 : Nat) : Int) + -(rn s0 X0 Y0) * ((rd V1 : Nat) : Int)) (((rd V1 : Nat) : Int) * ((rd Y0 : Nat) : Int)) S1 U1 := by
      rw [rn_nf p1, rd_nf p1]
      refine s1.congr (Int.mul_ne_zero (by omega) (rd_ne Y0)) ?_
      have a1 := g1.eq
      grind
    have hm1 := abs_low hPP s1 m_1
    have ls1 := s_len HZ.out HT.out (amt_fv hnf) hS0.1 hT0.1 s1 hm0 hk0
    have lm1 := m_len hm1 ls1.1 ls1.2
    obtain ⟨la1, lb1⟩ := ls1
    obtain ⟨lc1, ld1⟩ := lm1
    have HU1 := hide' (fun w' => lnumber_is z T n Z1 V1 w' HZ.out HT.out hn6 hnf g1)
    have HS1 := hide' (fun w' p q k1 k2 k3 k4 => vqSub_is (ng Z1) p (ln (am Z1)) (ln (am Z1)) (am Z1) q (ln V1) (ln V1) V1 s0 a0 n0 c0 X0 b0 m0 d0 Y0 S1 U1 w' (Nat.le_refl _) (by omega) k1 (Nat.le_refl _) (by omega) k2 hc0 (by omega) k3 hd0 (by omega) k4 hs1)
    have HA1 := hide' (fun w' p q k1 k2 => vqAbs_is (ng S1) p (ln (am S1)) (ln (am S1)) (am S1) q (ln U1) (ln U1) U1 M1 N1 w' (Nat.le_refl _) (by omega) k1 (Nat.le_refl _) (by omega) k2 hm1)
    obtain ⟨Z2, V2, g2⟩ := low_ex (fv 0) (T : Int) (by omega)
    have p2 := g2.pos
    obtain ⟨l2, m2⟩ := low_fl HZ.out HT.out (by unfold fv; rw [am_sg]; exact amt_ln hcF) g2
    obtain ⟨S2, U2, s2⟩ := low_ex (fv 0 * ((rd Y0 : Nat) : Int) - rn s0 X0 Y0 * (T : Int)) ((T : Int) * ((rd Y0 : Nat) : Int)) (by omega)
    obtain ⟨M2, N2, m_2⟩ := low_ex (((fv 0 * ((rd Y0 : Nat) : Int) - rn s0 X0 Y0 * (T : Int)).natAbs : Nat) : Int) ((T : Int) * ((rd Y0 : Nat) : Int)) (by omega)
    have q2 := s2.pos
    have hs2 : Low (rn (ng Z2) (am Z2) V2 * ((rd Y0 : Nat) : Int) + -(rn s0 X0 Y0) * ((rd V2 : Nat) : Int)) (((rd V2 : Nat) : Int) * ((rd Y0 : Nat) : Int)) S2 U2 := by
      rw [rn_nf p2, rd_nf p2]
      refine s2.congr (Int.mul_ne_zero (by omega) (rd_ne Y0)) ?_
      have a1 := g2.eq
      grind
    have hm2 := abs_low hPP s2 m_2
    have ls2 := s_len HZ.out HT.out (amt_fv hcF) hS0.1 hT0.1 s2 hm0 hk0
    have lm2 := m_len hm2 ls2.1 ls2.2
    obtain ⟨la2, lb2⟩ := ls2
    obtain ⟨lc2, ld2⟩ := lm2
    have HU2 := hide' (fun w' => lnumber_is z T 0 Z2 V2 w' HZ.out HT.out hb0 hcF g2)
    have HS2 := hide' (fun w' p q k1 k2 k3 k4 => vqSub_is (ng Z2) p (ln (am Z2)) (ln (am Z2)) (am Z2) q (ln V2) (ln V2) V2 s0 a0 n0 c0 X0 b0 m0 d0 Y0 S2 U2 w' (Nat.le_refl _) (by omega) k1 (Nat.le_refl _) (by omega) k2 hc0 (by omega) k3 hd0 (by omega) k4 hs2)
    have HA2 := hide' (fun w' p q k1 k2 => vqAbs_is (ng S2) p (ln (am S2)) (ln (am S2)) (am S2) q (ln U2) (ln U2) U2 M2 N2 w' (Nat.le_refl _) (by omega) k1 (Nat.le_refl _) (by omega) k2 hm2)
    have hcd := dist_cmp (Z := 0) (V1 := 0) m_1 m_2 hPP
    obtain ⟨C, hCC⟩ : ∃ C, sgn (((fv n * ((rd Y0 : Nat) : Int) - rn s0 X0 Y0 * (T : Int)).natAbs : Int) - ((fv 0 * ((rd Y0 : Nat) : Int) - rn s0 X0 Y0 * (T : Int)).natAbs : Int)) = C := ⟨_, rfl⟩
    rw [hCC] at hcd
    have HC := hide' (fun w' p q p' q' k1 k2 k3 k4 => vqCmp_is (ng M1) p (ln (am M1)) (ln (am M1)) (am M1) q (ln N1) (ln N1) N1 (ng M2) p' (ln (am M2)) (ln (am M2)) (am M2) q' (ln N2) (ln N2) N2 C w' (Nat.le_refl _) (by omega) k1 (Nat.le_refl _) (by omega) k2 (Nat.le_refl _) (by omega) k3 (Nat.le_refl _) (by omega) k4 hcd)
    have hfin : C = -1 ∨ (C = 0 ∧ (fkey n = fkey 0 ∨ n % 2 = 0)) := by
      rw [← hCC]
      rcases HD with h | ⟨h, h2⟩
      · exact Or.inl (sgn_neg (by omega))
      · refine Or.inr ⟨?_, h2⟩
        rw [show ∀ a b : Nat, a = b → ((a : Int) - (b : Int)) = 0 from fun a b e => by omega]
        · rfl
        · exact h
    have HFIN := hide' hfin
    have hnm : n % SB ≤ FI := by omega
    have hcm : 0 % SB ≤ FI := by omega
    have HLE := hide' hcm
    have HLN := hide' hnm
    clear hfin hCC hcd HD hm1 hm2 hs1 hs2 m_1 m_2 g1 g2 p1 p2 q1 q2 hPP hTp hnm hcm HZ HT
    have hnf2 := hnf
    clear hnf hcF hnf2
    go_wp2_with fail
    refine (HN.out _).mono ?_
    rintro e w7 ⟨rfl, b7⟩
    replace hBW := hBW.trans (b7.mono hBW.size)
    replace q00 := below_cell b7 q00
    replace q01 := below_cell b7 q01
    replace q02 := below_cell b7 q02
    go_upto_region 7 with fail
    have hsW1 := hBW.size
    replace hB := hB.trans (hBW.mono hB.size)
    clear hBW
    have hBW : Below w7.heap.size w7 w7 := Below.refl _ _
    go_cut [7] from 38 to 42 (fun s7 wx => ∃ wv c p q, wv = wx ∧ s7 = .pointer (some ⟨c, 0, none⟩) ∧ w7.heap.size ≤ c ∧ wx.cell? ⟨c, 0, none⟩ = some (.bool (ng M1)) ∧ wx.cell? ⟨c, 1, none⟩ = some (.slice p (ln (am M1)) (ln (am M1))) ∧ wx.cell? ⟨c, 2, none⟩ = some (.slice q (ln N1) (ln N1)) ∧ Seg wx p (am M1) (ln (am M1)) ∧ Seg wx q N1 (ln N1) ∧ Below w7.heap.size w7 wx)
    case first =>
      replace hBW := hBW.drew
      first
        | go_region_held3 (fun w' => w'.cell? ⟨w.heap.size, 0, none⟩ = some (.bool s0) ∧ w'.cell? ⟨w.heap.size, 1, none⟩ = some (.slice a0 n0 c0) ∧ w'.cell? ⟨w.heap.size, 2, none⟩ = some (.slice b0 m0 d0) ∧ Below w.heap.size w w')
            (first | exact ⟨q00, q01, q02, hB.trans (hBW.mono hB.size)⟩ | exact kp3 b61 (by assumption) | exact kp3 b62 (by assumption) | exact kp3 b63 (by assumption) | exact kp3 (below_alloc _) (by assumption) | exact kp3 (below_alloc _) ⟨q00, q01, q02, hB.trans (hBW.mono hB.size)⟩ | exact kpT3_3 (by assumption) (by omega) (by omega) (by omega) (by omega))
            (first
              | (go_at_call 15; (fail_if_success clear b61); refine Calls.mono (HU1.out _) ?_; rintro e w61 ⟨p61, q61, rfl, hp61, hq61⟩; have b61 := hp61.below; (try replace b61 := un_drew b61); (try ((fail_if_success (have hh := laR)); obtain ⟨la0, la1, la2, laR⟩ := al3 b61; have lage := hBW.size; have lac := lt_al (w := _) (o := _) (Nat.le_refl _) b61; (try simp only [size_drew] at la0 la1 la2 laR lage lac); replace b61 := below_al b61)); (try (have lac := laR.lt; replace la0 := below_cell b61 la0; replace la1 := below_cell b61 la1; replace la2 := below_cell b61 la2; replace laR := below_row b61 laR)); (try (have laf := fun o => laR.frozen o)); replace hBW := hBW.trans (b61.mono hBW.size); replace q00 := below_cell b61 q00; replace q01 := below_cell b61 q01; replace q02 := below_cell b61 q02; have kP61 := hp61.seg; have kQ61 := hq61.seg; clear hp61 hq61)
              | (go_at_call 14; (fail_if_success clear b62); refine Calls.mono (HS1.out _ p61 q61 (by first | exact kP61 | exact (kP61).later (below_alloc _)) (by first | exact kQ61 | exact (kQ61).later (below_alloc _)) (by first | exact (sb hS0 hB hBW) | exact ((sb hS0 hB hBW)).later (below_alloc _)) (by first | exact (sb hT0 hB hBW) | exact ((sb hT0 hB hBW)).later (below_alloc _))) ?_; rintro e w62 ⟨p62, q62, rfl, hp62, hq62⟩; have b62 := hp62.below; (try replace b62 := un_drew b62); (try ((fail_if_success (have hh := laR)); obtain ⟨la0, la1, la2, laR⟩ := al3 b62; have lage := hBW.size; have lac := lt_al (w := _) (o := _) (Nat.le_refl _) b62; (try simp only [size_drew] at la0 la1 la2 laR lage lac); replace b62 := below_al b62)); (try (have lac := laR.lt; replace la0 := below_cell b62 la0; replace la1 := below_cell b62 la1; replace la2 := below_cell b62 la2; replace laR := below_row b62 laR)); (try (have laf := fun o => laR.frozen o)); replace hBW := hBW.trans (b62.mono hBW.size); replace q00 := below_cell b62 q00; replace q01 := below_cell b62 q01; replace q02 := below_cell b62 q02; replace kP61 := kP61.later b62; replace kQ61 := kQ61.later b62; have kP62 := hp62.seg; have kQ62 := hq62.seg; clear hp62 hq62)
              | (go_at_call 10; (fail_if_success clear b63); refine Calls.mono (HA1.out _ p62 q62 (by first | exact kP62 | exact (kP62).later (below_alloc _)) (by first | exact kQ62 | exact (kQ62).later (below_alloc _))) ?_; rintro e w63 ⟨p63, q63, rfl, hp63, hq63⟩; have b63 := hp63.below; (try replace b63 := un_drew b63); (try ((fail_if_success (have hh := laR)); obtain ⟨la0, la1, la2, laR⟩ := al3 b63; have lage := hBW.size; have lac := lt_al (w := _) (o := _) (Nat.le_refl _) b63; (try simp only [size_drew] at la0 la1 la2 laR lage lac); replace b63 := below_al b63)); (try (have lac := laR.lt; replace la0 := below_cell b63 la0; replace la1 := below_cell b63 la1; replace la2 := below_cell b63 la2; replace laR := below_row b63 laR)); (try (have laf := fun o => laR.frozen o)); replace hBW := hBW.trans (b63.mono hBW.size); replace q00 := below_cell b63 q00; replace q01 := below_cell b63 q01; replace q02 := below_cell b63 q02; replace kP61 := kP61.later b63; replace kQ61 := kQ61.later b63; replace kP62 := kP62.later b63; replace kQ62 := kQ62.later b63))
        | fail
      all_goals go_wp2_with fail
      all_goals go_meet
      all_goals first
        | exact ⟨_, _, _, _, rfl, rfl, lage, (set3_same la0 la1 la2).1, (set3_same la0 la1 la2).2.1, (set3_same la0 la1 la2).2.2, hp63.seg3 lac _ _ _, hq63.seg3 lac _ _ _, ((hBW.setCell lage _).setCell lage _).setCell lage _⟩
        | exact ⟨_, _, _, _, rfl, rfl, hBW.size, by go_simp, by go_simp, by go_simp, hp63.seg.later (below_alloc _), hq63.seg.later (below_alloc _), hBW.trans ((below_alloc _).mono hBW.size)⟩
    case rest =>
    clear hBW
    obtain ⟨wz1, c1, pp1, qq1, hwz, rfl, hge1, lc10, lc11, lc12, kP1, kQ1, hBW⟩ := hcut
    subst hwz
    have hlt1 := cell_lt lc10
    replace q00 := below_cell hBW q00
    replace q01 := below_cell hBW q01
    replace q02 := below_cell hBW q02
    go_upto_region 8 with fail
    have hsW2 := hBW.size
    replace hB := hB.trans (hBW.mono hB.size)
    clear hBW
    have hBW : Below wz1.heap.size wz1 wz1 := Below.refl _ _
    go_cut [8] from 43 to 47 (fun s7 wx => ∃ wv c p q, wv = wx ∧ s7 = .pointer (some ⟨c, 0, none⟩) ∧ wz1.heap.size ≤ c ∧ wx.cell? ⟨c, 0, none⟩ = some (.bool (ng M2)) ∧ wx.cell? ⟨c, 1, none⟩ = some (.slice p (ln (am M2)) (ln (am M2))) ∧ wx.cell? ⟨c, 2, none⟩ = some (.slice q (ln N2) (ln N2)) ∧ Seg wx p (am M2) (ln (am M2)) ∧ Seg wx q N2 (ln N2) ∧ Below wz1.heap.size wz1 wx)
    case first =>
      replace hBW := hBW.drew
      first
        | go_region_held3 (fun w' => w'.cell? ⟨w.heap.size, 0, none⟩ = some (.bool s0) ∧ w'.cell? ⟨w.heap.size, 1, none⟩ = some (.slice a0 n0 c0) ∧ w'.cell? ⟨w.heap.size, 2, none⟩ = some (.slice b0 m0 d0) ∧ w'.cell? ⟨c1, 0, none⟩ = some (.bool (ng M1)) ∧ w'.cell? ⟨c1, 1, none⟩ = some (.slice pp1 (ln (am M1)) (ln (am M1))) ∧ w'.cell? ⟨c1, 2, none⟩ = some (.slice qq1 (ln N1) (ln N1)) ∧ Below w.heap.size w w')
            (first | exact ⟨q00, q01, q02, lc10, lc11, lc12, hB.trans (hBW.mono hB.size)⟩ | exact kp6 b81 (by assumption) | exact kp6 b82 (by assumption) | exact kp6 b83 (by assumption) | exact kp6 (below_alloc _) (by assumption) | exact kp6 (below_alloc _) ⟨q00, q01, q02, lc10, lc11, lc12, hB.trans (hBW.mono hB.size)⟩ | exact kpT6_3 (by assumption) (by omega) (by omega) (by omega) (by omega) (by omega) (by omega) (by omega))
            (first
              | (go_at_call 15; (fail_if_success clear b81); refine Calls.mono (HU2.out _) ?_; rintro e w81 ⟨p81, q81, rfl, hp81, hq81⟩; have b81 := hp81.below; (try replace b81 := un_drew b81); (try ((fail_if_success (have hh := laR)); obtain ⟨la0, la1, la2, laR⟩ := al3 b81; have lage := hBW.size; have lac := lt_al (w := _) (o := _) (Nat.le_refl _) b81; (try simp only [size_drew] at la0 la1 la2 laR lage lac); replace b81 := below_al b81)); (try (have lac := laR.lt; replace la0 := below_cell b81 la0; replace la1 := below_cell b81 la1; replace la2 := below_cell b81 la2; replace laR := below_row b81 laR)); (try (have laf := fun o => laR.frozen o)); replace hBW := hBW.trans (b81.mono hBW.size); replace q00 := below_cell b81 q00; replace q01 := below_cell b81 q01; replace q02 := below_cell b81 q02; replace lc10 := below_cell b81 lc10; replace lc11 := below_cell b81 lc11; replace lc12 := below_cell b81 lc12; have kP81 := hp81.seg; have kQ81 := hq81.seg; clear hp81 hq81)
              | (go_at_call 14; (fail_if_success clear b82); refine Calls.mono (HS2.out _ p81 q81 (by first | exact kP81 | exact (kP81).later (below_alloc _)) (by first | exact kQ81 | exact (kQ81).later (below_alloc _)) (by first | exact (sb hS0 hB hBW) | exact ((sb hS0 hB hBW)).later (below_alloc _)) (by first | exact (sb hT0 hB hBW) | exact ((sb hT0 hB hBW)).later (below_alloc _))) ?_; rintro e w82 ⟨p82, q82, rfl, hp82, hq82⟩; have b82 := hp82.below; (try replace b82 := un_drew b82); (try ((fail_if_success (have hh := laR)); obtain ⟨la0, la1, la2, laR⟩ := al3 b82; have lage := hBW.size; have lac := lt_al (w := _) (o := _) (Nat.le_refl _) b82; (try simp only [size_drew] at la0 la1 la2 laR lage lac); replace b82 := below_al b82)); (try (have lac := laR.lt; replace la0 := below_cell b82 la0; replace la1 := below_cell b82 la1; replace la2 := below_cell b82 la2; replace laR := below_row b82 laR)); (try (have laf := fun o => laR.frozen o)); replace hBW := hBW.trans (b82.mono hBW.size); replace q00 := below_cell b82 q00; replace q01 := below_cell b82 q01; replace q02 := below_cell b82 q02; replace lc10 := below_cell b82 lc10; replace lc11 := below_cell b82 lc11; replace lc12 := below_cell b82 lc12; replace kP81 := kP81.later b82; replace kQ81 := kQ81.later b82; have kP82 := hp82.seg; have kQ82 := hq82.seg; clear hp82 hq82)
              | (go_at_call 10; (fail_if_success clear b83); refine Calls.mono (HA2.out _ p82 q82 (by first | exact kP82 | exact (kP82).later (below_alloc _)) (by first | exact kQ82 | exact (kQ82).later (below_alloc _))) ?_; rintro e w83 ⟨p83, q83, rfl, hp83, hq83⟩; have b83 := hp83.below; (try replace b83 := un_drew b83); (try ((fail_if_success (have hh := laR)); obtain ⟨la0, la1, la2, laR⟩ := al3 b83; have lage := hBW.size; have lac := lt_al (w := _) (o := _) (Nat.le_refl _) b83; (try simp only [size_drew] at la0 la1 la2 laR lage lac); replace b83 := below_al b83)); (try (have lac := laR.lt; replace la0 := below_cell b83 la0; replace la1 := below_cell b83 la1; replace la2 := below_cell b83 la2; replace laR := below_row b83 laR)); (try (have laf := fun o => laR.frozen o)); replace hBW := hBW.trans (b83.mono hBW.size); replace q00 := below_cell b83 q00; replace q01 := below_cell b83 q01; replace q02 := below_cell b83 q02; replace lc10 := below_cell b83 lc10; replace lc11 := below_cell b83 lc11; replace lc12 := below_cell b83 lc12; replace kP81 := kP81.later b83; replace kQ81 := kQ81.later b83; replace kP82 := kP82.later b83; replace kQ82 := kQ82.later b83))
        | fail
      all_goals go_wp2_with fail
      all_goals go_meet
      all_goals first
        | exact ⟨_, _, _, _, rfl, rfl, lage, (set3_same la0 la1 la2).1, (set3_same la0 la1 la2).2.1, (set3_same la0 la1 la2).2.2, hp83.seg3 lac _ _ _, hq83.seg3 lac _ _ _, ((hBW.setCell lage _).setCell lage _).setCell lage _⟩
        | exact ⟨_, _, _, _, rfl, rfl, hBW.size, by go_simp, by go_simp, by go_simp, hp83.seg.later (below_alloc _), hq83.seg.later (below_alloc _), hBW.trans ((below_alloc _).mono hBW.size)⟩
    case rest =>
    clear hBW
    obtain ⟨wz2, c2, pp2, qq2, hwz, rfl, hge2, lc20, lc21, lc22, kP2, kQ2, hBW⟩ := hcut
    subst hwz
    have hlt2 := cell_lt lc20
    replace q00 := below_cell hBW q00
    replace q01 := below_cell hBW q01
    replace q02 := below_cell hBW q02
    replace lc10 := below_cell hBW lc10
    replace lc11 := below_cell hBW lc11
    replace lc12 := below_cell hBW lc12
    replace kP1 := kP1.later hBW
    replace kQ1 := kQ1.later hBW
    go_wp2_with fail
    refine (HC.out _ _ _ _ _ kP1 kQ1 kP2 kQ2).mono ?_
    rintro e w91 ⟨rfl, b91⟩
    replace hBW := hBW.trans (b91.mono hBW.size)
    replace q00 := below_cell b91 q00
    replace q01 := below_cell b91 q01
    replace q02 := below_cell b91 q02
    replace lc10 := below_cell b91 lc10
    replace lc11 := below_cell b91 lc11
    replace lc12 := below_cell b91 lc12
    replace lc20 := below_cell b91 lc20
    replace lc21 := below_cell b91 lc21
    replace lc22 := below_cell b91 lc22
    replace kP1 := kP1.later b91
    replace kQ1 := kQ1.later b91
    replace kP2 := kP2.later b91
    replace kQ2 := kQ2.later b91
    rcases HFIN.out with rfl | ⟨rfl, h⟩
    · skip
      clear HFIN HLE HLN
      go_wp2
      go_ret
      exact ⟨rfl, hB.trans (hBW.mono hB.size)⟩
    · by_cases hk : fkey n = fkey 0
      · have hE := ord_same HLN.out HLE.out hk
        clear HFIN HLE HLN hk h
        go_wp2
        go_ret
        exact ⟨rfl, hB.trans (hBW.mono hB.size)⟩
      · have hE := ord_diff HLN.out HLE.out hk
        have hev : ((n : Int) % 2 == 0) = true := by rw [beq_iff_eq]; have := h.resolve_left hk; omega
        have hbr := bits_run
        clear HFIN HLE HLN hk h
        go_wp2
        go_ret
        exact ⟨rfl, hB.trans (hBW.mono hB.size)⟩
  · obtain ⟨eN, eK, eR, eA⟩ := over_all hC hnf
    have HN := hide' (fun w' => lfinite_is _ false w' hn6 (decide_eq_false hnf))
    rw [eN] at HN hn6 ⊢
    clear eN hnf
    obtain ⟨ZA, VA, gA⟩ := low_ex ((am (rn s0 X0 Y0) : Nat) : Int) ((rd Y0 : Nat) : Int) (rd_ne Y0)
    have lA := gA.le
    rw [am_nat, am_nat] at lA
    have lA1 : ln (am ZA) ≤ n0 := ln_le_of_lt (Nat.lt_of_le_of_lt (Nat.le_trans lA.1 (rn_am s0 X0 Y0)) hS0.1)
    have lA2 : ln VA ≤ m0 + 1 := ln_le_of_lt (Nat.lt_of_le_of_lt lA.2 (rd_lt hT0.1))
    clear lA
    have HA := hide' (fun w' k1 k2 => vqAbs_is s0 a0 n0 c0 X0 b0 m0 d0 Y0 ZA VA w' hc0 (by omega) k1 hd0 (by omega) k2 gA)
    have HUp := hide' (fun w' p q k1 k2 => vup_is (ng ZA) p (ln (am ZA)) (ln (am ZA)) (am ZA) q (ln VA) (ln VA) VA z T w' (Nat.le_refl _) (by omega) k1 (Nat.le_refl _) (by omega) k2 HZ.out HT.out)
    have HOV := hide' (fun k2 => up_over (rN_am s0 X0 Y0) hC eK eR gA (k2 := k2))
    have HFI := hide' (fun w' => lfinite_is FI false w' (by decide) (by decide))
    obtain ⟨C, hCC⟩ : ∃ C, sgn (rn s0 X0 Y0) = C := ⟨_, rfl⟩
    have HSg := hide' (fun w' k1 k2 => vqSign_is s0 a0 n0 c0 X0 b0 m0 d0 Y0 C w' hc0 (by omega) k1 hd0 (by omega) k2 hCC)
    have hbr := bits_run
    have hmod := fB_mod (s := decide (rn s0 X0 Y0 < 0)) (Nat.le_refl FI)
    have hgt : (FloatKind.f64.format.order (fB (decide (rn s0 X0 Y0 < 0)) FI) 0 == some .gt) = decide (0 < C) := by
      rw [show FloatKind.f64.format = Ieee.double from rfl, f_above hn6 (by rw [hmod]; exact Nat.le_refl _), decide_eq_decide, ← hCC]
      have e1 := FIv
      have e2 := SBv
      by_cases hA : rn s0 X0 Y0 < 0
      · rw [decide_eq_true hA, sgn_neg hA]; unfold fB; simp; try omega
      · rw [decide_eq_false hA, sgn_pos (by omega)]; unfold fB; simp; try omega
    have HNN' := fun w' => vnan_any (fB (decide (rn s0 X0 Y0 < 0)) FI) w' hn6
    rw [hmod, decide_eq_false (Nat.lt_irrefl FI)] at HNN'
    have HNN := hide' HNN'
    clear HNN' hmod gA hCC hC eK eR eA HZ HT
    generalize fB (decide (rn s0 X0 Y0 < 0)) FI = n at *
    go_wp2_with fail
    refine (HN.out _).mono ?_
    rintro e w7 ⟨rfl, b7⟩
    replace hBW := hBW.trans (b7.mono hBW.size)
    replace q00 := below_cell b7 q00
    replace q01 := below_cell b7 q01
    replace q02 := below_cell b7 q02
    go_wp2_with fail
    refine (HA.out _ (sb hS0 hB hBW) (sb hT0 hB hBW)).mono ?_
    rintro e w8 ⟨p8, q8, rfl, hp8, hq8⟩
    have b8 := hp8.below
    replace hp8 := hp8.back hBW
    replace hq8 := hq8.back hBW
    replace hBW := hBW.trans (b8.mono hBW.size)
    replace q00 := below_cell b8 q00
    replace q01 := below_cell b8 q01
    replace q02 := below_cell b8 q02
    go_wp2_with fail
    refine (HUp.out _ _ _ hp8.seg hq8.seg).mono ?_
    rintro e w9 ⟨k2, rfl, hC2, bb9⟩
    have b9 := bb9
    replace hBW := hBW.trans (b9.mono hBW.size)
    replace q00 := below_cell b9 q00
    replace q01 := below_cell b9 q01
    replace q02 := below_cell b9 q02
    replace hp8 := hp8.later b9
    replace hq8 := hq8.later b9
    rw [HOV.out _ hC2]
    clear HOV hC2
    go_wp2_with fail
    refine (HFI.out _).mono ?_
    rintro e w10 ⟨rfl, b10⟩
    replace hBW := hBW.trans (b10.mono hBW.size)
    replace q00 := below_cell b10 q00
    replace q01 := below_cell b10 q01
    replace q02 := below_cell b10 q02
    replace hp8 := hp8.later b10
    replace hq8 := hq8.later b10
    go_wp2_with fail
    refine (HNN.out _).mono ?_
    rintro e w19 ⟨rfl, rfl⟩
    go_wp2_with fail
    refine (HSg.out _ (sb hS0 hB hBW) (sb hT0 hB hBW)).mono ?_
    rintro e w11 ⟨rfl, b11⟩
    replace hBW := hBW.trans (b11.mono hBW.size)
    replace q00 := below_cell b11 q00
    replace q01 := below_cell b11 q01
    replace q02 := below_cell b11 q02
    replace hp8 := hp8.later b11
    replace hq8 := hq8.later b11
    by_cases hc0C : 0 < C
    · rw [decide_eq_true hc0C] at hgt
      go_wp2
      go_ret
      exact ⟨rfl, hB.trans (hBW.mono hB.size)⟩
    · rw [decide_eq_false hc0C] at hgt
      go_wp2
      go_ret
      exact ⟨rfl, hB.trans (hBW.mono hB.size)⟩
theorem walk (s0 : Bool) (a0 : Option Addr) (n0 c0 X0 : Nat) (b0 : Option Addr) (m0 d0 Y0 : Nat) (b : Nat) (w : World) (hc0 : n0 ≤ c0) (hm0 : n0 ≤ 1048576) (hS0 : Seg w a0 X0 n0) (hd0 : m0 ≤ d0) (hk0 : m0 ≤ 1048576) (hT0 : Seg w b0 Y0 m0) (hb : b < 18446744073709551616) :
    Calls Try.prog 3 #[Value.agg #[Value.bool s0, Value.slice a0 n0 c0, Value.slice b0 m0 d0], .float .f64 b] w fun e w' => e = .returned (.bool true) ∧ Below w.heap.size w w' := by
  by_cases hf : b % SB < FI
  · exact walk_is s0 a0 n0 c0 X0 b0 m0 d0 Y0 b w hc0 hm0 hS0 hd0 hk0 hT0 hb hf
  · exact walk_no s0 a0 n0 c0 X0 b0 m0 d0 Y0 b w hc0 hm0 hS0 hd0 hk0 hT0 hb hf

set_option maxRecDepth 100000 in
theorem contract (H : Type) (enc : TypeId × Value → H) (W : World) (base : Nat) (args : Array Value) (ds gs : List (DataW H)) (before : List MemPlace)
    (hval : ∀ (j : Nat) t v, Try.f3.params[j]? = some t → args[j]? = some v → Value.okWide Try.prog W .any base t v)
    (hW : DataW.Whole enc Try.prog Try.f3.params.toList Rows.approxNearSpec.vars false W args.toList ds gs before)
    (hsz : (DataW.weightsEach Try.prog (Try.f3.params.toList ++ Rows.approxNearSpec.plain.varTypes Try.prog) (ds ++ gs)).all (· ≤ reachBytes) = true) (hk : Rows.uptoSmall H (ds ++ gs) = true) :
    Calls Try.prog 3 args W fun e W' => ∃ v, e = .returned v ∧ Rows.approxNearSpec.post enc Try.prog Try.f3 false true false false W args v W' := by
  have hW' := hW
  obtain ⟨p, q, hA0, hV, rfl, hfz, hnd⟩ := hW
  have hA : DataW.TrodAll enc Try.prog W 0 (fun _ => true) true Try.f3.params.toList args.toList ds p := hA0
  rw [Try.params3] at hA hval hsz
  obtain ⟨v0, vs0, d0, ds0, p0, q0, hargs, rfl, rfl, h0, r0⟩ := trodAll_cons hA
  obtain ⟨v1, vs1, d1, ds1, p1, q1, rfl, rfl, rfl, h1, r1⟩ := trodAll_cons r0
  obtain ⟨rfl, rfl, rfl⟩ := trodAll_nil r1
  obtain rfl : args = #[v0, v1] := by cases args; simp_all
  obtain ⟨rfl, rfl⟩ := trodVars_none hV
  have lt0 : ∀ x ∈ p0, x.block < W.heap.size := by obtain ⟨m, hm⟩ := h0; exact DataW.trod_lt m _ _ _ hm
  obtain ⟨rs0, ra0, rn0, rc0, rX0, rb0, rm0, re0, rY0, rfl, hS0, hc0, hb0, hT0, hd0, hk0, hu0, hv0⟩ := open_Rat (hval 0 27 v0 rfl rfl) h0 (sized_at 0 hsz rfl rfl)
  obtain ⟨n1, rfl, rfl, rfl, w1⟩ := open_float Try.underlying28 (hval 1 28 v1 rfl rfl) h1
  have hn1 : n1 < 18446744073709551616 := by simpa [Lit.wf] using w1
  clear hA0
  have hbulk := of_decide_eq_true hk
  simp only [List.append_nil, Rows.uptoBulkAll] at hbulk
  replace hb0 : rn0 ≤ 1048576 := by omega
  replace hk0 : rm0 ≤ 1048576 := by omega
  simp only [List.append_nil] at hW'
  refine (walk rs0 ra0 rn0 rc0 rX0 rb0 rm0 re0 rY0 n1 W hc0 hb0 hS0 hd0 hk0 hT0 hn1).mono fun e W' ⟨he, bel⟩ => ?_
  subst he
  exact ⟨_, rfl, _, _, _, [], _, [], hW', trodAll_mk1 (shut_bool Try.underlying4 _), (trodAll_cons_mk (Below.trod laidOut (by kernel_rfl) (of_decide_eq_true (by kernel_rfl)) h0 bel lt0) (trodAll_cons_mk (shut_float Try.underlying28 w1) trodAll_mk0)), rfl, bel.frame _, fun h => by cases h⟩

set_option maxRecDepth 100000 in
theorem lifted (os : Os) (started : os.Started) (H : Type) (enc : TypeId × Value → H) (F : Stop.Interp) :
    ReturnsInHanded {} Try.checked os 3 .any ((Rows.OpenSpec.upto Rows.approxNearSpec).pre6 enc Try.prog Try.f3 Rows.approxNearUptoRow.domain false) (((Rows.OpenSpec.upto Rows.approxNearSpec).at F).post enc Try.prog Try.f3 false true false false) := by
  refine returnsInHanded_of_cond_sized (C := Try.checked) (s := Rows.OpenSpec.upto Rows.approxNearSpec) (k := Rows.uptoSmall) rfl own started (by kernel_rfl) Try.func3
    (OpenSpec.witness (enc := enc) (C := Try.checked) (s := Rows.OpenSpec.upto Rows.approxNearSpec) (k := Rows.uptoSmall) rfl false ⟨#[], #[.agg #[.bool false, .slice none 0 0, .slice none 0 0], .float .f64 0], []⟩ 8 (by kernel_rfl) (by kernel_rfl) (by kernel_rfl)
      (x := ([.agg [.agg [.lit (.bool false), .nil], .nil], .lit (.float .f64 0)], [], [])) (by kernel_rfl) rfl (by kernel_rfl)) ?_
  intro W base args ds gs before hval hW _ hk hsz _
  exact contract H enc W base args ds gs before hval hW hsz hk

theorem over : Rows.approxNearUptoRow.holds Try.pinned (Rows.OpenSpec.upto Rows.approxNearSpec) :=
  OpenClaim.holds_of_cond 3 Try.f3 rfl rfl rfl rfl rfl rfl rfl ⟨rfl, rfl, rfl, rfl, rfl⟩ rfl rfl rfl rfl rfl (by kernel_rfl) Try.func3 (by kernel_rfl)
    (of_decide_eq_true (by kernel_rfl)) (by unfold Func.isWrapper; first | (rw [if_pos (by decide +kernel)]; kernel_rfl) | (rw [if_neg (by decide +kernel)]; exact ⟨rfl, rfl⟩))
    (fun os started H enc _ F => lifted os started H enc F)

end Go.Proofs.Ytjofldgaefjapab.approxNear
namespace Go.Proofs.Ytjofldgaefjapab
theorem approxNear_holds : Rows.ApproxNearUptoSaid := approxNear.over
#print axioms approxNear_holds
end Go.Proofs.Ytjofldgaefjapab
