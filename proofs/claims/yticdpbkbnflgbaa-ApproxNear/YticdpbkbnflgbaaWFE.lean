/-
  The law's finite and number; what lies beside a number.
-/
import Derived.Test.YticdpbkbnflgbaaWFC
import Derived.Test.YticdpbkbnflgbaaWFO
namespace Go.Proofs.Yticdpbkbnflgbaa
open Go.RowKit
set_option linter.unusedVariables false

set_option maxHeartbeats 1000000 in
theorem lfinite_is (b : Nat) (c : Bool) (w : World) (hb : b < 18446744073709551616) (hc : decide (b % SB < FI) = c) :
    Calls Try.prog 13 #[.float .f64 b] w fun e w' => e = .returned (.bool c) ∧ Below w.heap.size w w' := by
  have hbr := bits_run
  have HN := hide' (fun w' => vnan_any b w' hb)
  have HI := hide' (fun w' => vinf_any b w' hb)
  by_cases hn : FI < b % SB
  · obtain rfl : c = false := by rw [← hc]; exact decide_eq_false (by omega)
    have hd : decide (FI < b % SB) = true := decide_eq_true hn
    clear hn hc HI
    go_enter Try.func13, Try.ntmps13
    go_wp2_with fail
    refine (HN.out _).mono ?_
    rintro e w' ⟨rfl, rfl⟩
    go_wp2
    go_ret
    exact ⟨rfl, Below.refl _ _⟩
  · have hd : decide (FI < b % SB) = false := decide_eq_false hn
    have hd2 : decide (b % SB = FI) = !c := by
      rw [← hc]
      by_cases h : b % SB = FI
      · rw [decide_eq_true h, decide_eq_false (by omega)]; rfl
      · rw [decide_eq_false h, decide_eq_true (by omega)]; rfl
    clear hn hc
    go_enter Try.func13, Try.ntmps13
    go_wp2_with fail
    refine (HN.out _).mono ?_
    rintro e w' ⟨rfl, rfl⟩
    rw [hd]
    go_wp2_with fail
    refine (HI.out _).mono ?_
    rintro e w' ⟨rfl, rfl⟩
    rw [hd2]
    cases c
    · go_wp2
      go_ret
      exact ⟨rfl, Below.refl _ _⟩
    · go_wp2
      go_ret
      exact ⟨rfl, Below.refl _ _⟩
set_option maxHeartbeats 2000000 in
set_option maxRecDepth 100000 in
theorem lnumber_is (z T b : Nat) (Z : Int) (V : Nat) (w : World) (hz : z = 1074) (hT : T = 2 ^ z) (hb : b < 18446744073709551616) (hf : b % SB < FI) (hL : Low (fv b) (T : Int) Z V) :
    Calls Try.prog 21 #[.float .f64 b] w fun e w' => ∃ p q, e = .returned (.agg #[.bool (ng Z), .slice p (ln (am Z)) (ln (am Z)), .slice q (ln V) (ln V)]) ∧ New w w' p (am Z) (ln (am Z)) ∧ New w w' q V (ln V) := by
  have hbr := bits_run
  have HU := hide' (fun w' => Number_is z T b Z V w' hz hT hb hf hL)
  clear hz hT hL hf
  go_enter Try.func21, Try.ntmps21
  go_upto_region 1 with fail
  obtain ⟨W, hW⟩ : ∃ W, (w.alloc (.cells #[.bool false, .slice none 0 0, .slice none 0 0] 27)) = W := ⟨_, rfl⟩
  have r00 : W.cell? ⟨w.heap.size, 0, none⟩ = some (.bool false) := by subst hW; go_simp
  have r01 : W.cell? ⟨w.heap.size, 1, none⟩ = some (.slice none 0 0) := by subst hW; go_simp
  have r02 : W.cell? ⟨w.heap.size, 2, none⟩ = some (.slice none 0 0) := by subst hW; go_simp
  have hB : Below w.heap.size w W := by subst hW; exact ((Below.refl _ _).alloc (by (try simp only [World.size_alloc]); omega) _)
  have hR0 : Row W (w.heap.size) := by
    have := row_new (w) #[.bool false, .slice none 0 0, .slice none 0 0] 27
    try simp only [World.size_alloc] at this
    subst hW; exact this
  have hz : W.heap.size = w.heap.size + 1 := by subst hW; simp only [World.size_alloc]
  rw [hW]
  clear hW
  have hBW : Below W.heap.size W W := Below.refl _ _
  go_wp2_with fail
  refine (HU.out _).mono ?_
  rintro e w1 ⟨p1, q1, rfl, hp1, hq1⟩
  have b1 := hp1.below
  replace hp1 := hp1.back hBW
  replace hq1 := hq1.back hBW
  replace hBW := hBW.trans (b1.mono hBW.size)
  replace r00 := below_cell b1 r00
  replace r01 := below_cell b1 r01
  replace r02 := below_cell b1 r02
  replace hR0 := below_row b1 hR0
  have fz0 := fun o => hR0.frozen o
  go_wp2
  all_goals refine bodyPost_ret (v := Value.agg #[Value.bool (ng Z), Value.slice p1 (ln (am Z)) (ln (am Z)), Value.slice q1 (ln V) (ln V)]) (by rw [results_cell rfl]; go_simp) rfl ?_
  all_goals exact ⟨p1, q1, rfl, hp1.mid hB (((((Mid.refl _ _ _).set _ _ (by omega) (by omega) _).set _ _ (by omega) (by omega) _).set _ _ (by omega) (by omega) _)), hq1.mid hB (((((Mid.refl _ _ _).set _ _ (by omega) (by omega) _).set _ _ (by omega) (by omega) _).set _ _ (by omega) (by omega) _))⟩
theorem fv_fB {s : Bool} {k : Nat} (h : k ≤ FI) : fv (fB s k) = sg s (amt k) := by
  unfold fv; rw [fB_neg h, fB_mod h]
theorem ord_lt {b c : Nat} (hb : b % SB ≤ FI) (hc : c % SB ≤ FI) (h : fkey b < fkey c) : FloatKind.f64.format.order b c = some .lt := by
  have e : FloatKind.f64.format.order b c = some (compare (fkey b) (fkey c)) := order_eq hb hc
  rw [e, fcmp_lt h]
theorem ord_gt {b c : Nat} (hb : b % SB ≤ FI) (hc : c % SB ≤ FI) (h : fkey c < fkey b) : FloatKind.f64.format.order b c = some .gt := by
  have e : FloatKind.f64.format.order b c = some (compare (fkey b) (fkey c)) := order_eq hb hc
  rw [e, fcmp_gt h]
theorem ord_eq {b : Nat} (hb : b % SB ≤ FI) : FloatKind.f64.format.order b b = some .eq := by
  have e : FloatKind.f64.format.order b b = some (compare (fkey b) (fkey b)) := order_eq hb hb
  rw [e, fcmp_eq rfl]
/-- a float's number against another number -/
theorem cmp_num {z T b : Nat} {Z A : Int} {V D : Nat} {C : Int} (hT : T = 2 ^ z) (hL : Low (fv b) (T : Int) Z V) (hC : sgn (fv b * (D : Int) - A * (T : Int)) = C) : sgn (Z * (D : Int) - A * (V : Int)) = C := by
  have hT0 : (0 : Int) < T := by rw [hT]; have := Nat.two_pow_pos z; omega
  have hV : (0 : Int) < V := by have := hL.pos; omega
  have e := hL.eq
  have h1 := sgn_mul_pos (a := Z * (D : Int) - A * (V : Int)) hT0
  have h2 := sgn_mul_pos (a := fv b * (D : Int) - A * (T : Int)) hV
  rw [← h1, ← hC, ← h2]
  congr 1
  grind
end Go.Proofs.Yticdpbkbnflgbaa
