/-
  Exact of both; SameRat.
-/
import Derived.Test.YthecapmdionnmaaWF2
import Derived.Test.YthecapmdionnmaaWI2
namespace Go.Proofs.Ythecapmdionnmaa
open Go.RowKit
set_option linter.unusedVariables false

/-- what finite tells -/
def fiE (b : Nat) : Int := if FI < b % SB then 40 else if b % SB = FI then 41 else 0
set_option maxHeartbeats 1000000 in
theorem finite_is (b : Nat) (w : World) (hb : b < 18446744073709551616) :
    Calls Try.prog 22 #[.float .f64 b] w fun e w' => e = .returned (.int .i64 (fiE b)) ∧ w = w' := by
  have HN := hide' (fun w' => nan_any b w')
  have HI := hide' (fun w' => inf_any b w' hb)
  unfold fiE
  by_cases hn : FI < b % SB
  · rw [if_pos hn]
    have hd : decide (FI < b % SB) = true := decide_eq_true hn
    clear hn HI
    go_enter Try.func22, Try.ntmps22
    go_wp2_with fail
    refine (HN.out _).mono ?_
    rintro e w' ⟨rfl, rfl⟩
    go_wp2
    go_ret
    exact ⟨rfl, rfl⟩
  · rw [if_neg hn]
    have hd : decide (FI < b % SB) = false := decide_eq_false hn
    clear hn
    by_cases hi : b % SB = FI
    · rw [if_pos hi]
      have hd2 : decide (b % SB = FI) = true := decide_eq_true hi
      clear hi
      go_enter Try.func22, Try.ntmps22
      go_wp2_with fail
      refine (HN.out _).mono ?_
      rintro e w' ⟨rfl, rfl⟩
      rw [hd]
      go_wp2_with fail
      refine (HI.out _).mono ?_
      rintro e w' ⟨rfl, rfl⟩
      go_wp2
      go_ret
      exact ⟨rfl, rfl⟩
    · rw [if_neg hi]
      have hd2 : decide (b % SB = FI) = false := decide_eq_false hi
      clear hi
      go_enter Try.func22, Try.ntmps22
      go_wp2_with fail
      refine (HN.out _).mono ?_
      rintro e w' ⟨rfl, rfl⟩
      rw [hd]
      go_wp2_with fail
      refine (HI.out _).mono ?_
      rintro e w' ⟨rfl, rfl⟩
      go_wp2
      go_ret
      exact ⟨rfl, rfl⟩
theorem fiE_num {b : Nat} (h : b % SB < FI) : fiE b = 0 := by unfold fiE; rw [if_neg (by omega), if_neg (by omega)]
theorem fiE_no {b : Nat} (h : ¬ b % SB < FI) : (fiE b = 40 ∨ fiE b = 41) := by
  unfold fiE
  by_cases hn : FI < b % SB
  · rw [if_pos hn]; exact Or.inl rfl
  · rw [if_neg hn, if_pos (by omega)]; exact Or.inr rfl
set_option maxHeartbeats 2000000 in
set_option maxRecDepth 100000 in
theorem Exact_no (b : Nat) (w : World) (hb : b < 18446744073709551616) (hf : ¬ b % SB < FI) :
    Calls Try.prog 11 #[.float .f64 b] w fun e w' => e = .returned (.tuple #[.agg #[.bool false, .slice none 0 0, .slice none 0 0], .int .i64 (fiE b)]) ∧ Below w.heap.size w w' := by
  have HF := hide' (fun w' => finite_is b w' hb)
  have hr : 40 ≤ fiE b ∧ fiE b ≤ 41 := by rcases fiE_no hf with h | h <;> rw [h] <;> omega
  have hne : (fiE b != 0) = true := by rw [bne_iff_ne]; omega
  generalize fiE b = c at HF hr hne ⊢
  clear hf
  go_enter Try.func11, Try.ntmps11
  go_wp2_with fail
  obtain ⟨W, hW⟩ : ∃ W, (w.alloc (.cells #[.bool false, .slice none 0 0, .slice none 0 0] 27)) = W := ⟨_, rfl⟩
  have r00 : W.cell? ⟨w.heap.size, 0, none⟩ = some (.bool false) := by subst hW; go_simp
  have r01 : W.cell? ⟨w.heap.size, 1, none⟩ = some (.slice none 0 0) := by subst hW; go_simp
  have r02 : W.cell? ⟨w.heap.size, 2, none⟩ = some (.slice none 0 0) := by subst hW; go_simp
  have hB : Below w.heap.size w W := by subst hW; exact ((Below.refl _ _).alloc (by (try simp only [World.size_alloc]); omega) _)
  have hR0 : Row W (w.heap.size) := by
    have := row_new (w) #[.bool false, .slice none 0 0, .slice none 0 0] 27
    try simp only [World.size_alloc] at this
    subst hW; exact this
  have hz : W.heap.size = w.heap.size + 1 := by subst hW; simp only [World.size_alloc]
  rw [hW]
  clear hW
  have hBW : Below W.heap.size W W := Below.refl _ _
  refine (HF.out _).mono ?_
  rintro e1 w1 ⟨rfl, rfl⟩
  have fz0 := fun o => hR0.frozen o
  go_wp2
  all_goals refine bodyPost_ret (v := .tuple #[Value.agg #[Value.bool false, Value.slice none 0 0, Value.slice none 0 0], .int .i64 c]) (by rw [results_cell_tmp rfl]; go_simp) rfl ?_
  all_goals exact ⟨rfl, ((bset (bset (bset (hB.trans (hBW.mono hB.size)) (by omega)) (by omega)) (by omega)))⟩
set_option maxHeartbeats 2000000 in
set_option maxRecDepth 100000 in
theorem Exact_is (z T b : Nat) (Z : Int) (V : Nat) (w : World) (hz : z = 1074) (hT : T = 2 ^ z) (hb : b < 18446744073709551616) (hf : b % SB < FI) (hL : Low (fv b) (T : Int) Z V) :
    Calls Try.prog 11 #[.float .f64 b] w fun e w' => ∃ p q, e = .returned (.tuple #[.agg #[.bool (ng Z), .slice p (ln (am Z)) (ln (am Z)), .slice q (ln V) (ln V)], .int .i64 0]) ∧ New w w' p (am Z) (ln (am Z)) ∧ New w w' q V (ln V) := by
  have HF := hide' (fun w' => finite_is b w' hb)
  rw [fiE_num hf] at HF
  have HU := hide' (fun w' => number_is z T b Z V w' hz hT hb hf hL)
  clear hz hT hL hf
  go_enter Try.func11, Try.ntmps11
  go_wp2_with fail
  obtain ⟨W, hW⟩ : ∃ W, (w.alloc (.cells #[.bool false, .slice none 0 0, .slice none 0 0] 27)) = W := ⟨_, rfl⟩
  have r00 : W.cell? ⟨w.heap.size, 0, none⟩ = some (.bool false) := by subst hW; go_simp
  have r01 : W.cell? ⟨w.heap.size, 1, none⟩ = some (.slice none 0 0) := by subst hW; go_simp
  have r02 : W.cell? ⟨w.heap.size, 2, none⟩ = some (.slice none 0 0) := by subst hW; go_simp
  have hB : Below w.heap.size w W := by subst hW; exact ((Below.refl _ _).alloc (by (try simp only [World.size_alloc]); omega) _)
  have hR0 : Row W (w.heap.size) := by
    have := row_new (w) #[.bool false, .slice none 0 0, .slice none 0 0] 27
    try simp only [World.size_alloc] at this
    subst hW; exact this
  have hz : W.heap.size = w.heap.size + 1 := by subst hW; simp only [World.size_alloc]
  rw [hW]
  clear hW
  have hBW : Below W.heap.size W W := Below.refl _ _
  refine (HF.out _).mono ?_
  rintro e1 w1 ⟨rfl, rfl⟩
  go_wp2_with fail
  refine (HU.out _).mono ?_
  rintro e w1 ⟨p1, q1, rfl, hp1, hq1⟩
  have b1 := hp1.below
  replace hp1 := hp1.back hBW
  replace hq1 := hq1.back hBW
  replace hBW := hBW.trans (b1.mono hBW.size)
  replace r00 := below_cell b1 r00
  replace r01 := below_cell b1 r01
  replace r02 := below_cell b1 r02
  replace hR0 := below_row b1 hR0
  have fz0 := fun o => hR0.frozen o
  go_wp2
  all_goals refine bodyPost_ret (v := .tuple #[Value.agg #[Value.bool (ng Z), Value.slice p1 (ln (am Z)) (ln (am Z)), Value.slice q1 (ln V) (ln V)], .int .i64 0]) (by rw [results_cell_tmp rfl]; go_simp) rfl ?_
  all_goals exact ⟨p1, q1, rfl, hp1.mid hB (((((Mid.refl _ _ _).set _ _ (by omega) (by omega) _).set _ _ (by omega) (by omega) _).set _ _ (by omega) (by omega) _)), hq1.mid hB (((((Mid.refl _ _ _).set _ _ (by omega) (by omega) _).set _ _ (by omega) (by omega) _).set _ _ (by omega) (by omega) _))⟩
set_option maxHeartbeats 2000000 in
set_option maxRecDepth 100000 in
theorem SameRat_is (Z : Int) (V : Nat) (p q p1 q1 : Option Addr) (w : World) (h1 : ln (am Z) ≤ 70368744177664) (h2 : ln V ≤ 70368744177664) (hS : Seg w p (am Z) (ln (am Z))) (hT : Seg w q V (ln V)) (hS1 : Seg w p1 (am Z) (ln (am Z))) (hT1 : Seg w q1 V (ln V)) :
    Calls Try.prog 15 #[Value.agg #[Value.bool (ng Z), Value.slice p (ln (am Z)) (ln (am Z)), Value.slice q (ln V) (ln V)], Value.agg #[Value.bool (ng Z), Value.slice p1 (ln (am Z)) (ln (am Z)), Value.slice q1 (ln V) (ln V)]] w fun e w' => e = .returned (.bool true) ∧ Below w.heap.size w w' := by
  have HI := hide' (fun w' k1 k2 => SameInt_is Z p p1 (ln (am Z)) (ln (am Z)) w' h1 k1 k2)
  have HN' := fun w' k1 k2 => SameNat_any q q1 (ln V) (ln V) V (ln V) (ln V) V w' h2 h2 k1 k2
  rw [sameB_self] at HN'
  have HN := hide' HN'
  clear HN'
  go_enter Try.func15, Try.ntmps15
  go_wp2_with fail
  obtain ⟨W, hW⟩ : ∃ W, ((w.alloc (.cells #[.bool (ng Z), .slice p (ln (am Z)) (ln (am Z)), .slice q (ln V) (ln V)] 27)).alloc (.cells #[.bool (ng Z), .slice p1 (ln (am Z)) (ln (am Z)), .slice q1 (ln V) (ln V)] 27)) = W := ⟨_, rfl⟩
  have q00 : W.cell? ⟨w.heap.size, 0, none⟩ = some (.bool (ng Z)) := by subst hW; go_simp
  have q01 : W.cell? ⟨w.heap.size, 1, none⟩ = some (.slice p (ln (am Z)) (ln (am Z))) := by subst hW; go_simp
  have q02 : W.cell? ⟨w.heap.size, 2, none⟩ = some (.slice q (ln V) (ln V)) := by subst hW; go_simp
  have q10 : W.cell? ⟨w.heap.size + 1, 0, none⟩ = some (.bool (ng Z)) := by subst hW; go_simp
  have q11 : W.cell? ⟨w.heap.size + 1, 1, none⟩ = some (.slice p1 (ln (am Z)) (ln (am Z))) := by subst hW; go_simp
  have q12 : W.cell? ⟨w.heap.size + 1, 2, none⟩ = some (.slice q1 (ln V) (ln V)) := by subst hW; go_simp
  have hB : Below w.heap.size w W := by subst hW; exact (((Below.refl _ _).alloc (by (try simp only [World.size_alloc]); omega) _).alloc (by (try simp only [World.size_alloc]); omega) _)
  have hz : W.heap.size = w.heap.size + 1 + 1 := by subst hW; simp only [World.size_alloc]
  rw [hW]
  clear hW
  have hBW : Below W.heap.size W W := Below.refl _ _
  refine (HI.out _ (sb hS hB hBW) (sb hS1 hB hBW)).mono ?_
  rintro e w1 ⟨rfl, b1⟩
  replace hBW := hBW.trans (b1.mono hBW.size)
  replace q00 := below_cell b1 q00
  replace q01 := below_cell b1 q01
  replace q02 := below_cell b1 q02
  replace q10 := below_cell b1 q10
  replace q11 := below_cell b1 q11
  replace q12 := below_cell b1 q12
  go_wp2_with fail
  refine (HN.out _ (sb hT hB hBW) (sb hT1 hB hBW)).mono ?_
  rintro e2 w2 ⟨rfl, hd⟩
  go_wp2
  go_ret
  exact ⟨rfl, (hB.trans (hBW.mono hB.size)).trans (hd.below _)⟩
end Go.Proofs.Ythecapmdionnmaa
