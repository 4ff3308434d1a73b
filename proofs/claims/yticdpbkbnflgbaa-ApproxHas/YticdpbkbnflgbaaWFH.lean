/-
  Spans: the reference's ends.
-/
import Derived.Test.YticdpbkbnflgbaaWFC
import Derived.Test.YticdpbkbnflgbaaWFG
namespace Go.Proofs.Yticdpbkbnflgbaa
open Go.RowKit
set_option linter.unusedVariables false

/-- an infinite end's side -/
def faI (b : Nat) : Int := if b = FI then 1 else -1
set_option maxHeartbeats 4000000 in
set_option maxRecDepth 100000 in
theorem endOf_inf (b : Nat) (w : World) (hb : b < 18446744073709551616) (hf : b % SB = FI) :
    Calls Try.prog 32 #[.float .f64 b] w fun e w' => e = .returned (.agg #[.int .i64 (faI b), .bool false, .slice none 0 0, .slice none 0 0]) ∧ Below w.heap.size w w' := by
  have hbr := bits_run
  have HI := hide' (fun w' => vinf_any b w' hb)
  have hd : decide (b % SB = FI) = true := decide_eq_true hf
  unfold faI
  by_cases h : b = FI
  · rw [if_pos h]
    have hc : ((b : Int) == 9218868437227405312) = true := by rw [beq_iff_eq, h]; rfl
    clear h hf
    go_enter Try.func32, Try.ntmps32
    go_upto_region 1 with fail
    obtain ⟨W, hW⟩ : ∃ W, (w.alloc (.cells #[.int .i64 0, .bool false, .slice none 0 0, .slice none 0 0] 56)) = W := ⟨_, rfl⟩
    have r00 : W.cell? ⟨w.heap.size, 0, none⟩ = some (.int .i64 0) := by subst hW; go_simp
    have r01 : W.cell? ⟨w.heap.size, 1, none⟩ = some (.bool false) := by subst hW; go_simp
    have r02 : W.cell? ⟨w.heap.size, 2, none⟩ = some (.slice none 0 0) := by subst hW; go_simp
    have r03 : W.cell? ⟨w.heap.size, 3, none⟩ = some (.slice none 0 0) := by subst hW; go_simp
    have hB : Below w.heap.size w W := by subst hW; exact ((Below.refl _ _).alloc (by (try simp only [World.size_alloc]); omega) _)
    have hR0 : Row W (w.heap.size) := by
      have := row_new (w) #[.int .i64 0, .bool false, .slice none 0 0, .slice none 0 0] 56
      try simp only [World.size_alloc] at this
      subst hW; exact this
    have hz : W.heap.size = w.heap.size + 1 := by subst hW; simp only [World.size_alloc]
    rw [hW]
    clear hW
    have hBW : Below W.heap.size W W := Below.refl _ _
    have fz0 := fun o => hR0.frozen o
    have fz0 := fun o => hR0.frozen o
    go_wp2
    all_goals refine bodyPost_ret (v := .agg #[.int .i64 1, .bool false, .slice none 0 0, .slice none 0 0]) (by rw [results_cell rfl]; go_simp) rfl ?_
    all_goals exact ⟨rfl, ((bset (bset (bset (bset (hB.trans (hBW.mono hB.size)) (by omega)) (by omega)) (by omega)) (by omega)))⟩
  · rw [if_neg h]
    have hc : ((b : Int) == 9218868437227405312) = false := by rw [beq_eq_false_iff_ne]; rw [FIv] at h; omega
    clear h hf
    go_enter Try.func32, Try.ntmps32
    go_upto_region 1 with fail
    obtain ⟨W, hW⟩ : ∃ W, (w.alloc (.cells #[.int .i64 0, .bool false, .slice none 0 0, .slice none 0 0] 56)) = W := ⟨_, rfl⟩
    have r00 : W.cell? ⟨w.heap.size, 0, none⟩ = some (.int .i64 0) := by subst hW; go_simp
    have r01 : W.cell? ⟨w.heap.size, 1, none⟩ = some (.bool false) := by subst hW; go_simp
    have r02 : W.cell? ⟨w.heap.size, 2, none⟩ = some (.slice none 0 0) := by subst hW; go_simp
    have r03 : W.cell? ⟨w.heap.size, 3, none⟩ = some (.slice none 0 0) := by subst hW; go_simp
    have hB : Below w.heap.size w W := by subst hW; exact ((Below.refl _ _).alloc (by (try simp only [World.size_alloc]); omega) _)
    have hR0 : Row W (w.heap.size) := by
      have := row_new (w) #[.int .i64 0, .bool false, .slice none 0 0, .slice none 0 0] 56
      try simp only [World.size_alloc] at this
      subst hW; exact this
    have hz : W.heap.size = w.heap.size + 1 := by subst hW; simp only [World.size_alloc]
    rw [hW]
    clear hW
    have hBW : Below W.heap.size W W := Below.refl _ _
    have fz0 := fun o => hR0.frozen o
    go_wp2_with fail
    refine (HI.out _).mono ?_
    rintro e w1 ⟨rfl, rfl⟩
    rw [hd]
    have fz0 := fun o => hR0.frozen o
    go_wp2
    all_goals refine bodyPost_ret (v := .agg #[.int .i64 (-1), .bool false, .slice none 0 0, .slice none 0 0]) (by rw [results_cell rfl]; go_simp) rfl ?_
    all_goals exact ⟨rfl, ((bset (bset (bset (bset (hB.trans (hBW.mono hB.size)) (by omega)) (by omega)) (by omega)) (by omega)))⟩
set_option maxHeartbeats 4000000 in
set_option maxRecDepth 100000 in
theorem endOf_num (z T b : Nat) (Z : Int) (V : Nat) (w : World) (hz : z = 1074) (hT : T = 2 ^ z) (hb : b < 18446744073709551616) (hf : b % SB < FI) (hL : Low (fv b) (T : Int) Z V) :
    Calls Try.prog 32 #[.float .f64 b] w fun e w' => ∃ p q, e = .returned (.agg #[.int .i64 0, .bool (ng Z), .slice p (ln (am Z)) (ln (am Z)), .slice q (ln V) (ln V)]) ∧ New w w' p (am Z) (ln (am Z)) ∧ New w w' q V (ln V) := by
  have hbr := bits_run
  have HI := hide' (fun w' => vinf_any b w' hb)
  have hd : decide (b % SB = FI) = false := decide_eq_false (by omega)
  have hc : ((b : Int) == 9218868437227405312) = false := by rw [beq_eq_false_iff_ne]; intro h; have e1 := FIv; have e2 := SBv; rw [e2] at hf; omega
  have HU := hide' (fun w' => Number_is z T b Z V w' hz hT hb hf hL)
  have hV := hL.pos
  obtain ⟨l1, l2⟩ := low_fl hz hT (by unfold fv; rw [am_sg]; exact amt_ln hf) hL
  have hLL : Low (rn (ng Z) (am Z) V) ((rd V : Nat) : Int) Z V := by rw [rn_nf hV, rd_nf hV]; exact Low.self hV hL.cop
  have HM := hide' (fun w' p q k1 k2 => vqNorm_is (ng Z) p (ln (am Z)) (ln (am Z)) (am Z) q (ln V) (ln V) V V Z w' (by omega) k1 (by omega) k2 hLL)
  clear hz hT hL hf hLL hV
  go_enter Try.func32, Try.ntmps32
  go_upto_region 1 with fail
  obtain ⟨W, hW⟩ : ∃ W, (w.alloc (.cells #[.int .i64 0, .bool false, .slice none 0 0, .slice none 0 0] 56)) = W := ⟨_, rfl⟩
  have r00 : W.cell? ⟨w.heap.size, 0, none⟩ = some (.int .i64 0) := by subst hW; go_simp
  have r01 : W.cell? ⟨w.heap.size, 1, none⟩ = some (.bool false) := by subst hW; go_simp
  have r02 : W.cell? ⟨w.heap.size, 2, none⟩ = some (.slice none 0 0) := by subst hW; go_simp
  have r03 : W.cell? ⟨w.heap.size, 3, none⟩ = some (.slice none 0 0) := by subst hW; go_simp
  have hB : Below w.heap.size w W := by subst hW; exact ((Below.refl _ _).alloc (by (try simp only [World.size_alloc]); omega) _)
  have hR0 : Row W (w.heap.size) := by
    have := row_new (w) #[.int .i64 0, .bool false, .slice none 0 0, .slice none 0 0] 56
    try simp only [World.size_alloc] at this
    subst hW; exact this
  have hz : W.heap.size = w.heap.size + 1 := by subst hW; simp only [World.size_alloc]
  rw [hW]
  clear hW
  have hBW : Below W.heap.size W W := Below.refl _ _
  go_wp2_with fail
  refine (HI.out _).mono ?_
  rintro e w1 ⟨rfl, rfl⟩
  rw [hd]
  go_wp2_with fail
  refine (HU.out _).mono ?_
  rintro e w5 ⟨p5, q5, rfl, hp5, hq5⟩
  have b5 := hp5.below
  replace hp5 := hp5.back hBW
  replace hq5 := hq5.back hBW
  replace hBW := hBW.trans (b5.mono hBW.size)
  replace r00 := below_cell b5 r00
  replace r01 := below_cell b5 r01
  replace r02 := below_cell b5 r02
  replace r03 := below_cell b5 r03
  replace hR0 := below_row b5 hR0
  go_wp2_with fail
  refine (HM.out _ _ _ hp5.seg hq5.seg).mono ?_
  rintro e w6 ⟨p6, q6, rfl, hp6, hq6⟩
  have b6 := hp6.below
  replace hp6 := hp6.back hBW
  replace hq6 := hq6.back hBW
  replace hBW := hBW.trans (b6.mono hBW.size)
  replace r00 := below_cell b6 r00
  replace r01 := below_cell b6 r01
  replace r02 := below_cell b6 r02
  replace r03 := below_cell b6 r03
  replace hR0 := below_row b6 hR0
  replace hp5 := hp5.later b6
  replace hq5 := hq5.later b6
  have fz0 := fun o => hR0.frozen o
  go_wp2
  all_goals refine bodyPost_ret (v := .agg #[.int .i64 0, .bool (ng Z), .slice p6 (ln (am Z)) (ln (am Z)), .slice q6 (ln V) (ln V)]) (by rw [results_cell rfl]; go_simp) rfl ?_
  all_goals exact ⟨p6, q6, rfl, hp6.mid hB ((((((Mid.refl _ _ _).set _ _ (by omega) (by omega) _).set _ _ (by omega) (by omega) _).set _ _ (by omega) (by omega) _).set _ _ (by omega) (by omega) _)), hq6.mid hB ((((((Mid.refl _ _ _).set _ _ (by omega) (by omega) _).set _ _ (by omega) (by omega) _).set _ _ (by omega) (by omega) _).set _ _ (by omega) (by omega) _))⟩
set_option maxHeartbeats 4000000 in
set_option maxRecDepth 100000 in
theorem under_far (f1 : Int) (s1 : Bool) (a1 : Option Addr) (n1 c1 : Nat) (b1 : Option Addr) (m1 d1 : Nat) (f2 : Int) (s2 : Bool) (a2 : Option Addr) (n2 c2 : Nat) (b2 : Option Addr) (m2 d2 : Nat) (c : Bool) (w : World) (hne : f1 ≠ f2) (hc : decide (f1 < f2) = c) :
    Calls Try.prog 31 #[Value.agg #[Value.int .i64 f1, Value.bool s1, Value.slice a1 n1 c1, Value.slice b1 m1 d1], Value.agg #[Value.int .i64 f2, Value.bool s2, Value.slice a2 n2 c2, Value.slice b2 m2 d2]] w fun e w' => e = .returned (.bool c) ∧ Below w.heap.size w w' := by
  have hn : (f1 != f2) = true := by rw [bne_iff_ne]; exact hne
  clear hne
  go_enter Try.func31, Try.ntmps31
  go_upto_region 1 with fail
  obtain ⟨W, hW⟩ : ∃ W, ((w.alloc (.cells #[.int .i64 f1, .bool s1, .slice a1 n1 c1, .slice b1 m1 d1] 56)).alloc (.cells #[.int .i64 f2, .bool s2, .slice a2 n2 c2, .slice b2 m2 d2] 56)) = W := ⟨_, rfl⟩
  have q00 : W.cell? ⟨w.heap.size, 0, none⟩ = some (.int .i64 f1) := by subst hW; go_simp
  have q01 : W.cell? ⟨w.heap.size, 1, none⟩ = some (.bool s1) := by subst hW; go_simp
  have q02 : W.cell? ⟨w.heap.size, 2, none⟩ = some (.slice a1 n1 c1) := by subst hW; go_simp
  have q03 : W.cell? ⟨w.heap.size, 3, none⟩ = some (.slice b1 m1 d1) := by subst hW; go_simp
  have q10 : W.cell? ⟨w.heap.size + 1, 0, none⟩ = some (.int .i64 f2) := by subst hW; go_simp
  have q11 : W.cell? ⟨w.heap.size + 1, 1, none⟩ = some (.bool s2) := by subst hW; go_simp
  have q12 : W.cell? ⟨w.heap.size + 1, 2, none⟩ = some (.slice a2 n2 c2) := by subst hW; go_simp
  have q13 : W.cell? ⟨w.heap.size + 1, 3, none⟩ = some (.slice b2 m2 d2) := by subst hW; go_simp
  have hB : Below w.heap.size w W := by subst hW; exact (((Below.refl _ _).alloc (by (try simp only [World.size_alloc]); omega) _).alloc (by (try simp only [World.size_alloc]); omega) _)
  have hz : W.heap.size = w.heap.size + 1 + 1 := by subst hW; simp only [World.size_alloc]
  rw [hW]
  clear hW
  have hBW : Below W.heap.size W W := Below.refl _ _
  go_wp2
  go_ret
  exact ⟨rfl, hB⟩
set_option maxHeartbeats 4000000 in
set_option maxRecDepth 100000 in
theorem under_num (Z1 Z2 : Int) (V1 V2 : Nat) (p1 q1 p2 q2 : Option Addr) (C : Int) (w : World) (l1 : ln (am Z1) ≤ 35184372088000) (l2 : ln V1 ≤ 35184372088000) (l3 : ln (am Z2) ≤ 35184372088000) (l4 : ln V2 ≤ 35184372088000) (h1 : 0 < V1) (h2 : 0 < V2) (hS1 : Seg w p1 (am Z1) (ln (am Z1))) (hT1 : Seg w q1 V1 (ln V1)) (hS2 : Seg w p2 (am Z2) (ln (am Z2))) (hT2 : Seg w q2 V2 (ln V2)) (hC : sgn (Z1 * (V2 : Int) - Z2 * (V1 : Int)) = C) :
    Calls Try.prog 31 #[Value.agg #[Value.int .i64 0, Value.bool (ng Z1), Value.slice p1 (ln (am Z1)) (ln (am Z1)), Value.slice q1 (ln V1) (ln V1)], Value.agg #[Value.int .i64 0, Value.bool (ng Z2), Value.slice p2 (ln (am Z2)) (ln (am Z2)), Value.slice q2 (ln V2) (ln V2)]] w fun e w' => e = .returned (.bool (decide (C < 0))) ∧ Below w.heap.size w w' := by
  have hcd : sgn (rn (ng Z1) (am Z1) V1 * ((rd V2 : Nat) : Int) - rn (ng Z2) (am Z2) V2 * ((rd V1 : Nat) : Int)) = C := by rw [rn_nf h1, rn_nf h2, rd_nf h1, rd_nf h2]; exact hC
  have HC := hide' (fun w' k1 k2 k3 k4 => vqCmp_is (ng Z1) p1 (ln (am Z1)) (ln (am Z1)) (am Z1) q1 (ln V1) (ln V1) V1 (ng Z2) p2 (ln (am Z2)) (ln (am Z2)) (am Z2) q2 (ln V2) (ln V2) V2 C w' (Nat.le_refl _) (by omega) k1 (Nat.le_refl _) (by omega) k2 (Nat.le_refl _) (by omega) k3 (Nat.le_refl _) (by omega) k4 hcd)
  clear hcd hC h1 h2
  go_enter Try.func31, Try.ntmps31
  go_upto_region 1 with fail
  obtain ⟨W, hW⟩ : ∃ W, ((w.alloc (.cells #[.int .i64 0, .bool (ng Z1), .slice p1 (ln (am Z1)) (ln (am Z1)), .slice q1 (ln V1) (ln V1)] 56)).alloc (.cells #[.int .i64 0, .bool (ng Z2), .slice p2 (ln (am Z2)) (ln (am Z2)), .slice q2 (ln V2) (ln V2)] 56)) = W := ⟨_, rfl⟩
  have q00 : W.cell? ⟨w.heap.size, 0, none⟩ = some (.int .i64 0) := by subst hW; go_simp
  have q01 : W.cell? ⟨w.heap.size, 1, none⟩ = some (.bool (ng Z1)) := by subst hW; go_simp
  have q02 : W.cell? ⟨w.heap.size, 2, none⟩ = some (.slice p1 (ln (am Z1)) (ln (am Z1))) := by subst hW; go_simp
  have q03 : W.cell? ⟨w.heap.size, 3, none⟩ = some (.slice q1 (ln V1) (ln V1)) := by subst hW; go_simp
  have q10 : W.cell? ⟨w.heap.size + 1, 0, none⟩ = some (.int .i64 0) := by subst hW; go_simp
  have q11 : W.cell? ⟨w.heap.size + 1, 1, none⟩ = some (.bool (ng Z2)) := by subst hW; go_simp
  have q12 : W.cell? ⟨w.heap.size + 1, 2, none⟩ = some (.slice p2 (ln (am Z2)) (ln (am Z2))) := by subst hW; go_simp
  have q13 : W.cell? ⟨w.heap.size + 1, 3, none⟩ = some (.slice q2 (ln V2) (ln V2)) := by subst hW; go_simp
  have hB : Below w.heap.size w W := by subst hW; exact (((Below.refl _ _).alloc (by (try simp only [World.size_alloc]); omega) _).alloc (by (try simp only [World.size_alloc]); omega) _)
  have hz : W.heap.size = w.heap.size + 1 + 1 := by subst hW; simp only [World.size_alloc]
  rw [hW]
  clear hW
  have hBW : Below W.heap.size W W := Below.refl _ _
  go_wp2_with fail
  refine (HC.out _ (sb hS1 hB hBW) (sb hT1 hB hBW) (sb hS2 hB hBW) (sb hT2 hB hBW)).mono ?_
  rintro e w5 ⟨rfl, b5⟩
  replace hBW := hBW.trans (b5.mono hBW.size)
  replace q00 := below_cell b5 q00
  replace q01 := below_cell b5 q01
  replace q02 := below_cell b5 q02
  replace q03 := below_cell b5 q03
  replace q10 := below_cell b5 q10
  replace q11 := below_cell b5 q11
  replace q12 := below_cell b5 q12
  replace q13 := below_cell b5 q13
  go_wp2
  go_ret
  exact ⟨rfl, hB.trans (hBW.mono hB.size)⟩
end Go.Proofs.Yticdpbkbnflgbaa
