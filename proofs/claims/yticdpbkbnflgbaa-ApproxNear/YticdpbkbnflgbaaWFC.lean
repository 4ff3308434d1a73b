/-
  The number that a float is: the reference's; Exact of both; SameRat.
-/
import Derived.Test.YticdpbkbnflgbaaWF2
import Derived.Test.YticdpbkbnflgbaaW14
import Derived.Test.YticdpbkbnflgbaaWQ9
import Derived.Deep.Cut
namespace Go.Proofs.Yticdpbkbnflgbaa
open Go.RowKit
set_option linter.unusedVariables false

set_option maxHeartbeats 2000000 in
set_option maxRecDepth 100000 in
theorem power_is (z e : Nat) (x : Int) (P Q : Nat) (w : World) (hz : z = 1074) (he : e ≤ 3000) (hx : x = (e : Int) - 1074) (hP : 1 * 2 ^ (e - z) = P) (hQ : 1 * 2 ^ (z - e) = Q) :
    Calls Try.prog 95 #[.int .i64 x] w fun r w' => ∃ p q n m, r = .returned (.agg #[.bool false, .slice p n n, .slice q m m]) ∧ n ≤ 3100 ∧ m ≤ 3100 ∧ New w w' p P n ∧ New w w' q Q m := by
  have lP : ln P ≤ 3100 := by rw [← hP]; have := ln_up (m := 1) (s := e - z) (by omega); omega
  have lQ : ln Q ≤ 3100 := by rw [← hQ]; have := ln_up (m := 1) (s := z - e) (by omega); omega
  by_cases hn : e < 1074
  · have h0 : P = 1 := by rw [← hP, show e - z = 0 by omega]
    have HS := hide' (fun w' p k => rShift_up p 1 1 1 (z - e) w' (by omega) (by omega) k (by omega))
    rw [hQ] at HS
    have hxn : x = -((z - e : Nat) : Int) := by omega
    have hy0 : 0 < z - e := by omega
    have hyb : z - e ≤ 1074 := by omega
    clear hQ hP hx hn he lP
    generalize z - e = y at HS hxn hy0 hyb
    rw [hxn]
    have hxl : (-(y : Int) < 0) = True := eq_true (by omega)
    clear hxn hz
    subst h0
    go_enter Try.func95, Try.ntmps95
    go_upto_region 1 with fail
    obtain ⟨W, hW⟩ : ∃ W, (w.alloc (.cells #[.bool false, .slice none 0 0, .slice none 0 0] 27)) = W := ⟨_, rfl⟩
    have r00 : W.cell? ⟨w.heap.size, 0, none⟩ = some (.bool false) := by subst hW; go_simp
    have r01 : W.cell? ⟨w.heap.size, 1, none⟩ = some (.slice none 0 0) := by subst hW; go_simp
    have r02 : W.cell? ⟨w.heap.size, 2, none⟩ = some (.slice none 0 0) := by subst hW; go_simp
    have hB : Below w.heap.size w W := by subst hW; exact ((Below.refl _ _).alloc (by (try simp only [World.size_alloc]); omega) _)
    have hR0 : Row W (w.heap.size) := by
      have := row_new (w) #[.bool false, .slice none 0 0, .slice none 0 0] 27
      try simp only [World.size_alloc] at this
      subst hW; exact this
    have hz : W.heap.size = w.heap.size + 1 := by subst hW; simp only [World.size_alloc]
    rw [hW]
    clear hW
    have hBW : Below W.heap.size W W := Below.refl _ _
    have n9 := single_new W 1 52 1 (by omega) rfl
    have b9 := n9.below
    rw [hz] at n9
    replace hBW := hBW.trans (b9.mono hBW.size)
    replace r00 := below_cell b9 r00
    replace r01 := below_cell b9 r01
    replace r02 := below_cell b9 r02
    replace hR0 := below_row b9 hR0
    go_wp2_with fail
    refine (HS.out _ _ n9.seg).mono ?_
    rintro e w1 ⟨a1, rfl, h1⟩
    have b1 := h1.below
    replace h1 := h1.back hBW
    replace hBW := hBW.trans (b1.mono hBW.size)
    replace r00 := below_cell b1 r00
    replace r01 := below_cell b1 r01
    replace r02 := below_cell b1 r02
    replace hR0 := below_row b1 hR0
    clear n9 b9
    have n8 := single_new w1 1 52 1 (by omega) rfl
    have b8 := n8.below
    replace n8 := n8.back hBW
    replace hBW := hBW.trans (b8.mono hBW.size)
    replace r00 := below_cell b8 r00
    replace r01 := below_cell b8 r01
    replace r02 := below_cell b8 r02
    replace hR0 := below_row b8 hR0
    replace h1 := h1.later b8
    have fz0 := fun o => hR0.frozen o
    go_wp2
    all_goals refine bodyPost_ret (v := Value.agg #[Value.bool false, Value.slice (some ⟨w1.heap.size, 0, none⟩) 1 1, Value.slice a1 (ln Q) (ln Q)]) (by rw [results_cell rfl]; go_simp) rfl ?_
    all_goals exact ⟨_, a1, 1, ln Q, rfl, by omega, by omega, n8.mid hB (((((Mid.refl _ _ _).set _ _ (by omega) (by omega) _).set _ _ (by omega) (by omega) _).set _ _ (by omega) (by omega) _)), h1.mid hB (((((Mid.refl _ _ _).set _ _ (by omega) (by omega) _).set _ _ (by omega) (by omega) _).set _ _ (by omega) (by omega) _))⟩
  · have h0 : Q = 1 := by rw [← hQ, show z - e = 0 by omega]
    have HS := hide' (fun w' p k => rShift_up p 1 1 1 (e - z) w' (by omega) (by omega) k (by omega))
    rw [hP] at HS
    have hxn : x = ((e - z : Nat) : Int) := by omega
    have hyb : e - z ≤ 3000 := by omega
    clear hQ hP hx hn he lQ
    generalize e - z = y at HS hxn hyb
    rw [hxn]
    have hxl : ((y : Int) < 0) = False := eq_false (by omega)
    clear hxn hz
    subst h0
    go_enter Try.func95, Try.ntmps95
    go_upto_region 1 with fail
    obtain ⟨W, hW⟩ : ∃ W, (w.alloc (.cells #[.bool false, .slice none 0 0, .slice none 0 0] 27)) = W := ⟨_, rfl⟩
    have r00 : W.cell? ⟨w.heap.size, 0, none⟩ = some (.bool false) := by subst hW; go_simp
    have r01 : W.cell? ⟨w.heap.size, 1, none⟩ = some (.slice none 0 0) := by subst hW; go_simp
    have r02 : W.cell? ⟨w.heap.size, 2, none⟩ = some (.slice none 0 0) := by subst hW; go_simp
    have hB : Below w.heap.size w W := by subst hW; exact ((Below.refl _ _).alloc (by (try simp only [World.size_alloc]); omega) _)
    have hR0 : Row W (w.heap.size) := by
      have := row_new (w) #[.bool false, .slice none 0 0, .slice none 0 0] 27
      try simp only [World.size_alloc] at this
      subst hW; exact this
    have hz : W.heap.size = w.heap.size + 1 := by subst hW; simp only [World.size_alloc]
    rw [hW]
    clear hW
    have hBW : Below W.heap.size W W := Below.refl _ _
    have n9 := single_new W 1 52 1 (by omega) rfl
    have b9 := n9.below
    rw [hz] at n9
    replace hBW := hBW.trans (b9.mono hBW.size)
    replace r00 := below_cell b9 r00
    replace r01 := below_cell b9 r01
    replace r02 := below_cell b9 r02
    replace hR0 := below_row b9 hR0
    go_wp2_with fail
    refine (HS.out _ _ n9.seg).mono ?_
    rintro e w1 ⟨a1, rfl, h1⟩
    have b1 := h1.below
    replace h1 := h1.back hBW
    replace hBW := hBW.trans (b1.mono hBW.size)
    replace r00 := below_cell b1 r00
    replace r01 := below_cell b1 r01
    replace r02 := below_cell b1 r02
    replace hR0 := below_row b1 hR0
    clear n9 b9
    have n8 := single_new w1 1 52 1 (by omega) rfl
    have b8 := n8.below
    replace n8 := n8.back hBW
    replace hBW := hBW.trans (b8.mono hBW.size)
    replace r00 := below_cell b8 r00
    replace r01 := below_cell b8 r01
    replace r02 := below_cell b8 r02
    replace hR0 := below_row b8 hR0
    replace h1 := h1.later b8
    have fz0 := fun o => hR0.frozen o
    go_wp2
    all_goals refine bodyPost_ret (v := Value.agg #[Value.bool false, Value.slice a1 (ln P) (ln P), Value.slice (some ⟨w1.heap.size, 0, none⟩) 1 1]) (by rw [results_cell rfl]; go_simp) rfl ?_
    all_goals exact ⟨a1, _, ln P, 1, rfl, by omega, by omega, h1.mid hB (((((Mid.refl _ _ _).set _ _ (by omega) (by omega) _).set _ _ (by omega) (by omega) _).set _ _ (by omega) (by omega) _)), n8.mid hB (((((Mid.refl _ _ _).set _ _ (by omega) (by omega) _).set _ _ (by omega) (by omega) _).set _ _ (by omega) (by omega) _))⟩
set_option maxHeartbeats 4000000 in
set_option maxRecDepth 100000 in
theorem Amount_is (z T k : Nat) (Z : Int) (V : Nat) (w : World) (hz : z = 1074) (hT : T = 2 ^ z) (hk : k < FI) (hL : Low (amt k : Nat) (T : Int) Z V) :
    Calls Try.prog 67 #[.int .u64 (k : Int)] w fun e w' => ∃ p q, e = .returned (.agg #[.bool (ng Z), .slice p (ln (am Z)) (ln (am Z)), .slice q (ln V) (ln V)]) ∧ New w w' p (am Z) (ln (am Z)) ∧ New w w' q V (ln V) := by
  have hkk : k < 9218868437227405312 := hk
  have HA := hide' (fun w' => parts_any k w' (by omega))
  have hml := fm_lt k
  have hel := fe_lt hk
  have hb := shift_bal (z := z) (fm_fe k)
  generalize fm k = m at HA hml hb
  generalize fe k = e at HA hel hb
  obtain ⟨P, hP⟩ : ∃ P, 1 * 2 ^ (e - z) = P := ⟨_, rfl⟩
  obtain ⟨Q, hQ⟩ : ∃ Q, 1 * 2 ^ (z - e) = Q := ⟨_, rfl⟩
  have hQ0 : Q ≠ 0 := by rw [← hQ]; have := Nat.two_pow_pos (z - e); omega
  have HP := hide' (fun w' => power_is z e ((e : Int) - 1074) P Q w' hz (by omega) rfl hP hQ)
  have lm : ln m ≤ 2 := ln_le_of_lt (by rw [BB2]; omega)
  have HO := hide' (fun w' => rOf_any m w' (by omega))
  have hLL : Low (rn false m 1 * rn false P Q) (((rd 1 : Nat) : Int) * ((rd Q : Nat) : Int)) Z V := by
    rw [rn_of (by omega), rn_of hQ0, rd_of (by omega), rd_of hQ0]
    refine hL.congr (by simp; exact hQ0) ?_
    rw [← hT] at hb
    rw [Nat.one_mul] at hP hQ
    rw [hP, hQ] at hb
    have hbi : ((m * P * T : Nat) : Int) = ((amt k * Q : Nat) : Int) := by rw [hb]
    simp only [sg, Bool.false_eq_true, if_false]
    simp only [Int.natCast_mul] at hbi
    simp only [Int.one_mul, Int.natCast_one]
    exact hbi.symm
  have HM := hide' (fun w' a b p q n m' k1 k2 k3 k4 h1 h2 => vqMul_is false a (ln m) (ln m) m b 1 1 1 false p n n P q m' m' Q Z V w' (Nat.le_refl _) (by omega) k1 (Nat.le_refl _) (by omega) k2 (Nat.le_refl _) h1 k3 (Nat.le_refl _) h2 k4 hLL)
  clear hLL hL hP hQ hb hT hz hk
  go_enter Try.func67, Try.ntmps67
  go_wp2_with fail
  obtain ⟨W, hW⟩ : ∃ W, (w.alloc (.cells #[.bool false, .slice none 0 0, .slice none 0 0] 27)) = W := ⟨_, rfl⟩
  have r00 : W.cell? ⟨w.heap.size, 0, none⟩ = some (.bool false) := by subst hW; go_simp
  have r01 : W.cell? ⟨w.heap.size, 1, none⟩ = some (.slice none 0 0) := by subst hW; go_simp
  have r02 : W.cell? ⟨w.heap.size, 2, none⟩ = some (.slice none 0 0) := by subst hW; go_simp
  have hB : Below w.heap.size w W := by subst hW; exact ((Below.refl _ _).alloc (by (try simp only [World.size_alloc]); omega) _)
  have hR0 : Row W (w.heap.size) := by
    have := row_new (w) #[.bool false, .slice none 0 0, .slice none 0 0] 27
    try simp only [World.size_alloc] at this
    subst hW; exact this
  have hz : W.heap.size = w.heap.size + 1 := by subst hW; simp only [World.size_alloc]
  rw [hW]
  clear hW
  have hBW : Below W.heap.size W W := Below.refl _ _
  refine (HA.out _).mono ?_
  rintro e1 w1 ⟨rfl, rfl⟩
  go_wp2_with fail
  refine (HO.out _).mono ?_
  rintro e w1 ⟨a1, rfl, h1⟩
  have b1 := h1.below
  replace h1 := h1.back hBW
  replace hBW := hBW.trans (b1.mono hBW.size)
  replace r00 := below_cell b1 r00
  replace r01 := below_cell b1 r01
  replace r02 := below_cell b1 r02
  replace hR0 := below_row b1 hR0
  have n9 := single_new w1 1 52 1 (by omega) rfl
  have b9 := n9.below
  replace n9 := n9.back hBW
  replace hBW := hBW.trans (b9.mono hBW.size)
  replace r00 := below_cell b9 r00
  replace r01 := below_cell b9 r01
  replace r02 := below_cell b9 r02
  replace hR0 := below_row b9 hR0
  replace h1 := h1.later b9
  go_wp2_with fail
  refine (HP.out _).mono ?_
  rintro e w2 ⟨p, q, n, m2, rfl, ln1, ln2, hp, hq⟩
  have b2 := hp.below
  replace hp := hp.back hBW
  replace hq := hq.back hBW
  replace hBW := hBW.trans (b2.mono hBW.size)
  replace r00 := below_cell b2 r00
  replace r01 := below_cell b2 r01
  replace r02 := below_cell b2 r02
  replace hR0 := below_row b2 hR0
  replace h1 := h1.later b2
  replace n9 := n9.later b2
  go_wp2_with fail
  refine (HM.out _ _ _ _ _ _ _ h1.seg n9.seg hp.seg hq.seg (by omega) (by omega)).mono ?_
  rintro e w3 ⟨p3, q3, rfl, hp3, hq3⟩
  have b3 := hp3.below
  replace hp3 := hp3.back hBW
  replace hq3 := hq3.back hBW
  replace hBW := hBW.trans (b3.mono hBW.size)
  replace r00 := below_cell b3 r00
  replace r01 := below_cell b3 r01
  replace r02 := below_cell b3 r02
  replace hR0 := below_row b3 hR0
  replace h1 := h1.later b3
  replace n9 := n9.later b3
  replace hp := hp.later b3
  replace hq := hq.later b3
  have fz0 := fun o => hR0.frozen o
  go_wp2
  all_goals refine bodyPost_ret (v := Value.agg #[Value.bool (ng Z), Value.slice p3 (ln (am Z)) (ln (am Z)), Value.slice q3 (ln V) (ln V)]) (by rw [results_cell rfl]; go_simp) rfl ?_
  all_goals exact ⟨p3, q3, rfl, hp3.mid hB (((((Mid.refl _ _ _).set _ _ (by omega) (by omega) _).set _ _ (by omega) (by omega) _).set _ _ (by omega) (by omega) _)), hq3.mid hB (((((Mid.refl _ _ _).set _ _ (by omega) (by omega) _).set _ _ (by omega) (by omega) _).set _ _ (by omega) (by omega) _))⟩
theorem fv_pos {b : Nat} (hb : b < SB) : fv b = (amt b : Nat) := by
  unfold fv
  rw [fneg_iff (by rw [SBv] at hb; omega), decide_eq_false (by omega), Nat.mod_eq_of_lt hb]; rfl
theorem fv_neg {b : Nat} (hb : b < 18446744073709551616) (hs : SB ≤ b) : fv b = -((amt (b % SB) : Nat) : Int) := by
  unfold fv
  rw [fneg_iff hb, decide_eq_true hs]; rfl
theorem amt_ln {k : Nat} (h : k < FI) : amt k < BB ^ 3000 := by
  rw [← fm_fe k]
  have h1 := fm_lt k
  have h2 := fe_lt h
  obtain ⟨c, hc⟩ : ∃ c : Nat, c = 3000 := ⟨_, rfl⟩
  rw [← hc]
  have h3 : fm k * 2 ^ fe k < 2 ^ 53 * 2 ^ fe k := Nat.mul_lt_mul_of_pos_right (by omega) (Nat.two_pow_pos _)
  refine Nat.lt_of_lt_of_le h3 ?_
  rw [← Nat.pow_add, BB_two]
  exact Nat.pow_le_pow_right (by omega) (by omega)
theorem T_ln {z T : Nat} (hz : z = 1074) (hT : T = 2 ^ z) : T < BB ^ 3000 := by
  obtain ⟨c, hc⟩ : ∃ c : Nat, c = 3000 := ⟨_, rfl⟩
  rw [← hc, hT, BB_two]
  exact Nat.pow_lt_pow_right (by omega) (by omega)
theorem low_fl {z T : Nat} {A Z : Int} {V : Nat} (hz : z = 1074) (hT : T = 2 ^ z) (hA : am A < BB ^ 3000) (hL : Low A (T : Int) Z V) : ln (am Z) ≤ 3000 ∧ ln V ≤ 3000 := by
  have h := hL.le
  rw [am_nat] at h
  exact ⟨ln_le_of_lt (Nat.lt_of_le_of_lt h.1 hA), ln_le_of_lt (Nat.lt_of_le_of_lt h.2 (T_ln hz hT))⟩
set_option maxHeartbeats 4000000 in
set_option maxRecDepth 100000 in
theorem Number_is (z T b : Nat) (Z : Int) (V : Nat) (w : World) (hz : z = 1074) (hT : T = 2 ^ z) (hb : b < 18446744073709551616) (hf : b % SB < FI) (hL : Low (fv b) (T : Int) Z V) :
    Calls Try.prog 42 #[.int .u64 (b : Int)] w fun e w' => ∃ p q, e = .returned (.agg #[.bool (ng Z), .slice p (ln (am Z)) (ln (am Z)), .slice q (ln V) (ln V)]) ∧ New w w' p (am Z) (ln (am Z)) ∧ New w w' q V (ln V) := by
  have h1 := and_sign hb
  have h2 := andNot_sign hb
  by_cases hs : SB ≤ b
  · rw [if_pos hs] at h1
    rw [fv_neg hb hs] at hL
    have hT0 : (T : Int) ≠ 0 := hL.ne
    obtain ⟨Z1, V1, g1⟩ := low_ex ((amt (b % SB) : Nat) : Int) (T : Int) hT0
    obtain ⟨l1, l2⟩ := low_fl hz hT (by rw [am_nat]; exact amt_ln hf) g1
    have hV1 : V1 ≠ 0 := by have := g1.pos; omega
    have HA := hide' (fun w' => Amount_is z T (b % SB) Z1 V1 w' hz hT hf g1)
    have hLL : Low (-(rn (ng Z1) (am Z1) V1)) ((rd V1 : Nat) : Int) Z V := by
      rw [rn_of hV1, rd_of hV1, sg_na]
      refine hL.congr (by omega) ?_
      have := g1.eq
      grind
    have HN := hide' (fun w' p q k1 k2 => vqNeg_is (ng Z1) p (ln (am Z1)) (ln (am Z1)) (am Z1) q (ln V1) (ln V1) V1 Z V w' (Nat.le_refl _) (by omega) k1 (Nat.le_refl _) (by omega) k2 hLL)
    clear hLL hL g1 hT hz hf hs hT0
    generalize b % SB = k at h2 HA
    go_enter Try.func42, Try.ntmps42
    go_upto_region 1 with fail
    obtain ⟨W, hW⟩ : ∃ W, (w.alloc (.cells #[.bool false, .slice none 0 0, .slice none 0 0] 27)) = W := ⟨_, rfl⟩
    have r00 : W.cell? ⟨w.heap.size, 0, none⟩ = some (.bool false) := by subst hW; go_simp
    have r01 : W.cell? ⟨w.heap.size, 1, none⟩ = some (.slice none 0 0) := by subst hW; go_simp
    have r02 : W.cell? ⟨w.heap.size, 2, none⟩ = some (.slice none 0 0) := by subst hW; go_simp
    have hB : Below w.heap.size w W := by subst hW; exact ((Below.refl _ _).alloc (by (try simp only [World.size_alloc]); omega) _)
    have hR0 : Row W (w.heap.size) := by
      have := row_new (w) #[.bool false, .slice none 0 0, .slice none 0 0] 27
      try simp only [World.size_alloc] at this
      subst hW; exact this
    have hz : W.heap.size = w.heap.size + 1 := by subst hW; simp only [World.size_alloc]
    rw [hW]
    clear hW
    have hBW : Below W.heap.size W W := Below.refl _ _
    go_wp2_with fail
    refine (HA.out _).mono ?_
    rintro e w1 ⟨p1, q1, rfl, hp1, hq1⟩
    have b1 := hp1.below
    replace hp1 := hp1.back hBW
    replace hq1 := hq1.back hBW
    replace hBW := hBW.trans (b1.mono hBW.size)
    replace r00 := below_cell b1 r00
    replace r01 := below_cell b1 r01
    replace r02 := below_cell b1 r02
    replace hR0 := below_row b1 hR0
    go_wp2_with fail
    refine (HN.out _ _ _ hp1.seg hq1.seg).mono ?_
    rintro e w2 ⟨p2, q2, rfl, hp2, hq2⟩
    have b2 := hp2.below
    replace hp2 := hp2.back hBW
    replace hq2 := hq2.back hBW
    replace hBW := hBW.trans (b2.mono hBW.size)
    replace r00 := below_cell b2 r00
    replace r01 := below_cell b2 r01
    replace r02 := below_cell b2 r02
    replace hR0 := below_row b2 hR0
    replace hp1 := hp1.later b2
    replace hq1 := hq1.later b2
    have fz0 := fun o => hR0.frozen o
    go_wp2
    all_goals refine bodyPost_ret (v := Value.agg #[Value.bool (ng Z), Value.slice p2 (ln (am Z)) (ln (am Z)), Value.slice q2 (ln V) (ln V)]) (by rw [results_cell rfl]; go_simp) rfl ?_
    all_goals exact ⟨p2, q2, rfl, hp2.mid hB (((((Mid.refl _ _ _).set _ _ (by omega) (by omega) _).set _ _ (by omega) (by omega) _).set _ _ (by omega) (by omega) _)), hq2.mid hB (((((Mid.refl _ _ _).set _ _ (by omega) (by omega) _).set _ _ (by omega) (by omega) _).set _ _ (by omega) (by omega) _))⟩
  · rw [if_neg hs] at h1
    have hlt : b < SB := by omega
    rw [fv_pos hlt] at hL
    rw [Nat.mod_eq_of_lt hlt] at hf
    have HA := hide' (fun w' => Amount_is z T b Z V w' hz hT hf hL)
    clear hL hT hz hf hs hlt h2
    go_enter Try.func42, Try.ntmps42
    go_upto_region 1 with fail
    obtain ⟨W, hW⟩ : ∃ W, (w.alloc (.cells #[.bool false, .slice none 0 0, .slice none 0 0] 27)) = W := ⟨_, rfl⟩
    have r00 : W.cell? ⟨w.heap.size, 0, none⟩ = some (.bool false) := by subst hW; go_simp
    have r01 : W.cell? ⟨w.heap.size, 1, none⟩ = some (.slice none 0 0) := by subst hW; go_simp
    have r02 : W.cell? ⟨w.heap.size, 2, none⟩ = some (.slice none 0 0) := by subst hW; go_simp
    have hB : Below w.heap.size w W := by subst hW; exact ((Below.refl _ _).alloc (by (try simp only [World.size_alloc]); omega) _)
    have hR0 : Row W (w.heap.size) := by
      have := row_new (w) #[.bool false, .slice none 0 0, .slice none 0 0] 27
      try simp only [World.size_alloc] at this
      subst hW; exact this
    have hz : W.heap.size = w.heap.size + 1 := by subst hW; simp only [World.size_alloc]
    rw [hW]
    clear hW
    have hBW : Below W.heap.size W W := Below.refl _ _
    go_wp2_with fail
    refine (HA.out _).mono ?_
    rintro e w1 ⟨p1, q1, rfl, hp1, hq1⟩
    have b1 := hp1.below
    replace hp1 := hp1.back hBW
    replace hq1 := hq1.back hBW
    replace hBW := hBW.trans (b1.mono hBW.size)
    replace r00 := below_cell b1 r00
    replace r01 := below_cell b1 r01
    replace r02 := below_cell b1 r02
    replace hR0 := below_row b1 hR0
    have fz0 := fun o => hR0.frozen o
    go_wp2
    all_goals refine bodyPost_ret (v := Value.agg #[Value.bool (ng Z), Value.slice p1 (ln (am Z)) (ln (am Z)), Value.slice q1 (ln V) (ln V)]) (by rw [results_cell rfl]; go_simp) rfl ?_
    all_goals exact ⟨p1, q1, rfl, hp1.mid hB (((((Mid.refl _ _ _).set _ _ (by omega) (by omega) _).set _ _ (by omega) (by omega) _).set _ _ (by omega) (by omega) _)), hq1.mid hB (((((Mid.refl _ _ _).set _ _ (by omega) (by omega) _).set _ _ (by omega) (by omega) _).set _ _ (by omega) (by omega) _))⟩
end Go.Proofs.Yticdpbkbnflgbaa
