/-
  ApproxTies.
-/
import Derived.Test.YtjofldgaefjapabWFC
import Derived.Test.YtjofldgaefjapabWF4
import Derived.Test.YtjofldgaefjapabWFS
import Derived.Test.YtjofldgaefjapabWQD
import Derived.Test.YtjofldgaefjapabOpenQ
namespace Go.Proofs.Ytjofldgaefjapab.approxTies
open Go.ChangeShapes Go.WideShapes Go.ChangeAt Go.RowKit Go.Proofs.Ytjofldgaefjapab
set_option linter.unusedVariables false

theorem half_is {T k N V : Nat} (hV : 0 < V) (hk : k + 1 < FI) (h : N * T * 2 = (amt k + amt (k + 1)) * V) : Cut T N V k ∧ nup T N V k = decide (k % 2 = 1) := by
  have hl : amt k < amt (k + 1) := amt_lt (by omega)
  have hl2 := Nat.mul_lt_mul_of_pos_right hl hV
  rw [Nat.add_mul] at h
  refine ⟨⟨by omega, by omega, Or.inr (by omega)⟩, ?_⟩
  unfold nup
  have hr : rst T N V k = 2 := by
    unfold rst
    rw [if_neg (by omega), cmpI_eq (by rw [Nat.add_mul]; omega)]; rfl
  rw [hr, decide_eq_decide]
  omega
theorem up_par (k : Nat) : (if decide (k % 2 = 1) = true then k + 1 else k) = k + k % 2 := by
  by_cases h : k % 2 = 1
  · simp [h]
  · simp [h]; omega
theorem tie_pos {T k : Nat} {Z : Int} {V : Nat} (hk : k + 1 < FI) (hT : 0 < T) (hL : Low ((amt k : Nat) + (amt (k + 1) : Nat) : Int) (2 * T : Int) Z V) : Cut T (rN (am Z) V) (rd V) k ∧ nearB T (ng Z) (am Z) V k = k + k % 2 := by
  have hV := hL.pos
  have hS : 0 < amt (k + 1) := by have := amt_lt (show 0 < k + 1 by omega); rw [amt_zero] at this; exact this
  have e := hL.eq
  have hZ : 0 < Z := by
    have h1 : 0 < ((amt k : Nat) + (amt (k + 1) : Nat) : Int) * V := Int.mul_pos (by omega) (by omega)
    rw [← e] at h1
    rcases Int.lt_trichotomy Z 0 with g | g | g
    · have := Int.mul_neg_of_neg_of_pos g (show (0 : Int) < 2 * T by omega); omega
    · rw [g, Int.zero_mul] at h1; omega
    · exact g
  have hN : ((am Z : Nat) : Int) = Z := by unfold am; omega
  have h2 : am Z * T * 2 = (amt k + amt (k + 1)) * V := by
    have : ((am Z * T * 2 : Nat) : Int) = (((amt k + amt (k + 1)) * V : Nat) : Int) := by
      simp only [Int.natCast_mul, Int.natCast_add, hN]
      rw [← e]; grind
    omega
  obtain ⟨h3, h4⟩ := half_is hV hk h2
  have e1 : rN (am Z) V = am Z := rN_of (by omega)
  have e2 : rd V = V := rd_of (by omega)
  refine ⟨by rw [e1, e2]; exact h3, ?_⟩
  unfold nearB
  rw [e1, e2, h4, up_par, rn_nf hV, decide_eq_false (by omega)]; rfl
theorem tie_neg {T k : Nat} {Z Z' : Int} {V V' : Nat} (hk : k + 1 < FI) (hT : 0 < T) (hL : Low ((amt k : Nat) + (amt (k + 1) : Nat) : Int) (2 * T : Int) Z V) (hN : Low (-Z) (V : Int) Z' V') : Cut T (rN (am Z') V') (rd V') k ∧ nearB T (ng Z') (am Z') V' k = SB + (k + k % 2) := by
  obtain ⟨rfl, rfl⟩ : Z' = -Z ∧ V' = V := by
    have hs : Low (-Z) (V : Int) (-Z) V := ⟨by have := hL.pos; omega, hL.pos, rfl, by rw [am_neg]; exact hL.cop⟩
    obtain ⟨a, b⟩ := hN.uniq hs rfl
    exact ⟨a, b⟩
  obtain ⟨h1, h2⟩ := tie_pos hk hT hL
  rw [am_neg]
  refine ⟨h1, ?_⟩
  have hV := hL.pos
  unfold nearB at h2 ⊢
  have hZ : 0 < Z := by
    have hS : 0 < amt (k + 1) := by have := amt_lt (show 0 < k + 1 by omega); rw [amt_zero] at this; exact this
    have e := hL.eq
    have h1 : 0 < ((amt k : Nat) + (amt (k + 1) : Nat) : Int) * V' := Int.mul_pos (by omega) (by omega)
    rw [← e] at h1
    rcases Int.lt_trichotomy Z 0 with g | g | g
    · have := Int.mul_neg_of_neg_of_pos g (show (0 : Int) < 2 * T by omega); omega
    · rw [g, Int.zero_mul] at h1; omega
    · exact g
  rw [rn_nf hV, decide_eq_false (by omega)] at h2
  have e : rn (ng (-Z)) (am Z) V' = -Z := by
    have := rn_nf (Z := -Z) hV
    rwa [am_neg] at this
  rw [e, decide_eq_true (by omega)]
  unfold fB at h2 ⊢
  rw [if_neg (by decide)] at h2
  rw [if_pos rfl, h2]

set_option maxHeartbeats 8000000 in
set_option maxRecDepth 100000 in
theorem walk_no (b : Nat) (w : World) (hb : b < 18446744073709551616) (hk : FI - 1 ≤ b % SB) :
    Calls Try.prog 6 #[.int .u64 (b : Int)] w fun e w' => e = .returned (.bool true) ∧ Below w.heap.size w w' := by
  have h2 := andNot_sign hb
  generalize b % SB = k at h2 hk
  have hc : ((k : Int) ≥ 9218868437227405311) = True := eq_true (by rw [FIv] at hk; omega)
  have hd : ((9218868437227405311 : Int) ≤ (k : Int)) = True := eq_true (by rw [FIv] at hk; omega)
  clear hk
  go_enter Try.func6, Try.ntmps6
  go_wp2
  go_ret
  exact ⟨rfl, Below.refl _ _⟩
set_option maxHeartbeats 8000000 in
set_option maxRecDepth 100000 in
theorem walk_is (z T b : Nat) (w : World) (hz : z = 1074) (hT : T = 2 ^ z) (hb : b < 18446744073709551616) (hk : b % SB < FI - 1) :
    Calls Try.prog 6 #[.int .u64 (b : Int)] w fun e w' => e = .returned (.bool true) ∧ Below w.heap.size w w' := by
  have h2 := andNot_sign hb
  generalize b % SB = k at h2 hk
  have hkk : k < 9218868437227405311 := hk
  have hT0 : 0 < T := by rw [hT]; exact Nat.two_pow_pos z
  have k0 : k < FI := by rw [FIv]; omega
  have k1 : k + 1 < FI := by rw [FIv]; omega
  obtain ⟨Z1, V1, g1⟩ := low_ex ((amt k : Nat) : Int) (T : Int) (by omega)
  obtain ⟨Z2, V2, g2⟩ := low_ex ((amt (k + 1) : Nat) : Int) (T : Int) (by omega)
  obtain ⟨Z3, V3, g3⟩ := low_ex (((amt k : Nat) : Int) + ((amt (k + 1) : Nat) : Int)) (T : Int) (by omega)
  obtain ⟨Z4, V4, g4⟩ := low_ex (((amt k : Nat) : Int) + ((amt (k + 1) : Nat) : Int)) (2 * T : Int) (by omega)
  obtain ⟨Z5, V5, g5⟩ := low_ex (-Z4) (V4 : Int) (by have := g4.pos; omega)
  obtain ⟨l1, m1⟩ := low_fl hz hT (by rw [am_nat]; exact amt_ln k0) g1
  obtain ⟨l2, m2⟩ := low_fl hz hT (by rw [am_nat]; exact amt_ln k1) g2
  have hsum : amt k + amt (k + 1) < BB ^ 3001 := by
    have a1 := amt_ln k0
    have a2 := amt_ln k1
    obtain ⟨c, hc⟩ : ∃ c : Nat, c = 3000 := ⟨_, rfl⟩
    rw [← hc] at a1 a2
    rw [show 3001 = c + 1 by omega, Nat.pow_succ, BB_eq]
    rw [BB_eq] at a1 a2
    omega
  have e3 : am (((amt k : Nat) : Int) + ((amt (k + 1) : Nat) : Int)) = amt k + amt (k + 1) := by rw [← Int.natCast_add, am_nat]
  have hTl := T_ln hz hT
  have hTl2 : 2 * T < BB ^ 3001 := by
    obtain ⟨c, hc⟩ : ∃ c : Nat, c = 3000 := ⟨_, rfl⟩
    rw [← hc] at hTl
    rw [show 3001 = c + 1 by omega, Nat.pow_succ, BB_eq]
    rw [BB_eq] at hTl
    omega
  have q3 := g3.le
  have q4 := g4.le
  have q5 := g5.le
  rw [e3, am_nat] at q3
  rw [e3] at q4
  rw [am_neg, am_nat] at q5
  have e4 : am (2 * (T : Int)) = 2 * T := by unfold am; omega
  rw [e4] at q4
  have l3 : ln (am Z3) ≤ 3001 := ln_le_of_lt (Nat.lt_of_le_of_lt q3.1 hsum)
  have m3 : ln V3 ≤ 3000 := ln_le_of_lt (Nat.lt_of_le_of_lt q3.2 hTl)
  have l4 : ln (am Z4) ≤ 3001 := ln_le_of_lt (Nat.lt_of_le_of_lt q4.1 hsum)
  have m4 : ln V4 ≤ 3001 := ln_le_of_lt (Nat.lt_of_le_of_lt q4.2 hTl2)
  have l5 : ln (am Z5) ≤ 3001 := ln_le_of_lt (Nat.lt_of_le_of_lt q5.1 (Nat.lt_of_le_of_lt q4.1 hsum))
  have m5 : ln V5 ≤ 3001 := ln_le_of_lt (Nat.lt_of_le_of_lt q5.2 (Nat.lt_of_le_of_lt q4.2 hTl2))
  clear q3 q4 q5 hsum hTl hTl2 e3 e4
  have p1 := g1.pos
  have p2 := g2.pos
  have p3 := g3.pos
  have p4 := g4.pos
  have p5 := g5.pos
  have H1 := hide' (fun w' => Amount_is z T k Z1 V1 w' hz hT k0 g1)
  have H2' := fun w' => Amount_is z T (k + 1) Z2 V2 w' hz hT k1 g2
  have hk1 : ((k + 1 : Nat) : Int) = (k : Int) + 1 := by omega
  rw [hk1] at H2'
  have H2 := hide' H2'
  clear H2' hk1
  have hA : Low (rn (ng Z1) (am Z1) V1 * ((rd V2 : Nat) : Int) + rn (ng Z2) (am Z2) V2 * ((rd V1 : Nat) : Int)) (((rd V1 : Nat) : Int) * ((rd V2 : Nat) : Int)) Z3 V3 := by
    rw [rn_nf p1, rn_nf p2, rd_nf p1, rd_nf p2]
    refine g3.congr (Int.mul_ne_zero (by omega) (by omega)) ?_
    have a1 := g1.eq
    have a2 := g2.eq
    grind
  have hD : Low (rn (ng Z3) (am Z3) V3 * ((rd 1 : Nat) : Int)) (((rd V3 : Nat) : Int) * rn false 2 1) Z4 V4 := by
    rw [rn_nf p3, rd_nf p3, show rn false 2 1 = 2 from rfl, show rd 1 = 1 from rfl]
    refine g4.congr (Int.mul_ne_zero (by omega) (by omega)) ?_
    have a1 := g3.eq
    grind
  have hG : Low (-(rn (ng Z4) (am Z4) V4)) ((rd V4 : Nat) : Int) Z5 V5 := by rw [rn_nf p4, rd_nf p4]; exact g5
  have H3 := hide' (fun w' p q p' q' a1 a2 a3 a4 => vqAdd_is (ng Z1) p (ln (am Z1)) (ln (am Z1)) (am Z1) q (ln V1) (ln V1) V1 (ng Z2) p' (ln (am Z2)) (ln (am Z2)) (am Z2) q' (ln V2) (ln V2) V2 Z3 V3 w' (Nat.le_refl _) (by omega) a1 (Nat.le_refl _) (by omega) a2 (Nat.le_refl _) (by omega) a3 (Nat.le_refl _) (by omega) a4 hA)
  have H4 := hide' (fun w' p q r s a1 a2 a3 a4 => vqDiv_is (ng Z3) p (ln (am Z3)) (ln (am Z3)) (am Z3) q (ln V3) (ln V3) V3 false r 1 1 2 s 1 1 1 Z4 V4 w' (Nat.le_refl _) (by omega) a1 (Nat.le_refl _) (by omega) a2 (by omega) (by omega) a3 (by omega) (by omega) a4 hD)
  have H5 := hide' (fun w' p q a1 a2 => near_is (ng Z4) p (ln (am Z4)) (ln (am Z4)) (am Z4) q (ln V4) (ln V4) V4 z T w' (Nat.le_refl _) (by omega) a1 (Nat.le_refl _) (by omega) a2 hz hT)
  have H6 := hide' (fun w' p q a1 a2 => vqNeg_is (ng Z4) p (ln (am Z4)) (ln (am Z4)) (am Z4) q (ln V4) (ln V4) V4 Z5 V5 w' (Nat.le_refl _) (by omega) a1 (Nat.le_refl _) (by omega) a2 hG)
  have H7 := hide' (fun w' p q a1 a2 => near_is (ng Z5) p (ln (am Z5)) (ln (am Z5)) (am Z5) q (ln V5) (ln V5) V5 z T w' (Nat.le_refl _) (by omega) a1 (Nat.le_refl _) (by omega) a2 hz hT)
  have HP := hide' (tie_pos k1 hT0 g4)
  have HN := hide' (tie_neg k1 hT0 g4 g5)
  have h8 : ∀ w, (callFunc 24 #[.int .u64 ((k : Int) + (k : Int) % 2)]).run Try.prog w = .ok (.value (.float .f64 (k + k % 2))) w := fun w => from_run (k + k % 2) w
  have h9 : bits .or .u64 9223372036854775808 ((k : Int) + (k : Int) % 2) = ((SB + (k + k % 2) : Nat) : Int) := by
    have hs : SB = 9223372036854775808 := rfl
    have := u64_or_nat 9223372036854775808 (k + k % 2) (by omega) (by omega)
    refine this.trans ?_
    congr 1
    rw [show (9223372036854775808 : Nat) = 2 ^ 63 * 1 by decide, ← Nat.two_pow_add_eq_or_of_lt (by rw [← SB_eq]; omega), Nat.mul_one, SB_eq]
  have h10 := from_run (SB + (k + k % 2))
  have hc : ((9218868437227405311 : Int) ≤ (k : Int)) = False := eq_false (by omega)
  obtain ⟨ev, hev⟩ : ∃ ev, k + k % 2 = ev := ⟨_, rfl⟩
  obtain ⟨eo, heo⟩ : ∃ eo, SB + (k + k % 2) = eo := ⟨_, rfl⟩
  rw [hev] at h8
  rw [heo] at h9 h10
  have HE := hide' hev
  have HO := hide' heo
  clear hev heo
  clear hA hD hG g1 g2 g3 g4 g5 p1 p2 p3 p4 p5 hT0 k0 k1 hz hT hk
  have hB : Below w.heap.size w w := Below.refl _ _
  have hBW : Below w.heap.size w w := Below.refl _ _
  go_enter Try.func6, Try.ntmps6
  go_wp2_with fail
  refine (H1.out _).mono ?_
  rintro e w1 ⟨p1, q1, rfl, hp1, hq1⟩
  have b1 := hp1.below
  replace hp1 := hp1.back hBW
  replace hq1 := hq1.back hBW
  replace hBW := hBW.trans (b1.mono hBW.size)
  go_wp2_with fail
  refine (H2.out _).mono ?_
  rintro e w2 ⟨p2, q2, rfl, hp2, hq2⟩
  have b2 := hp2.below
  replace hp2 := hp2.back hBW
  replace hq2 := hq2.back hBW
  replace hBW := hBW.trans (b2.mono hBW.size)
  replace hp1 := hp1.later b2
  replace hq1 := hq1.later b2
  go_wp2_with fail
  refine (H3.out _ _ _ _ _ hp1.seg hq1.seg hp2.seg hq2.seg).mono ?_
  rintro e w3 ⟨p3, q3, rfl, hp3, hq3⟩
  have b3 := hp3.below
  replace hp3 := hp3.back hBW
  replace hq3 := hq3.back hBW
  replace hBW := hBW.trans (b3.mono hBW.size)
  replace hp1 := hp1.later b3
  replace hq1 := hq1.later b3
  replace hp2 := hp2.later b3
  replace hq2 := hq2.later b3
  have hsz3 := hBW.size
  have l300 : ((w3.alloc (.cells #[.bool (ng Z3), .slice p3 (ln (am Z3)) (ln (am Z3)), .slice q3 (ln V3) (ln V3)] 27))).cell? ⟨w3.heap.size, 0, none⟩ = some (.bool (ng Z3)) := by go_simp
  have l301 : ((w3.alloc (.cells #[.bool (ng Z3), .slice p3 (ln (am Z3)) (ln (am Z3)), .slice q3 (ln V3) (ln V3)] 27))).cell? ⟨w3.heap.size, 1, none⟩ = some (.slice p3 (ln (am Z3)) (ln (am Z3))) := by go_simp
  have l302 : ((w3.alloc (.cells #[.bool (ng Z3), .slice p3 (ln (am Z3)) (ln (am Z3)), .slice q3 (ln V3) (ln V3)] 27))).cell? ⟨w3.heap.size, 2, none⟩ = some (.slice q3 (ln V3) (ln V3)) := by go_simp
  have cb3 : Below w3.heap.size w3 ((w3.alloc (.cells #[.bool (ng Z3), .slice p3 (ln (am Z3)) (ln (am Z3)), .slice q3 (ln V3) (ln V3)] 27))) := ((Below.refl _ _).alloc (by (try simp only [World.size_alloc]); omega) _)
  replace hBW := hBW.trans (cb3.mono hBW.size)
  replace hp1 := hp1.later cb3
  replace hq1 := hq1.later cb3
  replace hp2 := hp2.later cb3
  replace hq2 := hq2.later cb3
  replace hp3 := hp3.later cb3
  replace hq3 := hq3.later cb3
  have hL30 : Row ((w3.alloc (.cells #[.bool (ng Z3), .slice p3 (ln (am Z3)) (ln (am Z3)), .slice q3 (ln V3) (ln V3)] 27))) (w3.heap.size) := by
    have := row_new (w3) #[.bool (ng Z3), .slice p3 (ln (am Z3)) (ln (am Z3)), .slice q3 (ln V3) (ln V3)] 27
    try simp only [World.size_alloc] at this
    exact this
  go_upto_region 5 with fail
  generalize (w3.alloc (.cells #[.bool (ng Z3), .slice p3 (ln (am Z3)) (ln (am Z3)), .slice q3 (ln V3) (ln V3)] 27)) = w3x at l300 l301 l302 hL30 hp1 hq1 hp2 hq2 hp3 hq3 hBW cb3 ⊢
  clear cb3
  have Kl300 := l300
  have Kl301 := l301
  have Kl302 := l302
  have n9 := single_new w3x 2 46 2 (by omega) rfl
  have b9 := n9.below
  replace n9 := n9.back hBW
  replace hBW := hBW.trans (b9.mono hBW.size)
  replace l300 := below_cell b9 l300
  replace l301 := below_cell b9 l301
  replace l302 := below_cell b9 l302
  replace hL30 := below_row b9 hL30
  replace hp1 := hp1.later b9
  replace hq1 := hq1.later b9
  replace hp2 := hp2.later b9
  replace hq2 := hq2.later b9
  replace hp3 := hp3.later b9
  replace hq3 := hq3.later b9
  have n8 := single_new (w3x.alloc (.cells #[.int .u32 2] 46)) 1 46 1 (by omega) rfl
  have b8 := n8.below
  replace n8 := n8.back hBW
  rw [World.size_alloc] at n8
  replace hBW := hBW.trans (b8.mono hBW.size)
  replace l300 := below_cell b8 l300
  replace l301 := below_cell b8 l301
  replace l302 := below_cell b8 l302
  replace hL30 := below_row b8 hL30
  replace hp1 := hp1.later b8
  replace hq1 := hq1.later b8
  replace hp2 := hp2.later b8
  replace hq2 := hq2.later b8
  replace hp3 := hp3.later b8
  replace hq3 := hq3.later b8
  replace n9 := n9.later b8
  go_wp2_with fail
  clear Kl300 Kl301 Kl302
  refine (H4.out _ _ _ _ _ hp3.seg hq3.seg n9.seg n8.seg).mono ?_
  rintro e w4 ⟨p4, q4, rfl, hp4, hq4⟩
  have b4 := hp4.below
  replace hp4 := hp4.back hBW
  replace hq4 := hq4.back hBW
  replace hBW := hBW.trans (b4.mono hBW.size)
  replace l300 := below_cell b4 l300
  replace l301 := below_cell b4 l301
  replace l302 := below_cell b4 l302
  replace hL30 := below_row b4 hL30
  replace hp1 := hp1.later b4
  replace hq1 := hq1.later b4
  replace hp2 := hp2.later b4
  replace hq2 := hq2.later b4
  replace hp3 := hp3.later b4
  replace hq3 := hq3.later b4
  replace n9 := n9.later b4
  replace n8 := n8.later b4
  have hsz4 := hBW.size
  have hlt4hL30 := hL30.lt
  have l400 : ((w4.alloc (.cells #[.bool (ng Z4), .slice p4 (ln (am Z4)) (ln (am Z4)), .slice q4 (ln V4) (ln V4)] 27))).cell? ⟨w4.heap.size, 0, none⟩ = some (.bool (ng Z4)) := by go_simp
  have l401 : ((w4.alloc (.cells #[.bool (ng Z4), .slice p4 (ln (am Z4)) (ln (am Z4)), .slice q4 (ln V4) (ln V4)] 27))).cell? ⟨w4.heap.size, 1, none⟩ = some (.slice p4 (ln (am Z4)) (ln (am Z4))) := by go_simp
  have l402 : ((w4.alloc (.cells #[.bool (ng Z4), .slice p4 (ln (am Z4)) (ln (am Z4)), .slice q4 (ln V4) (ln V4)] 27))).cell? ⟨w4.heap.size, 2, none⟩ = some (.slice q4 (ln V4) (ln V4)) := by go_simp
  have cb4 : Below w4.heap.size w4 ((w4.alloc (.cells #[.bool (ng Z4), .slice p4 (ln (am Z4)) (ln (am Z4)), .slice q4 (ln V4) (ln V4)] 27))) := ((Below.refl _ _).alloc (by (try simp only [World.size_alloc]); omega) _)
  replace hBW := hBW.trans (cb4.mono hBW.size)
  replace l300 := below_cell cb4 l300
  replace l301 := below_cell cb4 l301
  replace l302 := below_cell cb4 l302
  replace hL30 := below_row cb4 hL30
  replace hp1 := hp1.later cb4
  replace hq1 := hq1.later cb4
  replace hp2 := hp2.later cb4
  replace hq2 := hq2.later cb4
  replace hp3 := hp3.later cb4
  replace hq3 := hq3.later cb4
  replace n9 := n9.later cb4
  replace n8 := n8.later cb4
  replace hp4 := hp4.later cb4
  replace hq4 := hq4.later cb4
  have hL40 : Row ((w4.alloc (.cells #[.bool (ng Z4), .slice p4 (ln (am Z4)) (ln (am Z4)), .slice q4 (ln V4) (ln V4)] 27))) (w4.heap.size) := by
    have := row_new (w4) #[.bool (ng Z4), .slice p4 (ln (am Z4)) (ln (am Z4)), .slice q4 (ln V4) (ln V4)] 27
    try simp only [World.size_alloc] at this
    exact this
  go_wp2_with fail
  generalize (w4.alloc (.cells #[.bool (ng Z4), .slice p4 (ln (am Z4)) (ln (am Z4)), .slice q4 (ln V4) (ln V4)] 27)) = w4x at l300 l301 l302 l400 l401 l402 hL30 hL40 hp1 hq1 hp2 hq2 hp3 hq3 n9 n8 hp4 hq4 hBW cb4 ⊢
  clear cb4
  refine (H5.out _ _ _ hp4.seg hq4.seg).mono ?_
  rintro e w5 ⟨k5, rfl, hC5, bb5⟩
  have b5 := bb5
  replace hBW := hBW.trans (b5.mono hBW.size)
  replace l300 := below_cell b5 l300
  replace l301 := below_cell b5 l301
  replace l302 := below_cell b5 l302
  replace l400 := below_cell b5 l400
  replace l401 := below_cell b5 l401
  replace l402 := below_cell b5 l402
  replace hL30 := below_row b5 hL30
  replace hL40 := below_row b5 hL40
  replace hp1 := hp1.later b5
  replace hq1 := hq1.later b5
  replace hp2 := hp2.later b5
  replace hq2 := hq2.later b5
  replace hp3 := hp3.later b5
  replace hq3 := hq3.later b5
  replace n9 := n9.later b5
  replace n8 := n8.later b5
  replace hp4 := hp4.later b5
  replace hq4 := hq4.later b5
  obtain rfl := hC5.uniq HP.out.1
  rw [HP.out.2, HE.out]
  clear HP hC5
  go_wp2_with fail
  refine (fsame_self _ _).mono ?_
  rintro e w6 ⟨rfl, b6⟩
  replace hBW := hBW.trans (b6.mono hBW.size)
  replace l300 := below_cell b6 l300
  replace l301 := below_cell b6 l301
  replace l302 := below_cell b6 l302
  replace l400 := below_cell b6 l400
  replace l401 := below_cell b6 l401
  replace l402 := below_cell b6 l402
  replace hL30 := below_row b6 hL30
  replace hL40 := below_row b6 hL40
  replace hp1 := hp1.later b6
  replace hq1 := hq1.later b6
  replace hp2 := hp2.later b6
  replace hq2 := hq2.later b6
  replace hp3 := hp3.later b6
  replace hq3 := hq3.later b6
  replace n9 := n9.later b6
  replace n8 := n8.later b6
  replace hp4 := hp4.later b6
  replace hq4 := hq4.later b6
  go_wp2_with fail
  refine (H6.out _ _ _ hp4.seg hq4.seg).mono ?_
  rintro e w7 ⟨p7, q7, rfl, hp7, hq7⟩
  have b7 := hp7.below
  replace hp7 := hp7.back hBW
  replace hq7 := hq7.back hBW
  replace hBW := hBW.trans (b7.mono hBW.size)
  replace l300 := below_cell b7 l300
  replace l301 := below_cell b7 l301
  replace l302 := below_cell b7 l302
  replace l400 := below_cell b7 l400
  replace l401 := below_cell b7 l401
  replace l402 := below_cell b7 l402
  replace hL30 := below_row b7 hL30
  replace hL40 := below_row b7 hL40
  replace hp1 := hp1.later b7
  replace hq1 := hq1.later b7
  replace hp2 := hp2.later b7
  replace hq2 := hq2.later b7
  replace hp3 := hp3.later b7
  replace hq3 := hq3.later b7
  replace n9 := n9.later b7
  replace n8 := n8.later b7
  replace hp4 := hp4.later b7
  replace hq4 := hq4.later b7
  go_wp2_with fail
  refine (H7.out _ _ _ hp7.seg hq7.seg).mono ?_
  rintro e w8 ⟨k7, rfl, hC7, bb8⟩
  have b8 := bb8
  replace hBW := hBW.trans (b8.mono hBW.size)
  replace l300 := below_cell b8 l300
  replace l301 := below_cell b8 l301
  replace l302 := below_cell b8 l302
  replace l400 := below_cell b8 l400
  replace l401 := below_cell b8 l401
  replace l402 := below_cell b8 l402
  replace hL30 := below_row b8 hL30
  replace hL40 := below_row b8 hL40
  replace hp1 := hp1.later b8
  replace hq1 := hq1.later b8
  replace hp2 := hp2.later b8
  replace hq2 := hq2.later b8
  replace hp3 := hp3.later b8
  replace hq3 := hq3.later b8
  replace n9 := n9.later b8
  replace n8 := n8.later b8
  replace hp4 := hp4.later b8
  replace hq4 := hq4.later b8
  replace hp7 := hp7.later b8
  replace hq7 := hq7.later b8
  obtain rfl := hC7.uniq HN.out.1
  rw [HN.out.2, HO.out]
  clear HN hC7
  go_wp2_with fail
  refine (fsame_self _ _).mono ?_
  rintro e w9 ⟨rfl, b9⟩
  replace hBW := hBW.trans (b9.mono hBW.size)
  replace l300 := below_cell b9 l300
  replace l301 := below_cell b9 l301
  replace l302 := below_cell b9 l302
  replace l400 := below_cell b9 l400
  replace l401 := below_cell b9 l401
  replace l402 := below_cell b9 l402
  replace hL30 := below_row b9 hL30
  replace hL40 := below_row b9 hL40
  replace hp1 := hp1.later b9
  replace hq1 := hq1.later b9
  replace hp2 := hp2.later b9
  replace hq2 := hq2.later b9
  replace hp3 := hp3.later b9
  replace hq3 := hq3.later b9
  replace n9 := n9.later b9
  replace n8 := n8.later b9
  replace hp4 := hp4.later b9
  replace hq4 := hq4.later b9
  replace hp7 := hp7.later b9
  replace hq7 := hq7.later b9
  go_wp2
  go_ret
  exact ⟨rfl, hB.trans (hBW.mono hB.size)⟩
theorem walk (b : Nat) (w : World) (hb : b < 18446744073709551616) :
    Calls Try.prog 6 #[.int .u64 (b : Int)] w fun e w' => e = .returned (.bool true) ∧ Below w.heap.size w w' := by
  by_cases hk : b % SB < FI - 1
  · exact walk_is _ _ b w rfl rfl hb hk
  · exact walk_no b w hb (by omega)

set_option maxRecDepth 100000 in
theorem contract (H : Type) (enc : TypeId × Value → H) (W : World) (base : Nat) (args : Array Value) (ds gs : List (DataW H)) (before : List MemPlace)
    (hval : ∀ (j : Nat) t v, Try.f6.params[j]? = some t → args[j]? = some v → Value.okWide Try.prog W .any base t v)
    (hW : DataW.Whole enc Try.prog Try.f6.params.toList Rows.approxTiesSpec.vars false W args.toList ds gs before)
    (hsz : (DataW.weightsEach Try.prog (Try.f6.params.toList ++ Rows.approxTiesSpec.plain.varTypes Try.prog) (ds ++ gs)).all (· ≤ reachBytes) = true) :
    Calls Try.prog 6 args W fun e W' => ∃ v, e = .returned v ∧ Rows.approxTiesSpec.post enc Try.prog Try.f6 false true false false W args v W' := by
  have hW' := hW
  obtain ⟨p, q, hA0, hV, rfl, hfz, hnd⟩ := hW
  have hA : DataW.TrodAll enc Try.prog W 0 (fun _ => true) true Try.f6.params.toList args.toList ds p := hA0
  rw [Try.params6] at hA hval hsz
  obtain ⟨v0, vs0, d0, ds0, p0, q0, hargs, rfl, rfl, h0, r0⟩ := trodAll_cons hA
  obtain ⟨rfl, rfl, rfl⟩ := trodAll_nil r0
  obtain rfl : args = #[v0] := by cases args; simp_all
  obtain ⟨rfl, rfl⟩ := trodVars_none hV
  obtain ⟨z0, rfl, rfl, rfl, w0⟩ := open_int Try.underlying33 (hval 0 33 v0 rfl rfl) h0
  have bz0 := bounds_u64 w0
  obtain ⟨n0, rfl⟩ : ∃ n : Nat, z0 = (n : Int) := ⟨z0.toNat, by omega⟩
  have hn0 : n0 < 18446744073709551616 := by omega
  clear hA0
  simp only [List.append_nil] at hW'
  refine (walk n0 W hn0).mono fun e W' ⟨he, bel⟩ => ?_
  subst he
  exact ⟨_, rfl, _, _, _, [], _, [], hW', trodAll_mk1 (shut_bool Try.underlying4 _), (trodAll_cons_mk (shut_int Try.underlying33 w0) trodAll_mk0), rfl, bel.frame _, fun h => by cases h⟩

set_option maxRecDepth 100000 in
theorem lifted (os : Os) (started : os.Started) (H : Type) (enc : TypeId × Value → H) :
    ReturnsInHanded {} Try.checked os 6 .any (Rows.approxTiesSpec.pre6 enc Try.prog Try.f6 Rows.approxTiesRow.domain false) (Rows.approxTiesSpec.post enc Try.prog Try.f6 false true false false) := by
  refine returnsInHanded_of_change_sized (C := Try.checked) own started (by kernel_rfl) Try.func6
    (ChangeSpec.witness6 (enc := enc) (C := Try.checked) false ⟨#[], #[.int .u64 0], []⟩ 8 (by kernel_rfl) (by kernel_rfl) (by kernel_rfl) (by kernel_rfl)) ?_
  intro W base args ds gs before hval hW _ hsz _
  exact contract H enc W base args ds gs before hval hW hsz

theorem over : Rows.approxTiesRow.holds Try.pinned (OpenSpec.ofChange Rows.approxTiesSpec) :=
  OpenClaim.holds_of_wide 6 Try.f6 rfl rfl rfl rfl rfl rfl rfl ⟨rfl, rfl, rfl, rfl, rfl⟩ rfl rfl rfl rfl rfl (by kernel_rfl) Try.func6 (by kernel_rfl)
    (of_decide_eq_true (by kernel_rfl)) (by unfold Func.isWrapper; first | (rw [if_pos (by decide +kernel)]; kernel_rfl) | (rw [if_neg (by decide +kernel)]; exact ⟨rfl, rfl⟩))
    (fun os started H enc _ => lifted os started H enc)

end Go.Proofs.Ytjofldgaefjapab.approxTies
namespace Go.Proofs.Ytjofldgaefjapab
theorem approxTies_holds : Rows.ApproxTiesSaid := approxTies.over
#print axioms approxTies_holds
end Go.Proofs.Ytjofldgaefjapab
