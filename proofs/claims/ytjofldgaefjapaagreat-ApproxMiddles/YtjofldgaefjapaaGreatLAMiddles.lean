/-
  ApproxMiddles.
-/
import Derived.Test.YtjofldgaefjapaaGreatWFO
import Derived.Test.YtjofldgaefjapaaGreatWFB
import Derived.Test.YtjofldgaefjapaaGreatWFC
import Derived.Test.YtjofldgaefjapaaGreatWQ4
import Derived.Test.YtjofldgaefjapaaGreatWF0
import Derived.Test.YtjofldgaefjapaaGreatOpenQ
import Derived.Laws.Cover2
namespace Go.Proofs.YtjofldgaefjapaaGreat
open Go.RowKit
set_option linter.unusedVariables false

/-- what Mid refuses -/
def miE (a b : Nat) : Int := if FI < a % SB ∨ FI < b % SB then 40 else if a % SB = FI ∨ b % SB = FI then 41 else 0
theorem near_same {T : Nat} {s1 s2 : Bool} {X1 Y1 X2 Y2 k1 k2 : Nat} (h : rn s1 X1 Y1 * ((rd Y2 : Nat) : Int) = rn s2 X2 Y2 * ((rd Y1 : Nat) : Int)) (C1 : Cut T (rN X1 Y1) (rd Y1) k1) (C2 : Cut T (rN X2 Y2) (rd Y2) k2) : nearB T s1 X1 Y1 k1 = nearB T s2 X2 Y2 k2 := by
  have p1 := rd_pos Y1
  have p2 := rd_pos Y2
  have hN : rN X1 Y1 * rd Y2 = rN X2 Y2 * rd Y1 := by
    have := congrArg am h
    rwa [am_mul, am_mul, am_nat, am_nat, rN_am, rN_am] at this
  have a := cut_mono p1 p2 (by omega) C1 C2
  have b := cut_mono p2 p1 (by omega) C2 C1
  obtain ⟨rfl, hr⟩ : k1 = k2 ∧ rst T (rN X1 Y1) (rd Y1) k1 = rst T (rN X2 Y2) (rd Y2) k2 := by
    rcases a with a | ⟨a, a'⟩ <;> rcases b with b | ⟨b, b'⟩
    · omega
    · omega
    · omega
    · exact ⟨a, by omega⟩
  have hs : decide (rn s1 X1 Y1 < 0) = decide (rn s2 X2 Y2 < 0) := by
    rw [decide_eq_decide]
    constructor
    · intro g
      have := Int.mul_neg_of_neg_of_pos g (show (0 : Int) < ((rd Y2 : Nat) : Int) by omega)
      rw [h] at this
      refine Int.lt_of_not_ge fun g2 => ?_
      have := Int.mul_nonneg g2 (show (0 : Int) ≤ ((rd Y1 : Nat) : Int) by omega)
      omega
    · intro g
      have := Int.mul_neg_of_neg_of_pos g (show (0 : Int) < ((rd Y1 : Nat) : Int) by omega)
      rw [← h] at this
      refine Int.lt_of_not_ge fun g2 => ?_
      have := Int.mul_nonneg g2 (show (0 : Int) ≤ ((rd Y2 : Nat) : Int) by omega)
      omega
  unfold nearB nup
  rw [hs, hr]

theorem isInf_is (b : Nat) (w : World) (hb : b < 18446744073709551616) :
    Calls Tryz.prog 20 #[.float .f64 b] w fun e w' => e = .returned (.bool (decide (b % SB = FI))) ∧ w = w' := by
  go_enter Tryz.func20, Tryz.ntmps20
  go_wp2_with fail
  refine (inf_any b _ hb).mono ?_
  rintro e w' ⟨rfl, rfl⟩
  go_wp2
  go_ret
  exact ⟨rfl, rfl⟩
set_option maxHeartbeats 4000000 in
set_option maxRecDepth 100000 in
theorem Mid_no (a b : Nat) (w : World) (ha : a < 18446744073709551616) (hb : b < 18446744073709551616) (hf : ¬ (a % SB < FI ∧ b % SB < FI)) :
    Calls Tryz.prog 5 #[.float .f64 a, .float .f64 b] w fun e w' => e = .returned (.tuple #[.float .f64 0, .int .i64 (miE a b)]) ∧ w = w' := by
  have NA := hide' (fun w' => nan_any a w')
  have NB := hide' (fun w' => nan_any b w')
  have IA := hide' (fun w' => isInf_is a w' ha)
  have IB := hide' (fun w' => isInf_is b w' hb)
  unfold miE
  by_cases n1 : FI < a % SB
  · rw [if_pos (Or.inl n1)]
    have d1 : decide (FI < a % SB) = true := decide_eq_true n1
    clear n1 hf
    go_enter Tryz.func5, Tryz.ntmps5
    go_wp2_with fail
    refine (NA.out _).mono ?_
    rintro e w9 ⟨rfl, rfl⟩
    rw [d1]
    go_wp2
    go_ret2
    exact ⟨rfl, rfl⟩
  · have d1 : decide (FI < a % SB) = false := decide_eq_false n1
    by_cases n2 : FI < b % SB
    · rw [if_pos (Or.inr n2)]
      have d2 : decide (FI < b % SB) = true := decide_eq_true n2
      clear n1 n2 hf
      go_enter Tryz.func5, Tryz.ntmps5
      go_wp2_with fail
      refine (NA.out _).mono ?_
      rintro e w9 ⟨rfl, rfl⟩
      rw [d1]
      go_wp2_with fail
      refine (NB.out _).mono ?_
      rintro e w9 ⟨rfl, rfl⟩
      rw [d2]
      go_wp2
      go_ret2
      exact ⟨rfl, rfl⟩
    · have d2 : decide (FI < b % SB) = false := decide_eq_false n2
      rw [if_neg (fun h => h.elim n1 n2)]
      by_cases i1 : a % SB = FI
      · rw [if_pos (Or.inl i1)]
        have d3 : decide (a % SB = FI) = true := decide_eq_true i1
        clear n1 n2 i1 hf
        go_enter Tryz.func5, Tryz.ntmps5
        go_wp2_with fail
        refine (NA.out _).mono ?_
        rintro e w9 ⟨rfl, rfl⟩
        rw [d1]
        go_wp2_with fail
        refine (NB.out _).mono ?_
        rintro e w9 ⟨rfl, rfl⟩
        rw [d2]
        go_wp2_with fail
        refine (IA.out _).mono ?_
        rintro e w9 ⟨rfl, rfl⟩
        rw [d3]
        go_wp2
        go_ret2
        exact ⟨rfl, rfl⟩
      · have d3 : decide (a % SB = FI) = false := decide_eq_false i1
        have i2 : b % SB = FI := by omega
        rw [if_pos (Or.inr i2)]
        have d4 : decide (b % SB = FI) = true := decide_eq_true i2
        clear n1 n2 i1 i2 hf
        go_enter Tryz.func5, Tryz.ntmps5
        go_wp2_with fail
        refine (NA.out _).mono ?_
        rintro e w9 ⟨rfl, rfl⟩
        rw [d1]
        go_wp2_with fail
        refine (NB.out _).mono ?_
        rintro e w9 ⟨rfl, rfl⟩
        rw [d2]
        go_wp2_with fail
        refine (IA.out _).mono ?_
        rintro e w9 ⟨rfl, rfl⟩
        rw [d3]
        go_wp2_with fail
        refine (IB.out _).mono ?_
        rintro e w9 ⟨rfl, rfl⟩
        rw [d4]
        go_wp2
        go_ret2
        exact ⟨rfl, rfl⟩
set_option maxHeartbeats 4000000 in
set_option maxRecDepth 100000 in
theorem Mid_is (z T a b : Nat) (Z : Int) (V : Nat) (w : World) (hz : z = 1074) (hT : T = 2 ^ z) (ha : a < 18446744073709551616) (hb : b < 18446744073709551616) (fa : a % SB < FI) (fb : b % SB < FI) (hL : Low (fv a + fv b) (T : Int) Z V) :
    Calls Tryz.prog 5 #[.float .f64 a, .float .f64 b] w fun e w' => ∃ s X Y k, e = .returned (.tuple #[.float .f64 (nearB T s X Y k), .int .i64 0]) ∧ Cut T (rN X Y) (rd Y) k ∧ rn s X Y * (2 * V : Int) = Z * ((rd Y : Nat) : Int) ∧ Below w.heap.size w w' := by
  have NA := hide' (fun w' => nan_any a w')
  have NB := hide' (fun w' => nan_any b w')
  have IA := hide' (fun w' => isInf_is a w' ha)
  have IB := hide' (fun w' => isInf_is b w' hb)
  have d1 : decide (FI < a % SB) = false := decide_eq_false (by omega)
  have d2 : decide (FI < b % SB) = false := decide_eq_false (by omega)
  have d3 : decide (a % SB = FI) = false := decide_eq_false (by omega)
  have d4 : decide (b % SB = FI) = false := decide_eq_false (by omega)
  have hT0 : (T : Int) ≠ 0 := hL.ne
  obtain ⟨Z1, V1, g1⟩ := low_ex (fv a) (T : Int) hT0
  obtain ⟨Z2, V2, g2⟩ := low_ex (fv b) (T : Int) hT0
  obtain ⟨l1, m1⟩ := low_fl hz hT (by unfold fv; rw [am_sg]; exact amt_ln fa) g1
  obtain ⟨l2, m2⟩ := low_fl hz hT (by unfold fv; rw [am_sg]; exact amt_ln fb) g2
  have p1 := g1.pos
  have p2 := g2.pos
  have p3 := hL.pos
  have hl := hL.le
  rw [am_nat] at hl
  have ls : am (fv a + fv b) < BB ^ 3001 := by
    have q1 : am (fv a) < BB ^ 3000 := by unfold fv; rw [am_sg]; exact amt_ln fa
    have q2 : am (fv b) < BB ^ 3000 := by unfold fv; rw [am_sg]; exact amt_ln fb
    have q3 := am_add (fv a) (fv b)
    obtain ⟨c, hc⟩ : ∃ c : Nat, c = 3000 := ⟨_, rfl⟩
    rw [← hc] at q1 q2
    rw [show 3001 = c + 1 by omega, Nat.pow_succ, BB_eq]
    rw [BB_eq] at q1 q2
    omega
  have l3 : ln (am Z) ≤ 3001 := ln_le_of_lt (Nat.lt_of_le_of_lt hl.1 ls)
  have m3 : ln V ≤ 3000 := ln_le_of_lt (Nat.lt_of_le_of_lt hl.2 (T_ln hz hT))
  clear ls hl
  have hA : Low (rn (ng Z1) (am Z1) V1 * ((rd V2 : Nat) : Int) + rn (ng Z2) (am Z2) V2 * ((rd V1 : Nat) : Int)) (((rd V1 : Nat) : Int) * ((rd V2 : Nat) : Int)) Z V := by
    rw [rn_nf p1, rn_nf p2, rd_nf p1, rd_nf p2]
    refine hL.congr (Int.mul_ne_zero (by omega) (by omega)) ?_
    have a1 := g1.eq
    have a2 := g2.eq
    grind
  have H1 := hide' (fun w' => number_is z T a Z1 V1 w' hz hT ha fa g1)
  have H2 := hide' (fun w' => number_is z T b Z2 V2 w' hz hT hb fb g2)
  have H3 := hide' (fun w' p q p' q' a1 a2 a3 a4 => qAdd_is (ng Z1) p (ln (am Z1)) (ln (am Z1)) (am Z1) q (ln V1) (ln V1) V1 (ng Z2) p' (ln (am Z2)) (ln (am Z2)) (am Z2) q' (ln V2) (ln V2) V2 Z V w' (Nat.le_refl _) (by omega) a1 (Nat.le_refl _) (by omega) a2 (Nat.le_refl _) (by omega) a3 (Nat.le_refl _) (by omega) a4 hA)
  obtain ⟨W2, hW2⟩ : ∃ W2, V * 2 ^ (1 : Int).toNat = W2 := ⟨_, rfl⟩
  have hW3 : W2 = 2 * V := by rw [← hW2]; show V * 2 ^ 1 = _; omega
  have m4 : ln W2 ≤ 3001 := by rw [← hW2]; have := ln_shift (X := V) (n := ln V) (s := (1 : Int).toNat) (ln_lt V); have e1 : (1 : Int).toNat = 1 := rfl; omega
  have H4 := hide' (fun w' q a1 => higher_is q (ln V) (ln V) V 1 W2 w' (Nat.le_refl _) (by omega) (by omega) (by omega) a1 hW2)
  have H5 := hide' (fun w' p q a1 a2 => near_is (ng Z) p (ln (am Z)) (ln (am Z)) (am Z) q (ln W2) (ln W2) W2 z T w' (Nat.le_refl _) (by omega) a1 (Nat.le_refl _) (by omega) a2 hz hT)
  have hlast : rn (ng Z) (am Z) W2 * (2 * V : Int) = Z * ((rd W2 : Nat) : Int) := by
    have hp : 0 < W2 := by omega
    rw [rn_nf hp, rd_nf hp, hW3]; simp
  have HLAST := hide' hlast
  clear hlast hW3 hW2 hA g1 g2 hL hz hT fa fb hT0 p1 p2 p3
  have hB : Below w.heap.size w w := Below.refl _ _
  have hBW : Below w.heap.size w w := Below.refl _ _
  go_enter Tryz.func5, Tryz.ntmps5
  go_wp2_with fail
  refine (NA.out _).mono ?_
  rintro e w9 ⟨rfl, rfl⟩
  rw [d1]
  go_wp2_with fail
  refine (NB.out _).mono ?_
  rintro e w9 ⟨rfl, rfl⟩
  rw [d2]
  go_wp2_with fail
  refine (IA.out _).mono ?_
  rintro e w9 ⟨rfl, rfl⟩
  rw [d3]
  go_wp2_with fail
  refine (IB.out _).mono ?_
  rintro e w9 ⟨rfl, rfl⟩
  rw [d4]
  go_wp2_with fail
  refine (H1.out _).mono ?_
  rintro e w1 ⟨p1, q1, rfl, hp1, hq1⟩
  have b1 := hp1.below
  replace hp1 := hp1.back hBW
  replace hq1 := hq1.back hBW
  replace hBW := hBW.trans (b1.mono hBW.size)
  go_wp2_with fail
  refine (H2.out _).mono ?_
  rintro e w2 ⟨p2, q2, rfl, hp2, hq2⟩
  have b2 := hp2.below
  replace hp2 := hp2.back hBW
  replace hq2 := hq2.back hBW
  replace hBW := hBW.trans (b2.mono hBW.size)
  replace hp1 := hp1.later b2
  replace hq1 := hq1.later b2
  go_wp2_with fail
  refine (H3.out _ _ _ _ _ hp1.seg hq1.seg hp2.seg hq2.seg).mono ?_
  rintro e w3 ⟨p3, q3, rfl, hp3, hq3⟩
  have b3 := hp3.below
  replace hp3 := hp3.back hBW
  replace hq3 := hq3.back hBW
  replace hBW := hBW.trans (b3.mono hBW.size)
  replace hp1 := hp1.later b3
  replace hq1 := hq1.later b3
  replace hp2 := hp2.later b3
  replace hq2 := hq2.later b3
  clear hp1 hq1 hp2 hq2
  have hsz3 := hBW.size
  have l300 : ((w3.alloc (.cells #[.bool (ng Z), .slice p3 (ln (am Z)) (ln (am Z)), .slice q3 (ln V) (ln V)] 39))).cell? ⟨w3.heap.size, 0, none⟩ = some (.bool (ng Z)) := by go_simp
  have l301 : ((w3.alloc (.cells #[.bool (ng Z), .slice p3 (ln (am Z)) (ln (am Z)), .slice q3 (ln V) (ln V)] 39))).cell? ⟨w3.heap.size, 1, none⟩ = some (.slice p3 (ln (am Z)) (ln (am Z))) := by go_simp
  have l302 : ((w3.alloc (.cells #[.bool (ng Z), .slice p3 (ln (am Z)) (ln (am Z)), .slice q3 (ln V) (ln V)] 39))).cell? ⟨w3.heap.size, 2, none⟩ = some (.slice q3 (ln V) (ln V)) := by go_simp
  have cb3 : Below w3.heap.size w3 ((w3.alloc (.cells #[.bool (ng Z), .slice p3 (ln (am Z)) (ln (am Z)), .slice q3 (ln V) (ln V)] 39))) := ((Below.refl _ _).alloc (by (try simp only [World.size_alloc]); omega) _)
  replace hBW := hBW.trans (cb3.mono hBW.size)
  replace hp3 := hp3.later cb3
  replace hq3 := hq3.later cb3
  have hL30 : Row ((w3.alloc (.cells #[.bool (ng Z), .slice p3 (ln (am Z)) (ln (am Z)), .slice q3 (ln V) (ln V)] 39))) (w3.heap.size) := by
    have := row_new (w3) #[.bool (ng Z), .slice p3 (ln (am Z)) (ln (am Z)), .slice q3 (ln V) (ln V)] 39
    try simp only [World.size_alloc] at this
    exact this
  go_wp2_with fail
  generalize (w3.alloc (.cells #[.bool (ng Z), .slice p3 (ln (am Z)) (ln (am Z)), .slice q3 (ln V) (ln V)] 39)) = w3x at l300 l301 l302 hL30 hp3 hq3 hBW cb3 ⊢
  clear cb3
  refine (H4.out _ _ hq3.seg).mono ?_
  rintro e w4 ⟨a4, rfl, h4⟩
  have b4 := h4.below
  replace h4 := h4.back hBW
  replace hBW := hBW.trans (b4.mono hBW.size)
  replace l300 := below_cell b4 l300
  replace l301 := below_cell b4 l301
  replace l302 := below_cell b4 l302
  replace hL30 := below_row b4 hL30
  replace hp3 := hp3.later b4
  replace hq3 := hq3.later b4
  have fz := fun o => hL30.frozen o
  have c0 : (w4.setCell ⟨w3.heap.size, 2, none⟩ (.slice a4 (ln W2) (ln W2))).cell? ⟨w3.heap.size, 0, none⟩ = some (.bool (ng Z)) := by rw [World.cell?_setCell_other _ _ _ _ (fun e => by simp at e)]; exact l300
  have c1 : (w4.setCell ⟨w3.heap.size, 2, none⟩ (.slice a4 (ln W2) (ln W2))).cell? ⟨w3.heap.size, 1, none⟩ = some (.slice p3 (ln (am Z)) (ln (am Z))) := by rw [World.cell?_setCell_other _ _ _ _ (fun e => by simp at e)]; exact l301
  have c2 : (w4.setCell ⟨w3.heap.size, 2, none⟩ (.slice a4 (ln W2) (ln W2))).cell? ⟨w3.heap.size, 2, none⟩ = some (.slice a4 (ln W2) (ln W2)) := World.cell?_setCell_same (u := .slice q3 (ln V) (ln V)) _ _ _ l302
  have s3 := hp3.seg.setB (u := .slice a4 (ln W2) (ln W2)) l302 (by intro k i h; cases h)
  have s4 := h4.seg.setB (u := .slice a4 (ln W2) (ln W2)) l302 (by intro k i h; cases h)
  have hBn : Below w.heap.size w (w4.setCell ⟨w3.heap.size, 2, none⟩ (.slice a4 (ln W2) (ln W2))) := bset (hB.trans (hBW.mono hB.size)) (by have := hsz3; have := hB.size; omega)
  go_wp2_with fail
  refine (H5.out _ _ _ s3 s4).mono ?_
  rintro e w5 ⟨k, rfl, hC, b5⟩
  generalize hnn : nearB T (ng Z) (am Z) W2 k = nn
  go_wp2
  go_ret2
  exact ⟨ng Z, am Z, W2, k, by rw [hnn]; rfl, hC, HLAST.out, hBn.trans (b5.mono hBn.size)⟩
set_option maxHeartbeats 4000000 in
set_option maxRecDepth 100000 in
theorem vMid_no (a b : Nat) (w : World) (ha : a < 18446744073709551616) (hb : b < 18446744073709551616) (hf : ¬ (a % SB < FI ∧ b % SB < FI)) :
    Calls Tryz.prog 6 #[.float .f64 a, .float .f64 b] w fun e w' => e = .returned (.tuple #[.float .f64 0, .int .i64 (miE a b)]) ∧ w = w' := by
  have hbr := bits_run
  have NA := hide' (fun w' => vnan_any a w' ha)
  have NB := hide' (fun w' => vnan_any b w' hb)
  have IA := hide' (fun w' => vinf_any a w' ha)
  have IB := hide' (fun w' => vinf_any b w' hb)
  unfold miE
  by_cases n1 : FI < a % SB
  · rw [if_pos (Or.inl n1)]
    have d1 : decide (FI < a % SB) = true := decide_eq_true n1
    clear n1 hf
    go_enter Tryz.func6, Tryz.ntmps6
    go_wp2_with fail
    refine (NA.out _).mono ?_
    rintro e w9 ⟨rfl, rfl⟩
    rw [d1]
    go_wp2
    go_ret2
    exact ⟨rfl, rfl⟩
  · have d1 : decide (FI < a % SB) = false := decide_eq_false n1
    by_cases n2 : FI < b % SB
    · rw [if_pos (Or.inr n2)]
      have d2 : decide (FI < b % SB) = true := decide_eq_true n2
      clear n1 n2 hf
      go_enter Tryz.func6, Tryz.ntmps6
      go_wp2_with fail
      refine (NA.out _).mono ?_
      rintro e w9 ⟨rfl, rfl⟩
      rw [d1]
      go_wp2_with fail
      refine (NB.out _).mono ?_
      rintro e w9 ⟨rfl, rfl⟩
      rw [d2]
      go_wp2
      go_ret2
      exact ⟨rfl, rfl⟩
    · have d2 : decide (FI < b % SB) = false := decide_eq_false n2
      rw [if_neg (fun h => h.elim n1 n2)]
      by_cases i1 : a % SB = FI
      · rw [if_pos (Or.inl i1)]
        have d3 : decide (a % SB = FI) = true := decide_eq_true i1
        clear n1 n2 i1 hf
        go_enter Tryz.func6, Tryz.ntmps6
        go_wp2_with fail
        refine (NA.out _).mono ?_
        rintro e w9 ⟨rfl, rfl⟩
        rw [d1]
        go_wp2_with fail
        refine (NB.out _).mono ?_
        rintro e w9 ⟨rfl, rfl⟩
        rw [d2]
        go_wp2_with fail
        refine (IA.out _).mono ?_
        rintro e w9 ⟨rfl, rfl⟩
        rw [d3]
        go_wp2
        go_ret2
        exact ⟨rfl, rfl⟩
      · have d3 : decide (a % SB = FI) = false := decide_eq_false i1
        have i2 : b % SB = FI := by omega
        rw [if_pos (Or.inr i2)]
        have d4 : decide (b % SB = FI) = true := decide_eq_true i2
        clear n1 n2 i1 i2 hf
        go_enter Tryz.func6, Tryz.ntmps6
        go_wp2_with fail
        refine (NA.out _).mono ?_
        rintro e w9 ⟨rfl, rfl⟩
        rw [d1]
        go_wp2_with fail
        refine (NB.out _).mono ?_
        rintro e w9 ⟨rfl, rfl⟩
        rw [d2]
        go_wp2_with fail
        refine (IA.out _).mono ?_
        rintro e w9 ⟨rfl, rfl⟩
        rw [d3]
        go_wp2_with fail
        refine (IB.out _).mono ?_
        rintro e w9 ⟨rfl, rfl⟩
        rw [d4]
        go_wp2
        go_ret2
        exact ⟨rfl, rfl⟩
set_option maxHeartbeats 4000000 in
set_option maxRecDepth 100000 in
theorem vMid_is (z T a b : Nat) (Z : Int) (V : Nat) (w : World) (hz : z = 1074) (hT : T = 2 ^ z) (ha : a < 18446744073709551616) (hb : b < 18446744073709551616) (fa : a % SB < FI) (fb : b % SB < FI) (hL : Low (fv a + fv b) (T : Int) Z V) :
    Calls Tryz.prog 6 #[.float .f64 a, .float .f64 b] w fun e w' => ∃ s X Y k, e = .returned (.tuple #[.float .f64 (nearB T s X Y k), .int .i64 0]) ∧ Cut T (rN X Y) (rd Y) k ∧ rn s X Y * (2 * V : Int) = Z * ((rd Y : Nat) : Int) ∧ Below w.heap.size w w' := by
  have hbr := bits_run
  have NA := hide' (fun w' => vnan_any a w' ha)
  have NB := hide' (fun w' => vnan_any b w' hb)
  have IA := hide' (fun w' => vinf_any a w' ha)
  have IB := hide' (fun w' => vinf_any b w' hb)
  have d1 : decide (FI < a % SB) = false := decide_eq_false (by omega)
  have d2 : decide (FI < b % SB) = false := decide_eq_false (by omega)
  have d3 : decide (a % SB = FI) = false := decide_eq_false (by omega)
  have d4 : decide (b % SB = FI) = false := decide_eq_false (by omega)
  have hT0 : (T : Int) ≠ 0 := hL.ne
  obtain ⟨Z1, V1, g1⟩ := low_ex (fv a) (T : Int) hT0
  obtain ⟨Z2, V2, g2⟩ := low_ex (fv b) (T : Int) hT0
  obtain ⟨l1, m1⟩ := low_fl hz hT (by unfold fv; rw [am_sg]; exact amt_ln fa) g1
  obtain ⟨l2, m2⟩ := low_fl hz hT (by unfold fv; rw [am_sg]; exact amt_ln fb) g2
  have p1 := g1.pos
  have p2 := g2.pos
  have p3 := hL.pos
  have hl := hL.le
  rw [am_nat] at hl
  have ls : am (fv a + fv b) < BB ^ 3001 := by
    have q1 : am (fv a) < BB ^ 3000 := by unfold fv; rw [am_sg]; exact amt_ln fa
    have q2 : am (fv b) < BB ^ 3000 := by unfold fv; rw [am_sg]; exact amt_ln fb
    have q3 := am_add (fv a) (fv b)
    obtain ⟨c, hc⟩ : ∃ c : Nat, c = 3000 := ⟨_, rfl⟩
    rw [← hc] at q1 q2
    rw [show 3001 = c + 1 by omega, Nat.pow_succ, BB_eq]
    rw [BB_eq] at q1 q2
    omega
  have l3 : ln (am Z) ≤ 3001 := ln_le_of_lt (Nat.lt_of_le_of_lt hl.1 ls)
  have m3 : ln V ≤ 3000 := ln_le_of_lt (Nat.lt_of_le_of_lt hl.2 (T_ln hz hT))
  clear ls hl
  have hA : Low (rn (ng Z1) (am Z1) V1 * ((rd V2 : Nat) : Int) + rn (ng Z2) (am Z2) V2 * ((rd V1 : Nat) : Int)) (((rd V1 : Nat) : Int) * ((rd V2 : Nat) : Int)) Z V := by
    rw [rn_nf p1, rn_nf p2, rd_nf p1, rd_nf p2]
    refine hL.congr (Int.mul_ne_zero (by omega) (by omega)) ?_
    have a1 := g1.eq
    have a2 := g2.eq
    grind
  have H1 := hide' (fun w' => Number_is z T a Z1 V1 w' hz hT ha fa g1)
  have H2 := hide' (fun w' => Number_is z T b Z2 V2 w' hz hT hb fb g2)
  have H3 := hide' (fun w' p q p' q' a1 a2 a3 a4 => vqAdd_is (ng Z1) p (ln (am Z1)) (ln (am Z1)) (am Z1) q (ln V1) (ln V1) V1 (ng Z2) p' (ln (am Z2)) (ln (am Z2)) (am Z2) q' (ln V2) (ln V2) V2 Z V w' (Nat.le_refl _) (by omega) a1 (Nat.le_refl _) (by omega) a2 (Nat.le_refl _) (by omega) a3 (Nat.le_refl _) (by omega) a4 hA)
  obtain ⟨Z4, V4, g4⟩ := low_ex Z (2 * V : Int) (by omega)
  have p4 := g4.pos
  have HP' := fun w' => power_is z 1073 (-1) 1 2 w' hz (by omega) (by omega) (by rw [hz]) (by rw [hz])
  have HP := hide' HP'
  clear HP'
  have hM : Low (rn (ng Z) (am Z) V * rn false 1 2) (((rd V : Nat) : Int) * ((rd 2 : Nat) : Int)) Z4 V4 := by
    rw [rn_nf p3, rd_nf p3, show rn false 1 2 = 1 from rfl, show rd 2 = 2 from rfl]
    refine g4.congr (Int.mul_ne_zero (by omega) (by omega)) ?_
    grind
  have q4 := g4.le
  have e4 : am (2 * (V : Int)) = 2 * V := by unfold am; omega
  rw [e4] at q4
  have l4 : ln (am Z4) ≤ 3001 := Nat.le_trans (ln_mono q4.1) l3
  have m4 : ln V4 ≤ 3002 := by
    have a1 := ln_shift (X := V) (n := ln V) (s := 1) (ln_lt V)
    have a2 := ln_mono q4.2
    rw [show V * 2 ^ 1 = 2 * V by omega] at a1
    omega
  have H4 := hide' (fun w' p q r s n m a1 a2 a3 a4 h1 h2 => vqMul_is (ng Z) p (ln (am Z)) (ln (am Z)) (am Z) q (ln V) (ln V) V false r n n 1 s m m 2 Z4 V4 w' (Nat.le_refl _) (by omega) a1 (Nat.le_refl _) (by omega) a2 (Nat.le_refl _) h1 a3 (Nat.le_refl _) h2 a4 hM)
  have H5 := hide' (fun w' p q a1 a2 => vnear_is (ng Z4) p (ln (am Z4)) (ln (am Z4)) (am Z4) q (ln V4) (ln V4) V4 z T w' (Nat.le_refl _) (by omega) a1 (Nat.le_refl _) (by omega) a2 hz hT)
  have hlast : rn (ng Z4) (am Z4) V4 * (2 * V : Int) = Z * ((rd V4 : Nat) : Int) := by rw [rn_nf p4, rd_nf p4]; exact g4.eq
  have HLAST := hide' hlast
  clear hlast hM q4 e4 g4 hA g1 g2 hL hz hT fa fb hT0 p1 p2 p3 p4
  have hB : Below w.heap.size w w := Below.refl _ _
  have hBW : Below w.heap.size w w := Below.refl _ _
  go_enter Tryz.func6, Tryz.ntmps6
  go_wp2_with fail
  refine (NA.out _).mono ?_
  rintro e w9 ⟨rfl, rfl⟩
  rw [d1]
  go_wp2_with fail
  refine (NB.out _).mono ?_
  rintro e w9 ⟨rfl, rfl⟩
  rw [d2]
  go_wp2_with fail
  refine (IA.out _).mono ?_
  rintro e w9 ⟨rfl, rfl⟩
  rw [d3]
  go_wp2_with fail
  refine (IB.out _).mono ?_
  rintro e w9 ⟨rfl, rfl⟩
  rw [d4]
  go_wp2_with fail
  refine (H1.out _).mono ?_
  rintro e w1 ⟨p1, q1, rfl, hp1, hq1⟩
  have b1 := hp1.below
  replace hp1 := hp1.back hBW
  replace hq1 := hq1.back hBW
  replace hBW := hBW.trans (b1.mono hBW.size)
  go_wp2_with fail
  refine (H2.out _).mono ?_
  rintro e w2 ⟨p2, q2, rfl, hp2, hq2⟩
  have b2 := hp2.below
  replace hp2 := hp2.back hBW
  replace hq2 := hq2.back hBW
  replace hBW := hBW.trans (b2.mono hBW.size)
  replace hp1 := hp1.later b2
  replace hq1 := hq1.later b2
  go_wp2_with fail
  refine (H3.out _ _ _ _ _ hp1.seg hq1.seg hp2.seg hq2.seg).mono ?_
  rintro e w3 ⟨p3, q3, rfl, hp3, hq3⟩
  have b3 := hp3.below
  replace hp3 := hp3.back hBW
  replace hq3 := hq3.back hBW
  replace hBW := hBW.trans (b3.mono hBW.size)
  replace hp1 := hp1.later b3
  replace hq1 := hq1.later b3
  replace hp2 := hp2.later b3
  replace hq2 := hq2.later b3
  clear hp1 hq1 hp2 hq2
  have hsz3 := hBW.size
  have l300 : ((w3.alloc (.cells #[.bool (ng Z), .slice p3 (ln (am Z)) (ln (am Z)), .slice q3 (ln V) (ln V)] 39))).cell? ⟨w3.heap.size, 0, none⟩ = some (.bool (ng Z)) := by go_simp
  have l301 : ((w3.alloc (.cells #[.bool (ng Z), .slice p3 (ln (am Z)) (ln (am Z)), .slice q3 (ln V) (ln V)] 39))).cell? ⟨w3.heap.size, 1, none⟩ = some (.slice p3 (ln (am Z)) (ln (am Z))) := by go_simp
  have l302 : ((w3.alloc (.cells #[.bool (ng Z), .slice p3 (ln (am Z)) (ln (am Z)), .slice q3 (ln V) (ln V)] 39))).cell? ⟨w3.heap.size, 2, none⟩ = some (.slice q3 (ln V) (ln V)) := by go_simp
  have cb3 : Below w3.heap.size w3 ((w3.alloc (.cells #[.bool (ng Z), .slice p3 (ln (am Z)) (ln (am Z)), .slice q3 (ln V) (ln V)] 39))) := ((Below.refl _ _).alloc (by (try simp only [World.size_alloc]); omega) _)
  replace hBW := hBW.trans (cb3.mono hBW.size)
  replace hp3 := hp3.later cb3
  replace hq3 := hq3.later cb3
  have hL30 : Row ((w3.alloc (.cells #[.bool (ng Z), .slice p3 (ln (am Z)) (ln (am Z)), .slice q3 (ln V) (ln V)] 39))) (w3.heap.size) := by
    have := row_new (w3) #[.bool (ng Z), .slice p3 (ln (am Z)) (ln (am Z)), .slice q3 (ln V) (ln V)] 39
    try simp only [World.size_alloc] at this
    exact this
  go_wp2_with fail
  generalize (w3.alloc (.cells #[.bool (ng Z), .slice p3 (ln (am Z)) (ln (am Z)), .slice q3 (ln V) (ln V)] 39)) = w3x at l300 l301 l302 hL30 hp3 hq3 hBW cb3 ⊢
  clear cb3
  replace hBW := hBW.drew
  replace hp3 := hp3.drew
  replace hq3 := hq3.drew
  first
    | go_region_held3 (fun w' => w'.cell? ⟨w3.heap.size, 0, none⟩ = some (.bool (ng Z)) ∧ w'.cell? ⟨w3.heap.size, 1, none⟩ = some (.slice p3 (ln (am Z)) (ln (am Z))) ∧ w'.cell? ⟨w3.heap.size, 2, none⟩ = some (.slice q3 (ln V) (ln V)) ∧ Below w.heap.size w w')
        (first | exact ⟨l300, l301, l302, hB.trans (hBW.mono hB.size)⟩ | exact kp3 b7 (by assumption) | exact kp3 b8 (by assumption) | exact kp3 b9 (by assumption) | exact kp3 (below_alloc _) (by assumption))
        (first
          | (go_at_call 32; (fail_if_success clear b7); refine (HP.out _).mono ?_; rintro e w7 ⟨r7, s7, n7, m7, rfl, g7, j7, hr7, hs7⟩; have b7 := hr7.below; replace hr7 := hr7.back hBW; replace hs7 := hs7.back hBW; replace hBW := hBW.trans (b7.mono hBW.size); replace l300 := below_cell b7 l300; replace l301 := below_cell b7 l301; replace l302 := below_cell b7 l302; replace hL30 := below_row b7 hL30; replace hp3 := hp3.later b7; replace hq3 := hq3.later b7)
          | (go_at_call 31; (fail_if_success clear b8); refine (H4.out _ _ _ _ _ _ _ hp3.seg hq3.seg hr7.seg hs7.seg (by omega) (by omega)).mono ?_; rintro e w8 ⟨p8, q8, rfl, hp8, hq8⟩; have b8 := hp8.below; replace hp8 := hp8.back hBW; replace hq8 := hq8.back hBW; replace hBW := hBW.trans (b8.mono hBW.size); replace l300 := below_cell b8 l300; replace l301 := below_cell b8 l301; replace l302 := below_cell b8 l302; replace hL30 := below_row b8 hL30; replace hp3 := hp3.later b8; replace hq3 := hq3.later b8; replace hr7 := hr7.later b8; replace hs7 := hs7.later b8)
          | (go_at_call 30; (fail_if_success clear b9); refine (H5.out _ _ _ hp8.seg hq8.seg).mono ?_; rintro e w9 ⟨k, rfl, hC, bb9⟩; have b9 := bb9; replace hBW := hBW.trans (b9.mono hBW.size); replace l300 := below_cell b9 l300; replace l301 := below_cell b9 l301; replace l302 := below_cell b9 l302; replace hL30 := below_row b9 hL30; replace hp3 := hp3.later b9; replace hq3 := hq3.later b9; replace hr7 := hr7.later b9; replace hs7 := hs7.later b9; replace hp8 := hp8.later b9; replace hq8 := hq8.later b9))
    | fail
  generalize hnn : nearB T (ng Z4) (am Z4) V4 k = nn
  go_wp2
  go_ret2
  exact ⟨ng Z4, am Z4, V4, k, by rw [hnn]; rfl, hC, HLAST.out, hB.trans (hBW.mono hB.size)⟩
end Go.Proofs.YtjofldgaefjapaaGreat

namespace Go.Proofs.YtjofldgaefjapaaGreat
open Go.RowKit
set_option linter.unusedVariables false
theorem fsame_is (b c : Nat) (w : World) :
    Calls Tryz.prog 7 #[.float .f64 b, .float .f64 c] w fun e w' => e = .returned (.bool (decide (b = c))) ∧ Below w.heap.size w w' := by
  have h1 := bits_run
  have h2 : ((b : Int) == (c : Int)) = decide (b = c) := by
    by_cases h : b = c
    · rw [decide_eq_true h, h, beq_iff_eq]
    · rw [decide_eq_false h, beq_eq_false_iff_ne]; omega
  go_enter Tryz.func7, Tryz.ntmps7
  go_wp2
  go_ret
  exact ⟨rfl, Below.refl _ _⟩
theorem fsame_self (b : Nat) (w : World) :
    Calls Tryz.prog 7 #[.float .f64 b, .float .f64 b] w fun e w' => e = .returned (.bool true) ∧ Below w.heap.size w w' := by
  have := fsame_is b b w
  rwa [decide_eq_true rfl] at this
end Go.Proofs.YtjofldgaefjapaaGreat

namespace Go.Proofs.YtjofldgaefjapaaGreat.approxMiddles
open Go.ChangeShapes Go.WideShapes Go.ChangeAt Go.RowKit Go.Proofs.YtjofldgaefjapaaGreat
set_option linter.unusedVariables false

theorem mid_same {T : Nat} {Z : Int} {V : Nat} (hV : 0 < V) {s1 s2 : Bool} {X1 Y1 X2 Y2 k1 k2 : Nat} (e1 : rn s1 X1 Y1 * (2 * V : Int) = Z * ((rd Y1 : Nat) : Int)) (e2 : rn s2 X2 Y2 * (2 * V : Int) = Z * ((rd Y2 : Nat) : Int)) (C1 : Cut T (rN X1 Y1) (rd Y1) k1) (C2 : Cut T (rN X2 Y2) (rd Y2) k2) : nearB T s1 X1 Y1 k1 = nearB T s2 X2 Y2 k2 := by
  refine near_same (mul_cancel (c := (2 * V : Int)) (by omega) ?_) C1 C2
  grind

set_option maxHeartbeats 8000000 in
set_option maxRecDepth 100000 in
theorem walk_no (a b : Nat) (w : World) (ha : a < 18446744073709551616) (hb : b < 18446744073709551616) (hf : ¬ (a % SB < FI ∧ b % SB < FI)) :
    Calls Tryz.prog 3 #[.float .f64 a, .float .f64 b] w fun e w' => e = .returned (.bool true) ∧ Below w.heap.size w w' := by
  have H1 := hide' (fun w' => Mid_no a b w' ha hb hf)
  have H2 := hide' (fun w' => vMid_no a b w' ha hb hf)
  generalize miE a b = c at H1 H2
  clear hf
  go_enter Tryz.func3, Tryz.ntmps3
  go_wp2_with fail
  refine (H1.out _).mono ?_
  rintro e w1 ⟨rfl, rfl⟩
  go_wp2_with fail
  refine (H2.out _).mono ?_
  rintro e w1 ⟨rfl, rfl⟩
  go_wp2_with fail
  refine (fsame_self _ _).mono ?_
  rintro e w1 ⟨rfl, b1⟩
  go_wp2
  go_ret
  exact ⟨rfl, b1⟩
set_option maxHeartbeats 8000000 in
set_option maxRecDepth 100000 in
theorem walk_is (z T a b : Nat) (Z : Int) (V : Nat) (w : World) (hz : z = 1074) (hT : T = 2 ^ z) (ha : a < 18446744073709551616) (hb : b < 18446744073709551616) (fa : a % SB < FI) (fb : b % SB < FI) (hL : Low (fv a + fv b) (T : Int) Z V) :
    Calls Tryz.prog 3 #[.float .f64 a, .float .f64 b] w fun e w' => e = .returned (.bool true) ∧ Below w.heap.size w w' := by
  have H1 := hide' (fun w' => Mid_is z T a b Z V w' hz hT ha hb fa fb hL)
  have H2 := hide' (fun w' => vMid_is z T a b Z V w' hz hT ha hb fa fb hL)
  have HV := hide' hL.pos
  clear hz hT fa fb hL
  go_enter Tryz.func3, Tryz.ntmps3
  go_wp2_with fail
  refine (H1.out _).mono ?_
  rintro e w1 ⟨s1, X1, Y1, k1, rfl, c1, e1, b1⟩
  go_wp2_with fail
  refine (H2.out _).mono ?_
  rintro e w2 ⟨s2, X2, Y2, k2, rfl, c2, e2, b2⟩
  rw [mid_same HV.out e1 e2 c1 c2]
  go_wp2_with fail
  refine (fsame_self _ _).mono ?_
  rintro e w3 ⟨rfl, b3⟩
  go_wp2
  go_ret
  exact ⟨rfl, (b1.trans (b2.mono b1.size)).trans (b3.mono (Nat.le_trans b1.size b2.size))⟩
theorem walk (a b : Nat) (w : World) (ha : a < 18446744073709551616) (hb : b < 18446744073709551616) :
    Calls Tryz.prog 3 #[.float .f64 a, .float .f64 b] w fun e w' => e = .returned (.bool true) ∧ Below w.heap.size w w' := by
  by_cases hf : a % SB < FI ∧ b % SB < FI
  · obtain ⟨z, hz⟩ : ∃ z : Nat, z = 1074 := ⟨_, rfl⟩
    obtain ⟨T, hT⟩ : ∃ T : Nat, T = 2 ^ z := ⟨_, rfl⟩
    obtain ⟨Z, V, hL⟩ := low_ex (fv a + fv b) (T : Int) (by rw [hT]; have := Nat.two_pow_pos z; omega)
    exact walk_is z T a b Z V w hz hT ha hb hf.1 hf.2 hL
  · exact walk_no a b w ha hb hf

set_option maxRecDepth 100000 in
theorem contract (H : Type) (enc : TypeId × Value → H) (W : World) (base : Nat) (args : Array Value) (ds gs : List (DataW H)) (before : List MemPlace)
    (hval : ∀ (j : Nat) t v, Tryz.f3.params[j]? = some t → args[j]? = some v → Value.okWide Tryz.prog W .any base t v)
    (hW : DataW.Whole enc Tryz.prog Tryz.f3.params.toList Rows.approxMiddlesSpec.vars false W args.toList ds gs before)
    (hsz : (DataW.weightsEach Tryz.prog (Tryz.f3.params.toList ++ Rows.approxMiddlesSpec.plain.varTypes Tryz.prog) (ds ++ gs)).all (· ≤ reachBytes) = true) :
    Calls Tryz.prog 3 args W fun e W' => ∃ v, e = .returned v ∧ Rows.approxMiddlesSpec.post enc Tryz.prog Tryz.f3 false true false false W args v W' := by
  have hW' := hW
  obtain ⟨p, q, hA0, hV, rfl, hfz, hnd⟩ := hW
  have hA : DataW.TrodAll enc Tryz.prog W 0 (fun _ => true) true Tryz.f3.params.toList args.toList ds p := hA0
  rw [Tryz.params3] at hA hval hsz
  obtain ⟨v0, vs0, d0, ds0, p0, q0, hargs, rfl, rfl, h0, r0⟩ := trodAll_cons hA
  obtain ⟨v1, vs1, d1, ds1, p1, q1, rfl, rfl, rfl, h1, r1⟩ := trodAll_cons r0
  obtain ⟨rfl, rfl, rfl⟩ := trodAll_nil r1
  obtain rfl : args = #[v0, v1] := by cases args; simp_all
  obtain ⟨rfl, rfl⟩ := trodVars_none hV
  obtain ⟨n0, rfl, rfl, rfl, w0⟩ := open_float Tryz.underlying22 (hval 0 22 v0 rfl rfl) h0
  have hn0 : n0 < 18446744073709551616 := by simpa [Lit.wf] using w0
  obtain ⟨n1, rfl, rfl, rfl, w1⟩ := open_float Tryz.underlying22 (hval 1 22 v1 rfl rfl) h1
  have hn1 : n1 < 18446744073709551616 := by simpa [Lit.wf] using w1
  clear hA0
  simp only [List.append_nil] at hW'
  refine (walk n0 n1 W hn0 hn1).mono fun e W' ⟨he, bel⟩ => ?_
  subst he
  exact ⟨_, rfl, _, _, _, [], _, [], hW', trodAll_mk1 (shut_bool Tryz.underlying4 _), (trodAll_cons_mk (shut_float Tryz.underlying22 w0) (trodAll_cons_mk (shut_float Tryz.underlying22 w1) trodAll_mk0)), rfl, bel.frame _, fun h => by cases h⟩

set_option maxRecDepth 100000 in
theorem lifted (os : Os) (started : os.Started) (H : Type) (enc : TypeId × Value → H) :
    ReturnsInHanded {} Tryz.checked os 3 .any (Rows.approxMiddlesSpec.pre6 enc Tryz.prog Tryz.f3 Rows.approxMiddlesRow.domain false) (Rows.approxMiddlesSpec.post enc Tryz.prog Tryz.f3 false true false false) := by
  refine returnsInHanded_of_change_sized (C := Tryz.checked) own started (by kernel_rfl) Tryz.func3
    (ChangeSpec.witness6 (enc := enc) (C := Tryz.checked) false ⟨#[], #[.float .f64 0, .float .f64 0], []⟩ 8 (by kernel_rfl) (by kernel_rfl) (by kernel_rfl) (by kernel_rfl)) ?_
  intro W base args ds gs before hval hW _ hsz _
  exact contract H enc W base args ds gs before hval hW hsz

theorem over : Rows.approxMiddlesRow.holds Tryz.pinned (OpenSpec.ofChange Rows.approxMiddlesSpec) :=
  OpenClaim.holds_of_wide 3 Tryz.f3 rfl rfl rfl rfl rfl rfl rfl ⟨rfl, rfl, rfl, rfl, rfl⟩ rfl rfl rfl rfl rfl (by kernel_rfl) Tryz.func3 (by kernel_rfl)
    (of_decide_eq_true (by kernel_rfl)) (by unfold Func.isWrapper; first | (rw [if_pos (by decide +kernel)]; kernel_rfl) | (rw [if_neg (by decide +kernel)]; exact ⟨rfl, rfl⟩))
    (fun os started H enc _ => lifted os started H enc)

end Go.Proofs.YtjofldgaefjapaaGreat.approxMiddles
namespace Go.Proofs.YtjofldgaefjapaaGreat
theorem approxMiddles_holds : Rows.ApproxMiddlesSaid := approxMiddles.over
#print axioms approxMiddles_holds
end Go.Proofs.YtjofldgaefjapaaGreat
