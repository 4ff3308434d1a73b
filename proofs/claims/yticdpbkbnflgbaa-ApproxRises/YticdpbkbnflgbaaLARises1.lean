/-
  ApproxRises.
-/
import Derived.Test.YticdpbkbnflgbaaWFO
import Derived.Test.YticdpbkbnflgbaaWFD
import Derived.Test.YticdpbkbnflgbaaOpenQ
namespace Go.Proofs.Yticdpbkbnflgbaa.approxRises
open Go.ChangeShapes Go.WideShapes Go.ChangeAt Go.RowKit Go.Proofs.Yticdpbkbnflgbaa
set_option linter.unusedVariables false

theorem sgn_pos_of {a : Int} (h : 0 < sgn a) : 0 < a := by
  rcases Int.lt_trichotomy a 0 with g | g | g
  · rw [sgn_neg g] at h; omega
  · subst g; exact absurd h (by decide)
  · exact g
theorem sgn_not_pos {a : Int} (h : ¬ 0 < sgn a) : a ≤ 0 := by
  refine Int.le_of_not_gt fun g => h ?_
  rw [sgn_pos g]; omega
theorem sgn_rng (a : Int) : -1 ≤ sgn a ∧ sgn a ≤ 1 := by
  rcases Int.lt_trichotomy a 0 with g | g | g
  · rw [sgn_neg g]; omega
  · subst g; decide
  · rw [sgn_pos g]; omega
theorem fv_one {z T : Nat} (hz : z = 1074) (hT : T = 2 ^ z) : Low (fv ONE) (T : Int) 1 1 := by
  rw [fv_pos (by decide), amt_one hz hT]
  have : 0 < T := by rw [hT]; exact Nat.two_pow_pos z
  exact ⟨by omega, by omega, by simp, rfl⟩

set_option maxHeartbeats 8000000 in
set_option maxRecDepth 100000 in
theorem walk (s0 : Bool) (a0 : Option Addr) (n0 c0 X0 : Nat) (b0 : Option Addr) (m0 d0 Y0 : Nat) (s1 : Bool) (a1 : Option Addr) (n1 c1 X1 : Nat) (b1 : Option Addr) (m1 d1 Y1 : Nat) (w : World) (hc0 : n0 ≤ c0) (hm0 : n0 ≤ 35184372087808) (hS0 : Seg w a0 X0 n0) (hd0 : m0 ≤ d0) (hk0 : m0 ≤ 35184372087808) (hT0 : Seg w b0 Y0 m0) (hc1 : n1 ≤ c1) (hm1 : n1 ≤ 35184372087808) (hS1 : Seg w a1 X1 n1) (hd1 : m1 ≤ d1) (hk1 : m1 ≤ 35184372087808) (hT1 : Seg w b1 Y1 m1) :
    Calls Try.prog 6 #[Value.agg #[Value.bool s0, Value.slice a0 n0 c0, Value.slice b0 m0 d0], Value.agg #[Value.bool s1, Value.slice a1 n1 c1, Value.slice b1 m1 d1]] w fun e w' => e = .returned (.bool true) ∧ Below w.heap.size w w' := by
  obtain ⟨z, hz⟩ : ∃ z : Nat, z = 1074 := ⟨_, rfl⟩
  obtain ⟨T, hT⟩ : ∃ T : Nat, T = 2 ^ z := ⟨_, rfl⟩
  obtain ⟨C, hC⟩ : ∃ C, sgn (rn s0 X0 Y0 * ((rd Y1 : Nat) : Int) - rn s1 X1 Y1 * ((rd Y0 : Nat) : Int)) = C := ⟨_, rfl⟩
  have hCr := sgn_rng (rn s0 X0 Y0 * ((rd Y1 : Nat) : Int) - rn s1 X1 Y1 * ((rd Y0 : Nat) : Int))
  rw [hC] at hCr
  have HC := hide' (fun w' k1 k2 k3 k4 => vqCmp_is s0 a0 n0 c0 X0 b0 m0 d0 Y0 s1 a1 n1 c1 X1 b1 m1 d1 Y1 C w' hc0 (by omega) k1 hd0 (by omega) k2 hc1 (by omega) k3 hd1 (by omega) k4 hC)
  have hsw : 0 < C → rn s1 X1 Y1 * ((rd Y0 : Nat) : Int) ≤ rn s0 X0 Y0 * ((rd Y1 : Nat) : Int) := fun h => by rw [← hC] at h; have := sgn_pos_of h; omega
  have hns : C ≤ 0 → rn s0 X0 Y0 * ((rd Y1 : Nat) : Int) ≤ rn s1 X1 Y1 * ((rd Y0 : Nat) : Int) := fun h => by rw [← hC] at h; have := sgn_not_pos (Int.not_lt.2 h); omega
  have HSW := hide' hsw
  have HNS := hide' hns
  clear hsw hns hC
  obtain ⟨c1, c2⟩ := one_cut hz hT
  have h1c := hide' c1
  have h1n := hide' c2
  clear c1 c2
  have HE := hide' (fun w' => Exact_is z T ONE 1 1 w' hz hT (by decide) (by decide) (fv_one hz hT))
  have HO := hide' (fun w' p q k1 k2 => near_is false p 1 1 1 q 1 1 1 z T w' (by omega) (by omega) k1 (by omega) (by omega) k2 hz hT)
  have Hnear0 := hide' (fun w' k1 k2 => near_is s0 a0 n0 c0 X0 b0 m0 d0 Y0 z T w' hc0 (by omega) k1 hd0 (by omega) k2 hz hT)
  have Hdown0 := hide' (fun w' k1 k2 => down_is s0 a0 n0 c0 X0 b0 m0 d0 Y0 z T w' hc0 (by omega) k1 hd0 (by omega) k2 hz hT)
  have Hup0 := hide' (fun w' k1 k2 => up_is s0 a0 n0 c0 X0 b0 m0 d0 Y0 z T w' hc0 (by omega) k1 hd0 (by omega) k2 hz hT)
  have Hnear1 := hide' (fun w' k1 k2 => near_is s1 a1 n1 c1 X1 b1 m1 d1 Y1 z T w' hc1 (by omega) k1 hd1 (by omega) k2 hz hT)
  have Hdown1 := hide' (fun w' k1 k2 => down_is s1 a1 n1 c1 X1 b1 m1 d1 Y1 z T w' hc1 (by omega) k1 hd1 (by omega) k2 hz hT)
  have Hup1 := hide' (fun w' k1 k2 => up_is s1 a1 n1 c1 X1 b1 m1 d1 Y1 z T w' hc1 (by omega) k1 hd1 (by omega) k2 hz hT)
  obtain ⟨o, ho⟩ : ∃ o : Int, o = 1 := ⟨_, rfl⟩
  obtain ⟨V, hV⟩ : ∃ V : Nat, V = 1 := ⟨_, rfl⟩
  have lo : ln (am o) ≤ 2 := by rw [ho]; exact ln_le_of_lt (by rw [BB2]; decide)
  have lv : ln V ≤ 2 := by rw [hV]; exact ln_le_of_lt (by rw [BB2]; decide)
  have HE2 : ∀ w', Calls Try.prog 26 #[.float .f64 ONE] w' fun e w'' => ∃ p q, e = .returned (.tuple #[.agg #[.bool (ng o), .slice p (ln (am o)) (ln (am o)), .slice q (ln V) (ln V)], .int .i64 0]) ∧ New w' w'' p (am o) (ln (am o)) ∧ New w' w'' q V (ln V) := by rw [ho, hV]; exact HE.out
  clear HE
  have HE := hide' HE2
  clear HE2
  have hsg : sgn (rn (ng o) (am o) V) = 1 := by rw [ho, hV]; rfl
  have HS := hide' (fun w' p q k1 k2 => vqSign_is (ng o) p (ln (am o)) (ln (am o)) (am o) q (ln V) (ln V) V 1 w' (Nat.le_refl _) (by omega) k1 (Nat.le_refl _) (by omega) k2 hsg)
  clear hsg ho hV hz hT
  go_enter Try.func6, Try.ntmps6
  go_wp2_with fail
  obtain ⟨W, hW⟩ : ∃ W, ((w.alloc (.cells #[.bool s0, .slice a0 n0 c0, .slice b0 m0 d0] 27)).alloc (.cells #[.bool s1, .slice a1 n1 c1, .slice b1 m1 d1] 27)) = W := ⟨_, rfl⟩
  have q00 : W.cell? ⟨w.heap.size, 0, none⟩ = some (.bool s0) := by subst hW; go_simp
  have q01 : W.cell? ⟨w.heap.size, 1, none⟩ = some (.slice a0 n0 c0) := by subst hW; go_simp
  have q02 : W.cell? ⟨w.heap.size, 2, none⟩ = some (.slice b0 m0 d0) := by subst hW; go_simp
  have q10 : W.cell? ⟨w.heap.size + 1, 0, none⟩ = some (.bool s1) := by subst hW; go_simp
  have q11 : W.cell? ⟨w.heap.size + 1, 1, none⟩ = some (.slice a1 n1 c1) := by subst hW; go_simp
  have q12 : W.cell? ⟨w.heap.size + 1, 2, none⟩ = some (.slice b1 m1 d1) := by subst hW; go_simp
  have hB : Below w.heap.size w W := by subst hW; exact (((Below.refl _ _).alloc (by (try simp only [World.size_alloc]); omega) _).alloc (by (try simp only [World.size_alloc]); omega) _)
  have hP0 : Row W (w.heap.size) := by
    have := row_new (w) #[.bool s0, .slice a0 n0 c0, .slice b0 m0 d0] 27
    try simp only [World.size_alloc] at this
    subst hW; exact (this.alloc _)
  have hP1 : Row W (w.heap.size + 1) := by
    have := row_new ((w.alloc (.cells #[.bool s0, .slice a0 n0 c0, .slice b0 m0 d0] 27))) #[.bool s1, .slice a1 n1 c1, .slice b1 m1 d1] 27
    try simp only [World.size_alloc] at this
    subst hW; exact this
  have hz : W.heap.size = w.heap.size + 1 + 1 := by subst hW; simp only [World.size_alloc]
  rw [hW]
  clear hW
  have hBW : Below W.heap.size W W := Below.refl _ _
  refine (HC.out _ (sb hS0 hB hBW) (sb hT0 hB hBW) (sb hS1 hB hBW) (sb hT1 hB hBW)).mono ?_
  rintro e w5 ⟨rfl, b5⟩
  replace hBW := hBW.trans (b5.mono hBW.size)
  replace q00 := below_cell b5 q00
  replace q01 := below_cell b5 q01
  replace q02 := below_cell b5 q02
  replace q10 := below_cell b5 q10
  replace q11 := below_cell b5 q11
  replace q12 := below_cell b5 q12
  replace hP0 := below_row b5 hP0
  replace hP1 := below_row b5 hP1
  by_cases hc : 0 < C
  · have hord := HSW.out hc
    clear HSW HNS
    have eA := set3_same (w := w5) (c := w.heap.size) (u0 := .bool s1) (u1 := .slice a1 n1 c1) (u2 := .slice b1 m1 d1) q00 q01 q02
    have eC0 := (set3_far (w := w5) (b := w.heap.size + 1) (c := w.heap.size) (o := 0) (u0 := .bool s1) (u1 := .slice a1 n1 c1) (u2 := .slice b1 m1 d1) (by omega)).trans q10
    have eC1 := (set3_far (w := w5) (b := w.heap.size + 1) (c := w.heap.size) (o := 1) (u0 := .bool s1) (u1 := .slice a1 n1 c1) (u2 := .slice b1 m1 d1) (by omega)).trans q11
    have eC2 := (set3_far (w := w5) (b := w.heap.size + 1) (c := w.heap.size) (o := 2) (u0 := .bool s1) (u1 := .slice a1 n1 c1) (u2 := .slice b1 m1 d1) (by omega)).trans q12
    have eB := set3_same (w := (((w5.setCell ⟨w.heap.size, 0, none⟩ (.bool s1)).setCell ⟨w.heap.size, 1, none⟩ (.slice a1 n1 c1)).setCell ⟨w.heap.size, 2, none⟩ (.slice b1 m1 d1))) (c := w.heap.size + 1) (u0 := .bool s0) (u1 := .slice a0 n0 c0) (u2 := .slice b0 m0 d0) eC0 eC1 eC2
    have eD0 := (set3_far (w := (((w5.setCell ⟨w.heap.size, 0, none⟩ (.bool s1)).setCell ⟨w.heap.size, 1, none⟩ (.slice a1 n1 c1)).setCell ⟨w.heap.size, 2, none⟩ (.slice b1 m1 d1))) (b := w.heap.size) (c := w.heap.size + 1) (o := 0) (u0 := .bool s0) (u1 := .slice a0 n0 c0) (u2 := .slice b0 m0 d0) (by omega)).trans eA.1
    have eD1 := (set3_far (w := (((w5.setCell ⟨w.heap.size, 0, none⟩ (.bool s1)).setCell ⟨w.heap.size, 1, none⟩ (.slice a1 n1 c1)).setCell ⟨w.heap.size, 2, none⟩ (.slice b1 m1 d1))) (b := w.heap.size) (c := w.heap.size + 1) (o := 1) (u0 := .bool s0) (u1 := .slice a0 n0 c0) (u2 := .slice b0 m0 d0) (by omega)).trans eA.2.1
    have eD2 := (set3_far (w := (((w5.setCell ⟨w.heap.size, 0, none⟩ (.bool s1)).setCell ⟨w.heap.size, 1, none⟩ (.slice a1 n1 c1)).setCell ⟨w.heap.size, 2, none⟩ (.slice b1 m1 d1))) (b := w.heap.size) (c := w.heap.size + 1) (o := 2) (u0 := .bool s0) (u1 := .slice a0 n0 c0) (u2 := .slice b0 m0 d0) (by omega)).trans eA.2.2
    have fz0 := fun o => hP0.frozen o
    have fz1 := fun o => hP1.frozen o
    have hP1b := (((hP1.setCell ⟨w.heap.size, 0, none⟩ (.bool s1)).setCell ⟨w.heap.size, 1, none⟩ (.slice a1 n1 c1)).setCell ⟨w.heap.size, 2, none⟩ (.slice b1 m1 d1))
    have fz2 := fun o => hP1b.frozen o
    have hBn : Below w.heap.size w ((((((w5.setCell ⟨w.heap.size, 0, none⟩ (.bool s1)).setCell ⟨w.heap.size, 1, none⟩ (.slice a1 n1 c1)).setCell ⟨w.heap.size, 2, none⟩ (.slice b1 m1 d1)).setCell ⟨w.heap.size + 1, 0, none⟩ (.bool s0)).setCell ⟨w.heap.size + 1, 1, none⟩ (.slice a0 n0 c0)).setCell ⟨w.heap.size + 1, 2, none⟩ (.slice b0 m0 d0)) := (bset (bset (bset (bset (bset (bset (hB.trans (hBW.mono hB.size)) (by omega)) (by omega)) (by omega)) (by omega)) (by omega)) (by omega))
    go_upto_region 3 with fail
    clear q00 q01 q02 q10 q11 q12 hP0 hP1 hP1b fz0 fz1 fz2 eC0 eC1 eC2 eA hB hBW b5
    generalize ((((((w5.setCell ⟨w.heap.size, 0, none⟩ (.bool s1)).setCell ⟨w.heap.size, 1, none⟩ (.slice a1 n1 c1)).setCell ⟨w.heap.size, 2, none⟩ (.slice b1 m1 d1)).setCell ⟨w.heap.size + 1, 0, none⟩ (.bool s0)).setCell ⟨w.heap.size + 1, 1, none⟩ (.slice a0 n0 c0)).setCell ⟨w.heap.size + 1, 2, none⟩ (.slice b0 m0 d0)) = w2 at eB eD0 eD1 eD2 hBn ⊢
    have hB := hBn
    have hBW : Below w2.heap.size w2 w2 := Below.refl _ _
    have q00 := eD0
    have q10 := eB.1
    have q01 := eD1
    have q11 := eB.2.1
    have q02 := eD2
    have q12 := eB.2.2
    clear eD0 eD1 eD2 eB hBn
    have n9 := single_new w2 1 52 1 (by omega) rfl
    have b9 := n9.below
    replace n9 := n9.back hBW
    replace hBW := hBW.trans (b9.mono hBW.size)
    replace q00 := below_cell b9 q00
    replace q01 := below_cell b9 q01
    replace q02 := below_cell b9 q02
    replace q10 := below_cell b9 q10
    replace q11 := below_cell b9 q11
    replace q12 := below_cell b9 q12
    have n8 := single_new (w2.alloc (.cells #[.int .u32 1] 52)) 1 52 1 (by omega) rfl
    have b8 := n8.below
    replace n8 := n8.back hBW
    rw [World.size_alloc] at n8
    replace hBW := hBW.trans (b8.mono hBW.size)
    replace q00 := below_cell b8 q00
    replace q01 := below_cell b8 q01
    replace q02 := below_cell b8 q02
    replace q10 := below_cell b8 q10
    replace q11 := below_cell b8 q11
    replace q12 := below_cell b8 q12
    replace n9 := n9.later b8
    go_wp2_with fail
    refine (HO.out _ _ _ n9.seg n8.seg).mono ?_
    rintro e w31 ⟨kO, rfl, hCO, bb31⟩
    have b31 := bb31
    replace hBW := hBW.trans (b31.mono hBW.size)
    replace q00 := below_cell b31 q00
    replace q01 := below_cell b31 q01
    replace q02 := below_cell b31 q02
    replace q10 := below_cell b31 q10
    replace q11 := below_cell b31 q11
    replace q12 := below_cell b31 q12
    replace n9 := n9.later b31
    replace n8 := n8.later b31
    obtain rfl := hCO.uniq h1c.out
    rw [h1n.out]
    clear hCO h1c h1n
    go_wp2_with fail
    refine (HE.out _).mono ?_
    rintro e w32 ⟨p32, q32, rfl, hp32, hq32⟩
    have b32 := hp32.below
    replace hp32 := hp32.back hBW
    replace hq32 := hq32.back hBW
    replace hBW := hBW.trans (b32.mono hBW.size)
    replace q00 := below_cell b32 q00
    replace q01 := below_cell b32 q01
    replace q02 := below_cell b32 q02
    replace q10 := below_cell b32 q10
    replace q11 := below_cell b32 q11
    replace q12 := below_cell b32 q12
    replace n9 := n9.later b32
    replace n8 := n8.later b32
    clear n8 n9
    have hsz32 := hBW.size
    have l3200 : ((w32.alloc (.cells #[.bool (ng o), .slice p32 (ln (am o)) (ln (am o)), .slice q32 (ln V) (ln V)] 27))).cell? ⟨w32.heap.size, 0, none⟩ = some (.bool (ng o)) := by go_simp
    have l3201 : ((w32.alloc (.cells #[.bool (ng o), .slice p32 (ln (am o)) (ln (am o)), .slice q32 (ln V) (ln V)] 27))).cell? ⟨w32.heap.size, 1, none⟩ = some (.slice p32 (ln (am o)) (ln (am o))) := by go_simp
    have l3202 : ((w32.alloc (.cells #[.bool (ng o), .slice p32 (ln (am o)) (ln (am o)), .slice q32 (ln V) (ln V)] 27))).cell? ⟨w32.heap.size, 2, none⟩ = some (.slice q32 (ln V) (ln V)) := by go_simp
    have cb32 : Below w32.heap.size w32 ((w32.alloc (.cells #[.bool (ng o), .slice p32 (ln (am o)) (ln (am o)), .slice q32 (ln V) (ln V)] 27))) := ((Below.refl _ _).alloc (by (try simp only [World.size_alloc]); omega) _)
    replace hBW := hBW.trans (cb32.mono hBW.size)
    replace q00 := below_cell cb32 q00
    replace q01 := below_cell cb32 q01
    replace q02 := below_cell cb32 q02
    replace q10 := below_cell cb32 q10
    replace q11 := below_cell cb32 q11
    replace q12 := below_cell cb32 q12
    replace hp32 := hp32.later cb32
    replace hq32 := hq32.later cb32
    have hL320 : Row ((w32.alloc (.cells #[.bool (ng o), .slice p32 (ln (am o)) (ln (am o)), .slice q32 (ln V) (ln V)] 27))) (w32.heap.size) := by
      have := row_new (w32) #[.bool (ng o), .slice p32 (ln (am o)) (ln (am o)), .slice q32 (ln V) (ln V)] 27
      try simp only [World.size_alloc] at this
      exact this
    go_wp2_with fail
    generalize (w32.alloc (.cells #[.bool (ng o), .slice p32 (ln (am o)) (ln (am o)), .slice q32 (ln V) (ln V)] 27)) = w32x at q00 q01 q02 q10 q11 q12 l3200 l3201 l3202 hL320 hp32 hq32 hBW cb32 ⊢
    clear cb32
    refine (HS.out _ _ _ hp32.seg hq32.seg).mono ?_
    rintro e w33 ⟨rfl, b33⟩
    replace hBW := hBW.trans (b33.mono hBW.size)
    replace q00 := below_cell b33 q00
    replace q01 := below_cell b33 q01
    replace q02 := below_cell b33 q02
    replace q10 := below_cell b33 q10
    replace q11 := below_cell b33 q11
    replace q12 := below_cell b33 q12
    replace l3200 := below_cell b33 l3200
    replace l3201 := below_cell b33 l3201
    replace l3202 := below_cell b33 l3202
    replace hL320 := below_row b33 hL320
    replace hp32 := hp32.later b33
    replace hq32 := hq32.later b33
    go_wp2_with fail
    replace hBW := hBW.drew
    replace hp32 := hp32.drew
    replace hq32 := hq32.drew
    first
      | go_region_held3 (fun w' => w'.cell? ⟨w.heap.size, 0, none⟩ = some (.bool s1) ∧ w'.cell? ⟨w.heap.size, 1, none⟩ = some (.slice a1 n1 c1) ∧ w'.cell? ⟨w.heap.size, 2, none⟩ = some (.slice b1 m1 d1) ∧ w'.cell? ⟨w.heap.size + 1, 0, none⟩ = some (.bool s0) ∧ w'.cell? ⟨w.heap.size + 1, 1, none⟩ = some (.slice a0 n0 c0) ∧ w'.cell? ⟨w.heap.size + 1, 2, none⟩ = some (.slice b0 m0 d0) ∧ w'.cell? ⟨w32.heap.size, 0, none⟩ = some (.bool (ng o)) ∧ w'.cell? ⟨w32.heap.size, 1, none⟩ = some (.slice p32 (ln (am o)) (ln (am o))) ∧ w'.cell? ⟨w32.heap.size, 2, none⟩ = some (.slice q32 (ln V) (ln V)) ∧ Below w.heap.size w w')
          (first | exact ⟨q00, q01, q02, q10, q11, q12, l3200, l3201, l3202, hB.trans (hBW.mono hB.size)⟩ | exact kp9 b34 (by assumption) | exact kp9 b35 (by assumption) | exact kp9 b36 (by assumption) | exact kp9 b37 (by assumption) | exact kp9 b38 (by assumption) | exact kp9 b39 (by assumption) | exact kp9 (below_alloc _) (by assumption))
          (first
            | (go_at_call 14; go_at_call_of 14 (Value.agg #[Value.bool s1, Value.slice a1 n1 c1, Value.slice b1 m1 d1]); (fail_if_success clear b34); refine (Hnear1.out _ (sb hS1 hB hBW) (sb hT1 hB hBW)).mono ?_; rintro e w34 ⟨k34, rfl, hC34, bb34⟩; have b34 := bb34; replace hBW := hBW.trans (b34.mono hBW.size); replace q00 := below_cell b34 q00; replace q01 := below_cell b34 q01; replace q02 := below_cell b34 q02; replace q10 := below_cell b34 q10; replace q11 := below_cell b34 q11; replace q12 := below_cell b34 q12; replace l3200 := below_cell b34 l3200; replace l3201 := below_cell b34 l3201; replace l3202 := below_cell b34 l3202; replace hL320 := below_row b34 hL320; replace hp32 := hp32.later b34; replace hq32 := hq32.later b34)
            | (go_at_call 14; go_at_call_of 14 (Value.agg #[Value.bool s0, Value.slice a0 n0 c0, Value.slice b0 m0 d0]); (fail_if_success clear b35); refine (Hnear0.out _ (sb hS0 hB hBW) (sb hT0 hB hBW)).mono ?_; rintro e w35 ⟨k35, rfl, hC35, bb35⟩; have b35 := bb35; replace hBW := hBW.trans (b35.mono hBW.size); replace q00 := below_cell b35 q00; replace q01 := below_cell b35 q01; replace q02 := below_cell b35 q02; replace q10 := below_cell b35 q10; replace q11 := below_cell b35 q11; replace q12 := below_cell b35 q12; replace l3200 := below_cell b35 l3200; replace l3201 := below_cell b35 l3201; replace l3202 := below_cell b35 l3202; replace hL320 := below_row b35 hL320; replace hp32 := hp32.later b35; replace hq32 := hq32.later b35; have hle35 := near_le hord hC34 hC35)
            | (go_at_call 23; go_at_call_of 23 (Value.agg #[Value.bool s1, Value.slice a1 n1 c1, Value.slice b1 m1 d1]); (fail_if_success clear b36); refine (Hdown1.out _ (sb hS1 hB hBW) (sb hT1 hB hBW)).mono ?_; rintro e w36 ⟨k36, rfl, hC36, bb36⟩; have b36 := bb36; replace hBW := hBW.trans (b36.mono hBW.size); replace q00 := below_cell b36 q00; replace q01 := below_cell b36 q01; replace q02 := below_cell b36 q02; replace q10 := below_cell b36 q10; replace q11 := below_cell b36 q11; replace q12 := below_cell b36 q12; replace l3200 := below_cell b36 l3200; replace l3201 := below_cell b36 l3201; replace l3202 := below_cell b36 l3202; replace hL320 := below_row b36 hL320; replace hp32 := hp32.later b36; replace hq32 := hq32.later b36)
            | (go_at_call 23; go_at_call_of 23 (Value.agg #[Value.bool s0, Value.slice a0 n0 c0, Value.slice b0 m0 d0]); (fail_if_success clear b37); refine (Hdown0.out _ (sb hS0 hB hBW) (sb hT0 hB hBW)).mono ?_; rintro e w37 ⟨k37, rfl, hC37, bb37⟩; have b37 := bb37; replace hBW := hBW.trans (b37.mono hBW.size); replace q00 := below_cell b37 q00; replace q01 := below_cell b37 q01; replace q02 := below_cell b37 q02; replace q10 := below_cell b37 q10; replace q11 := below_cell b37 q11; replace q12 := below_cell b37 q12; replace l3200 := below_cell b37 l3200; replace l3201 := below_cell b37 l3201; replace l3202 := below_cell b37 l3202; replace hL320 := below_row b37 hL320; replace hp32 := hp32.later b37; replace hq32 := hq32.later b37; have hle37 := down_le hord hC36 hC37)
            | (go_at_call 24; go_at_call_of 24 (Value.agg #[Value.bool s1, Value.slice a1 n1 c1, Value.slice b1 m1 d1]); (fail_if_success clear b38); refine (Hup1.out _ (sb hS1 hB hBW) (sb hT1 hB hBW)).mono ?_; rintro e w38 ⟨k38, rfl, hC38, bb38⟩; have b38 := bb38; replace hBW := hBW.trans (b38.mono hBW.size); replace q00 := below_cell b38 q00; replace q01 := below_cell b38 q01; replace q02 := below_cell b38 q02; replace q10 := below_cell b38 q10; replace q11 := below_cell b38 q11; replace q12 := below_cell b38 q12; replace l3200 := below_cell b38 l3200; replace l3201 := below_cell b38 l3201; replace l3202 := below_cell b38 l3202; replace hL320 := below_row b38 hL320; replace hp32 := hp32.later b38; replace hq32 := hq32.later b38)
            | (go_at_call 24; go_at_call_of 24 (Value.agg #[Value.bool s0, Value.slice a0 n0 c0, Value.slice b0 m0 d0]); (fail_if_success clear b39); refine (Hup0.out _ (sb hS0 hB hBW) (sb hT0 hB hBW)).mono ?_; rintro e w39 ⟨k39, rfl, hC39, bb39⟩; have b39 := bb39; replace hBW := hBW.trans (b39.mono hBW.size); replace q00 := below_cell b39 q00; replace q01 := below_cell b39 q01; replace q02 := below_cell b39 q02; replace q10 := below_cell b39 q10; replace q11 := below_cell b39 q11; replace q12 := below_cell b39 q12; replace l3200 := below_cell b39 l3200; replace l3201 := below_cell b39 l3201; replace l3202 := below_cell b39 l3202; replace hL320 := below_row b39 hL320; replace hp32 := hp32.later b39; replace hq32 := hq32.later b39; have hle39 := up_le hord hC38 hC39))
      | fail
    go_wp2
    go_ret
    exact ⟨rfl, hB.trans (hBW.mono hB.size)⟩
  · have hord := HNS.out (by omega)
    clear HSW HNS
    go_upto_region 3 with fail
    have n9 := single_new w5 1 52 1 (by omega) rfl
    have b9 := n9.below
    replace n9 := n9.back hBW
    replace hBW := hBW.trans (b9.mono hBW.size)
    replace q00 := below_cell b9 q00
    replace q01 := below_cell b9 q01
    replace q02 := below_cell b9 q02
    replace q10 := below_cell b9 q10
    replace q11 := below_cell b9 q11
    replace q12 := below_cell b9 q12
    replace hP0 := below_row b9 hP0
    replace hP1 := below_row b9 hP1
    have n8 := single_new (w5.alloc (.cells #[.int .u32 1] 52)) 1 52 1 (by omega) rfl
    have b8 := n8.below
    replace n8 := n8.back hBW
    rw [World.size_alloc] at n8
    replace hBW := hBW.trans (b8.mono hBW.size)
    replace q00 := below_cell b8 q00
    replace q01 := below_cell b8 q01
    replace q02 := below_cell b8 q02
    replace q10 := below_cell b8 q10
    replace q11 := below_cell b8 q11
    replace q12 := below_cell b8 q12
    replace hP0 := below_row b8 hP0
    replace hP1 := below_row b8 hP1
    replace n9 := n9.later b8
    go_wp2_with fail
    refine (HO.out _ _ _ n9.seg n8.seg).mono ?_
    rintro e w31 ⟨kO, rfl, hCO, bb31⟩
    have b31 := bb31
    replace hBW := hBW.trans (b31.mono hBW.size)
    replace q00 := below_cell b31 q00
    replace q01 := below_cell b31 q01
    replace q02 := below_cell b31 q02
    replace q10 := below_cell b31 q10
    replace q11 := below_cell b31 q11
    replace q12 := below_cell b31 q12
    replace hP0 := below_row b31 hP0
    replace hP1 := below_row b31 hP1
    replace n9 := n9.later b31
    replace n8 := n8.later b31
    obtain rfl := hCO.uniq h1c.out
    rw [h1n.out]
    clear hCO h1c h1n
    go_wp2_with fail
    refine (HE.out _).mono ?_
    rintro e w32 ⟨p32, q32, rfl, hp32, hq32⟩
    have b32 := hp32.below
    replace hp32 := hp32.back hBW
    replace hq32 := hq32.back hBW
    replace hBW := hBW.trans (b32.mono hBW.size)
    replace q00 := below_cell b32 q00
    replace q01 := below_cell b32 q01
    replace q02 := below_cell b32 q02
    replace q10 := below_cell b32 q10
    replace q11 := below_cell b32 q11
    replace q12 := below_cell b32 q12
    replace hP0 := below_row b32 hP0
    replace hP1 := below_row b32 hP1
    replace n9 := n9.later b32
    replace n8 := n8.later b32
    clear n8 n9
    have hsz32 := hBW.size
    have hlt32hP0 := hP0.lt
    have hlt32hP1 := hP1.lt
    have l3200 : ((w32.alloc (.cells #[.bool (ng o), .slice p32 (ln (am o)) (ln (am o)), .slice q32 (ln V) (ln V)] 27))).cell? ⟨w32.heap.size, 0, none⟩ = some (.bool (ng o)) := by go_simp
    have l3201 : ((w32.alloc (.cells #[.bool (ng o), .slice p32 (ln (am o)) (ln (am o)), .slice q32 (ln V) (ln V)] 27))).cell? ⟨w32.heap.size, 1, none⟩ = some (.slice p32 (ln (am o)) (ln (am o))) := by go_simp
    have l3202 : ((w32.alloc (.cells #[.bool (ng o), .slice p32 (ln (am o)) (ln (am o)), .slice q32 (ln V) (ln V)] 27))).cell? ⟨w32.heap.size, 2, none⟩ = some (.slice q32 (ln V) (ln V)) := by go_simp
    have cb32 : Below w32.heap.size w32 ((w32.alloc (.cells #[.bool (ng o), .slice p32 (ln (am o)) (ln (am o)), .slice q32 (ln V) (ln V)] 27))) := ((Below.refl _ _).alloc (by (try simp only [World.size_alloc]); omega) _)
    replace hBW := hBW.trans (cb32.mono hBW.size)
    replace q00 := below_cell cb32 q00
    replace q01 := below_cell cb32 q01
    replace q02 := below_cell cb32 q02
    replace q10 := below_cell cb32 q10
    replace q11 := below_cell cb32 q11
    replace q12 := below_cell cb32 q12
    replace hP0 := below_row cb32 hP0
    replace hP1 := below_row cb32 hP1
    replace hp32 := hp32.later cb32
    replace hq32 := hq32.later cb32
    have hL320 : Row ((w32.alloc (.cells #[.bool (ng o), .slice p32 (ln (am o)) (ln (am o)), .slice q32 (ln V) (ln V)] 27))) (w32.heap.size) := by
      have := row_new (w32) #[.bool (ng o), .slice p32 (ln (am o)) (ln (am o)), .slice q32 (ln V) (ln V)] 27
      try simp only [World.size_alloc] at this
      exact this
    go_wp2_with fail
    generalize (w32.alloc (.cells #[.bool (ng o), .slice p32 (ln (am o)) (ln (am o)), .slice q32 (ln V) (ln V)] 27)) = w32x at q00 q01 q02 q10 q11 q12 l3200 l3201 l3202 hP0 hP1 hL320 hp32 hq32 hBW cb32 ⊢
    clear cb32
    refine (HS.out _ _ _ hp32.seg hq32.seg).mono ?_
    rintro e w33 ⟨rfl, b33⟩
    replace hBW := hBW.trans (b33.mono hBW.size)
    replace q00 := below_cell b33 q00
    replace q01 := below_cell b33 q01
    replace q02 := below_cell b33 q02
    replace q10 := below_cell b33 q10
    replace q11 := below_cell b33 q11
    replace q12 := below_cell b33 q12
    replace l3200 := below_cell b33 l3200
    replace l3201 := below_cell b33 l3201
    replace l3202 := below_cell b33 l3202
    replace hP0 := below_row b33 hP0
    replace hP1 := below_row b33 hP1
    replace hL320 := below_row b33 hL320
    replace hp32 := hp32.later b33
    replace hq32 := hq32.later b33
    go_wp2_with fail
    replace hBW := hBW.drew
    replace hp32 := hp32.drew
    replace hq32 := hq32.drew
    first
      | go_region_held3 (fun w' => w'.cell? ⟨w.heap.size, 0, none⟩ = some (.bool s0) ∧ w'.cell? ⟨w.heap.size, 1, none⟩ = some (.slice a0 n0 c0) ∧ w'.cell? ⟨w.heap.size, 2, none⟩ = some (.slice b0 m0 d0) ∧ w'.cell? ⟨w.heap.size + 1, 0, none⟩ = some (.bool s1) ∧ w'.cell? ⟨w.heap.size + 1, 1, none⟩ = some (.slice a1 n1 c1) ∧ w'.cell? ⟨w.heap.size + 1, 2, none⟩ = some (.slice b1 m1 d1) ∧ w'.cell? ⟨w32.heap.size, 0, none⟩ = some (.bool (ng o)) ∧ w'.cell? ⟨w32.heap.size, 1, none⟩ = some (.slice p32 (ln (am o)) (ln (am o))) ∧ w'.cell? ⟨w32.heap.size, 2, none⟩ = some (.slice q32 (ln V) (ln V)) ∧ Below w.heap.size w w')
          (first | exact ⟨q00, q01, q02, q10, q11, q12, l3200, l3201, l3202, hB.trans (hBW.mono hB.size)⟩ | exact kp9 b34 (by assumption) | exact kp9 b35 (by assumption) | exact kp9 b36 (by assumption) | exact kp9 b37 (by assumption) | exact kp9 b38 (by assumption) | exact kp9 b39 (by assumption) | exact kp9 (below_alloc _) (by assumption))
          (first
            | (go_at_call 14; go_at_call_of 14 (Value.agg #[Value.bool s0, Value.slice a0 n0 c0, Value.slice b0 m0 d0]); (fail_if_success clear b34); refine (Hnear0.out _ (sb hS0 hB hBW) (sb hT0 hB hBW)).mono ?_; rintro e w34 ⟨k34, rfl, hC34, bb34⟩; have b34 := bb34; replace hBW := hBW.trans (b34.mono hBW.size); replace q00 := below_cell b34 q00; replace q01 := below_cell b34 q01; replace q02 := below_cell b34 q02; replace q10 := below_cell b34 q10; replace q11 := below_cell b34 q11; replace q12 := below_cell b34 q12; replace l3200 := below_cell b34 l3200; replace l3201 := below_cell b34 l3201; replace l3202 := below_cell b34 l3202; replace hP0 := below_row b34 hP0; replace hP1 := below_row b34 hP1; replace hL320 := below_row b34 hL320; replace hp32 := hp32.later b34; replace hq32 := hq32.later b34)
            | (go_at_call 14; go_at_call_of 14 (Value.agg #[Value.bool s1, Value.slice a1 n1 c1, Value.slice b1 m1 d1]); (fail_if_success clear b35); refine (Hnear1.out _ (sb hS1 hB hBW) (sb hT1 hB hBW)).mono ?_; rintro e w35 ⟨k35, rfl, hC35, bb35⟩; have b35 := bb35; replace hBW := hBW.trans (b35.mono hBW.size); replace q00 := below_cell b35 q00; replace q01 := below_cell b35 q01; replace q02 := below_cell b35 q02; replace q10 := below_cell b35 q10; replace q11 := below_cell b35 q11; replace q12 := below_cell b35 q12; replace l3200 := below_cell b35 l3200; replace l3201 := below_cell b35 l3201; replace l3202 := below_cell b35 l3202; replace hP0 := below_row b35 hP0; replace hP1 := below_row b35 hP1; replace hL320 := below_row b35 hL320; replace hp32 := hp32.later b35; replace hq32 := hq32.later b35; have hle35 := near_le hord hC34 hC35)
            | (go_at_call 23; go_at_call_of 23 (Value.agg #[Value.bool s0, Value.slice a0 n0 c0, Value.slice b0 m0 d0]); (fail_if_success clear b36); refine (Hdown0.out _ (sb hS0 hB hBW) (sb hT0 hB hBW)).mono ?_; rintro e w36 ⟨k36, rfl, hC36, bb36⟩; have b36 := bb36; replace hBW := hBW.trans (b36.mono hBW.size); replace q00 := below_cell b36 q00; replace q01 := below_cell b36 q01; replace q02 := below_cell b36 q02; replace q10 := below_cell b36 q10; replace q11 := below_cell b36 q11; replace q12 := below_cell b36 q12; replace l3200 := below_cell b36 l3200; replace l3201 := below_cell b36 l3201; replace l3202 := below_cell b36 l3202; replace hP0 := below_row b36 hP0; replace hP1 := below_row b36 hP1; replace hL320 := below_row b36 hL320; replace hp32 := hp32.later b36; replace hq32 := hq32.later b36)
            | (go_at_call 23; go_at_call_of 23 (Value.agg #[Value.bool s1, Value.slice a1 n1 c1, Value.slice b1 m1 d1]); (fail_if_success clear b37); refine (Hdown1.out _ (sb hS1 hB hBW) (sb hT1 hB hBW)).mono ?_; rintro e w37 ⟨k37, rfl, hC37, bb37⟩; have b37 := bb37; replace hBW := hBW.trans (b37.mono hBW.size); replace q00 := below_cell b37 q00; replace q01 := below_cell b37 q01; replace q02 := below_cell b37 q02; replace q10 := below_cell b37 q10; replace q11 := below_cell b37 q11; replace q12 := below_cell b37 q12; replace l3200 := below_cell b37 l3200; replace l3201 := below_cell b37 l3201; replace l3202 := below_cell b37 l3202; replace hP0 := below_row b37 hP0; replace hP1 := below_row b37 hP1; replace hL320 := below_row b37 hL320; replace hp32 := hp32.later b37; replace hq32 := hq32.later b37; have hle37 := down_le hord hC36 hC37)
            | (go_at_call 24; go_at_call_of 24 (Value.agg #[Value.bool s0, Value.slice a0 n0 c0, Value.slice b0 m0 d0]); (fail_if_success clear b38); refine (Hup0.out _ (sb hS0 hB hBW) (sb hT0 hB hBW)).mono ?_; rintro e w38 ⟨k38, rfl, hC38, bb38⟩; have b38 := bb38; replace hBW := hBW.trans (b38.mono hBW.size); replace q00 := below_cell b38 q00; replace q01 := below_cell b38 q01; replace q02 := below_cell b38 q02; replace q10 := below_cell b38 q10; replace q11 := below_cell b38 q11; replace q12 := below_cell b38 q12; replace l3200 := below_cell b38 l3200; replace l3201 := below_cell b38 l3201; replace l3202 := below_cell b38 l3202; replace hP0 := below_row b38 hP0; replace hP1 := below_row b38 hP1; replace hL320 := below_row b38 hL320; replace hp32 := hp32.later b38; replace hq32 := hq32.later b38)
            | (go_at_call 24; go_at_call_of 24 (Value.agg #[Value.bool s1, Value.slice a1 n1 c1, Value.slice b1 m1 d1]); (fail_if_success clear b39); refine (Hup1.out _ (sb hS1 hB hBW) (sb hT1 hB hBW)).mono ?_; rintro e w39 ⟨k39, rfl, hC39, bb39⟩; have b39 := bb39; replace hBW := hBW.trans (b39.mono hBW.size); replace q00 := below_cell b39 q00; replace q01 := below_cell b39 q01; replace q02 := below_cell b39 q02; replace q10 := below_cell b39 q10; replace q11 := below_cell b39 q11; replace q12 := below_cell b39 q12; replace l3200 := below_cell b39 l3200; replace l3201 := below_cell b39 l3201; replace l3202 := below_cell b39 l3202; replace hP0 := below_row b39 hP0; replace hP1 := below_row b39 hP1; replace hL320 := below_row b39 hL320; replace hp32 := hp32.later b39; replace hq32 := hq32.later b39; have hle39 := up_le hord hC38 hC39))
      | fail
    go_wp2
    go_ret
    exact ⟨rfl, hB.trans (hBW.mono hB.size)⟩

set_option maxRecDepth 100000 in
theorem contract (H : Type) (enc : TypeId × Value → H) (W : World) (base : Nat) (args : Array Value) (ds gs : List (DataW H)) (before : List MemPlace)
    (hval : ∀ (j : Nat) t v, Try.f6.params[j]? = some t → args[j]? = some v → Value.okWide Try.prog W .any base t v)
    (hW : DataW.Whole enc Try.prog Try.f6.params.toList Rows.approxRisesSpec.vars false W args.toList ds gs before)
    (hsz : (DataW.weightsEach Try.prog (Try.f6.params.toList ++ Rows.approxRisesSpec.plain.varTypes Try.prog) (ds ++ gs)).all (· ≤ reachBytes) = true) :
    Calls Try.prog 6 args W fun e W' => ∃ v, e = .returned v ∧ Rows.approxRisesSpec.post enc Try.prog Try.f6 false true false false W args v W' := by
  have hW' := hW
  obtain ⟨p, q, hA0, hV, rfl, hfz, hnd⟩ := hW
  have hA : DataW.TrodAll enc Try.prog W 0 (fun _ => true) true Try.f6.params.toList args.toList ds p := hA0
  rw [Try.params6] at hA hval hsz
  obtain ⟨v0, vs0, d0, ds0, p0, q0, hargs, rfl, rfl, h0, r0⟩ := trodAll_cons hA
  obtain ⟨v1, vs1, d1, ds1, p1, q1, rfl, rfl, rfl, h1, r1⟩ := trodAll_cons r0
  obtain ⟨rfl, rfl, rfl⟩ := trodAll_nil r1
  obtain rfl : args = #[v0, v1] := by cases args; simp_all
  obtain ⟨rfl, rfl⟩ := trodVars_none hV
  have lt0 : ∀ x ∈ p0, x.block < W.heap.size := by obtain ⟨m, hm⟩ := h0; exact DataW.trod_lt m _ _ _ hm
  obtain ⟨rs0, ra0, rn0, rc0, rX0, rb0, rm0, re0, rY0, rfl, hS0, hc0, hb0, hT0, hd0, hk0, hu0, hv0⟩ := open_Rat (hval 0 27 v0 rfl rfl) h0 (sized_at 0 hsz rfl rfl)
  have lt1 : ∀ x ∈ p1, x.block < W.heap.size := by obtain ⟨m, hm⟩ := h1; exact DataW.trod_lt m _ _ _ hm
  obtain ⟨rs1, ra1, rn1, rc1, rX1, rb1, rm1, re1, rY1, rfl, hS1, hc1, hb1, hT1, hd1, hk1, hu1, hv1⟩ := open_Rat (hval 1 27 v1 rfl rfl) h1 (sized_at 1 hsz rfl rfl)
  clear hA0
  simp only [List.append_nil] at hW'
  refine (walk rs0 ra0 rn0 rc0 rX0 rb0 rm0 re0 rY0 rs1 ra1 rn1 rc1 rX1 rb1 rm1 re1 rY1 W hc0 hb0 hS0 hd0 hk0 hT0 hc1 hb1 hS1 hd1 hk1 hT1).mono fun e W' ⟨he, bel⟩ => ?_
  subst he
  exact ⟨_, rfl, _, _, _, [], _, [], hW', trodAll_mk1 (shut_bool Try.underlying4 _), (trodAll_cons_mk (Below.trod laidOut (by kernel_rfl) (of_decide_eq_true (by kernel_rfl)) h0 bel lt0) (trodAll_cons_mk (Below.trod laidOut (by kernel_rfl) (of_decide_eq_true (by kernel_rfl)) h1 bel lt1) trodAll_mk0)), rfl, bel.frame _, fun h => by cases h⟩

set_option maxRecDepth 100000 in
theorem lifted (os : Os) (started : os.Started) (H : Type) (enc : TypeId × Value → H) :
    ReturnsInHanded {} Try.checked os 6 .any (Rows.approxRisesSpec.pre6 enc Try.prog Try.f6 Rows.approxRisesRow.domain false) (Rows.approxRisesSpec.post enc Try.prog Try.f6 false true false false) := by
  refine returnsInHanded_of_change_sized (C := Try.checked) own started (by kernel_rfl) Try.func6
    (ChangeSpec.witness6 (enc := enc) (C := Try.checked) false ⟨#[], #[.agg #[.bool false, .slice none 0 0, .slice none 0 0], .agg #[.bool false, .slice none 0 0, .slice none 0 0]], []⟩ 8 (by kernel_rfl) (by kernel_rfl) (by kernel_rfl) (by kernel_rfl)) ?_
  intro W base args ds gs before hval hW _ hsz _
  exact contract H enc W base args ds gs before hval hW hsz

theorem over : Rows.approxRisesRow.holds Try.pinned (OpenSpec.ofChange Rows.approxRisesSpec) :=
  OpenClaim.holds_of_wide 6 Try.f6 rfl rfl rfl rfl rfl rfl rfl ⟨rfl, rfl, rfl, rfl, rfl⟩ rfl rfl rfl rfl rfl (by kernel_rfl) Try.func6 (by kernel_rfl)
    (of_decide_eq_true (by kernel_rfl)) (by unfold Func.isWrapper; first | (rw [if_pos (by decide +kernel)]; kernel_rfl) | (rw [if_neg (by decide +kernel)]; exact ⟨rfl, rfl⟩))
    (fun os started H enc _ => lifted os started H enc)

end Go.Proofs.Yticdpbkbnflgbaa.approxRises
namespace Go.Proofs.Yticdpbkbnflgbaa
theorem approxRises_holds : Rows.ApproxRisesSaid := approxRises.over
#print axioms approxRises_holds
end Go.Proofs.Yticdpbkbnflgbaa
