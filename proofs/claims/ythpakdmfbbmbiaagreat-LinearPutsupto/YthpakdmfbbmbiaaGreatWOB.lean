/-
  Layer 6: the reference's Solve.
-/
import Derived.Test.YthpakdmfbbmbiaaGreatWQ9
import Derived.Test.YthpakdmfbbmbiaaGreatWN21
import Derived.Test.YthpakdmfbbmbiaaGreatWO9
namespace Go.Proofs.YthpakdmfbbmbiaaGreat
open Go.RowKit
set_option linter.unusedVariables false

set_option maxHeartbeats 2000000 in
set_option maxRecDepth 100000 in
theorem vqOf_zero (s : Bool) (ao : Option Addr) (n cap X : Nat) (t : Bool) (ao2 : Option Addr) (m cap2 : Nat) (w : World) (hm : n ≤ 35184372087808) (hS : Seg w ao X n) (hm2 : m ≤ 35184372087808) (hS2 : Seg w ao2 0 m) :
    Calls Tryz.prog 50 #[.agg #[.bool s, .slice ao n cap], .agg #[.bool t, .slice ao2 m cap2]] w fun e w' => e = .returned (.tuple #[.agg #[.bool false, .slice none 0 0, .slice none 0 0], .int .i64 11]) ∧ Below w.heap.size w w' := by
  obtain ⟨N, hN⟩ : ∃ N, sg s X = N := ⟨_, rfl⟩
  have H1 := hide' (fun w' k => vNorm_is s ao n cap X N w' (by omega) k hN)
  have H2' := fun w' k => vNorm_is t ao2 m cap2 0 0 w' (by omega) k (sg_zero t)
  rw [show ng 0 = false from rfl, show am 0 = 0 from rfl, ln_zero] at H2'
  have H2 := hide' H2'
  clear hN H2'
  go_enter Tryz.func50, Tryz.ntmps50
  go_wp2_with fail
  obtain ⟨W, hW⟩ : ∃ W, (((w.alloc (.cells #[.bool s, .slice ao n cap] 27)).alloc (.cells #[.bool t, .slice ao2 m cap2] 27)).alloc (.cells #[.bool false, .slice none 0 0, .slice none 0 0] 29)) = W := ⟨_, rfl⟩
  have q00 : W.cell? ⟨w.heap.size, 0, none⟩ = some (.bool s) := by subst hW; go_simp
  have q01 : W.cell? ⟨w.heap.size, 1, none⟩ = some (.slice ao n cap) := by subst hW; go_simp
  have q10 : W.cell? ⟨w.heap.size + 1, 0, none⟩ = some (.bool t) := by subst hW; go_simp
  have q11 : W.cell? ⟨w.heap.size + 1, 1, none⟩ = some (.slice ao2 m cap2) := by subst hW; go_simp
  have r00 : W.cell? ⟨w.heap.size + 1 + 1, 0, none⟩ = some (.bool false) := by subst hW; go_simp
  have r01 : W.cell? ⟨w.heap.size + 1 + 1, 1, none⟩ = some (.slice none 0 0) := by subst hW; go_simp
  have r02 : W.cell? ⟨w.heap.size + 1 + 1, 2, none⟩ = some (.slice none 0 0) := by subst hW; go_simp
  have hB : Below w.heap.size w W := by subst hW; exact ((((Below.refl _ _).alloc (by (try simp only [World.size_alloc]); omega) _).alloc (by (try simp only [World.size_alloc]); omega) _).alloc (by (try simp only [World.size_alloc]); omega) _)
  have hR0 : Row W (w.heap.size + 1 + 1) := by
    have := row_new (((w.alloc (.cells #[.bool s, .slice ao n cap] 27)).alloc (.cells #[.bool t, .slice ao2 m cap2] 27))) #[.bool false, .slice none 0 0, .slice none 0 0] 29
    try simp only [World.size_alloc] at this
    subst hW; exact this
  have hz : W.heap.size = w.heap.size + 1 + 1 + 1 := by subst hW; simp only [World.size_alloc]
  rw [hW]
  clear hW
  have hBW : Below W.heap.size W W := Below.refl _ _
  refine (H1.out _ (sb hS hB hBW)).mono ?_
  rintro e w1 ⟨a1, rfl, h1⟩
  have b1 := h1.below
  replace h1 := h1.back hBW
  replace hBW := hBW.trans (b1.mono hBW.size)
  replace q00 := below_cell b1 q00
  replace q01 := below_cell b1 q01
  replace q10 := below_cell b1 q10
  replace q11 := below_cell b1 q11
  replace r00 := below_cell b1 r00
  replace r01 := below_cell b1 r01
  replace r02 := below_cell b1 r02
  replace hR0 := below_row b1 hR0
  have hsz1 := hBW.size
  have hlt1hR0 := hR0.lt
  have l100 : ((w1.alloc (.cells #[.bool (ng N), .slice a1 (ln (am N)) (ln (am N))] 27))).cell? ⟨w1.heap.size, 0, none⟩ = some (.bool (ng N)) := by go_simp
  have l101 : ((w1.alloc (.cells #[.bool (ng N), .slice a1 (ln (am N)) (ln (am N))] 27))).cell? ⟨w1.heap.size, 1, none⟩ = some (.slice a1 (ln (am N)) (ln (am N))) := by go_simp
  have cb1 : Below w1.heap.size w1 ((w1.alloc (.cells #[.bool (ng N), .slice a1 (ln (am N)) (ln (am N))] 27))) := ((Below.refl _ _).alloc (by (try simp only [World.size_alloc]); omega) _)
  replace hBW := hBW.trans (cb1.mono hBW.size)
  replace q00 := below_cell cb1 q00
  replace q01 := below_cell cb1 q01
  replace q10 := below_cell cb1 q10
  replace q11 := below_cell cb1 q11
  replace r00 := below_cell cb1 r00
  replace r01 := below_cell cb1 r01
  replace r02 := below_cell cb1 r02
  replace hR0 := below_row cb1 hR0
  replace h1 := h1.later cb1
  have hL10 : Row ((w1.alloc (.cells #[.bool (ng N), .slice a1 (ln (am N)) (ln (am N))] 27))) (w1.heap.size) := by
    have := row_new (w1) #[.bool (ng N), .slice a1 (ln (am N)) (ln (am N))] 27
    try simp only [World.size_alloc] at this
    exact this
  go_wp2_with fail
  generalize (w1.alloc (.cells #[.bool (ng N), .slice a1 (ln (am N)) (ln (am N))] 27)) = w1x at q00 q01 q10 q11 r00 r01 r02 l100 l101 hR0 hL10 h1 hBW cb1 ⊢
  clear cb1
  refine (H2.out _ (sb hS2 hB hBW)).mono ?_
  rintro e w2 ⟨a2, rfl, h2⟩
  have b2 := h2.below
  replace h2 := h2.back hBW
  replace hBW := hBW.trans (b2.mono hBW.size)
  replace q00 := below_cell b2 q00
  replace q01 := below_cell b2 q01
  replace q10 := below_cell b2 q10
  replace q11 := below_cell b2 q11
  replace r00 := below_cell b2 r00
  replace r01 := below_cell b2 r01
  replace r02 := below_cell b2 r02
  replace l100 := below_cell b2 l100
  replace l101 := below_cell b2 l101
  replace hR0 := below_row b2 hR0
  replace hL10 := below_row b2 hL10
  replace h1 := h1.later b2
  have hsz2 := hBW.size
  have hlt2hR0 := hR0.lt
  have hlt2hL10 := hL10.lt
  have l200 : ((w2.alloc (.cells #[.bool false, .slice a2 0 0] 27))).cell? ⟨w2.heap.size, 0, none⟩ = some (.bool false) := by go_simp
  have l201 : ((w2.alloc (.cells #[.bool false, .slice a2 0 0] 27))).cell? ⟨w2.heap.size, 1, none⟩ = some (.slice a2 0 0) := by go_simp
  have cb2 : Below w2.heap.size w2 ((w2.alloc (.cells #[.bool false, .slice a2 0 0] 27))) := ((Below.refl _ _).alloc (by (try simp only [World.size_alloc]); omega) _)
  replace hBW := hBW.trans (cb2.mono hBW.size)
  replace q00 := below_cell cb2 q00
  replace q01 := below_cell cb2 q01
  replace q10 := below_cell cb2 q10
  replace q11 := below_cell cb2 q11
  replace r00 := below_cell cb2 r00
  replace r01 := below_cell cb2 r01
  replace r02 := below_cell cb2 r02
  replace l100 := below_cell cb2 l100
  replace l101 := below_cell cb2 l101
  replace hR0 := below_row cb2 hR0
  replace hL10 := below_row cb2 hL10
  replace h1 := h1.later cb2
  replace h2 := h2.later cb2
  have hL20 : Row ((w2.alloc (.cells #[.bool false, .slice a2 0 0] 27))) (w2.heap.size) := by
    have := row_new (w2) #[.bool false, .slice a2 0 0] 27
    try simp only [World.size_alloc] at this
    exact this
  go_upto_region 3 with fail
  generalize (w2.alloc (.cells #[.bool false, .slice a2 0 0] 27)) = w2x at q00 q01 q10 q11 r00 r01 r02 l100 l101 l200 l201 hR0 hL10 hL20 h1 h2 hBW cb2 ⊢
  clear cb2
  have fz0 := fun o => hR0.frozen o
  go_wp2
  all_goals refine bodyPost_ret (v := .tuple #[.agg #[.bool false, .slice none 0 0, .slice none 0 0], .int .i64 11]) (by rw [results_ct rfl]; go_simp) rfl ?_
  all_goals exact ⟨rfl, ((bset (bset (bset (hB.trans (hBW.mono hB.size)) (by omega)) (by omega)) (by omega)))⟩

theorem low_of2 {N D Z : Int} {V : Nat} (h : Low N D Z V) : Low (rn (ng N != ng D) (am N) (am D)) ((rd (am D) : Nat) : Int) Z V := by
  have hD : am D ≠ 0 := fun e => h.ne (am_eq_zero.1 e)
  rw [rn_of hD, rd_of hD]
  refine h.congr (by omega) ?_
  unfold sg ng am
  rcases Int.lt_or_le N 0 with h1 | h1 <;> rcases Int.lt_or_le D 0 with h2 | h2
  · rw [show decide (N < 0) = true by simpa using h1, show decide (D < 0) = true by simpa using h2]
    simp only [bne_self_eq_false, Bool.false_eq_true, if_false]
    rw [show ((N.natAbs : Nat) : Int) = -N by omega, show ((D.natAbs : Nat) : Int) = -D by omega]; grind
  · rw [show decide (N < 0) = true by simpa using h1, show decide (D < 0) = false by simpa using h2]
    simp only [show (true != false) = true from rfl, if_true]
    rw [show ((N.natAbs : Nat) : Int) = -N by omega, show ((D.natAbs : Nat) : Int) = D by omega]; grind
  · rw [show decide (N < 0) = false by simpa using h1, show decide (D < 0) = true by simpa using h2]
    simp only [show (false != true) = true from rfl, if_true]
    rw [show ((N.natAbs : Nat) : Int) = N by omega, show ((D.natAbs : Nat) : Int) = -D by omega]; grind
  · rw [show decide (N < 0) = false by simpa using h1, show decide (D < 0) = false by simpa using h2]
    simp only [bne_self_eq_false, Bool.false_eq_true, if_false]
    rw [show ((N.natAbs : Nat) : Int) = N by omega, show ((D.natAbs : Nat) : Int) = D by omega]

set_option maxHeartbeats 2000000 in
set_option maxRecDepth 100000 in
theorem vqOf_is (s : Bool) (ao : Option Addr) (n cap X : Nat) (t : Bool) (ao2 : Option Addr) (m cap2 Y V : Nat) (Z : Int) (w : World) (hm : n ≤ 35184372087808) (hS : Seg w ao X n) (hm2 : m ≤ 35184372087808) (hS2 : Seg w ao2 Y m) (hL : Low (sg s X) (sg t Y) Z V) :
    Calls Tryz.prog 50 #[.agg #[.bool s, .slice ao n cap], .agg #[.bool t, .slice ao2 m cap2]] w fun e w' => ∃ p q, e = .returned (.tuple #[.agg #[.bool (ng Z), .slice p (ln (am Z)) (ln (am Z)), .slice q (ln V) (ln V)], .int .i64 0]) ∧ New w w' p (am Z) (ln (am Z)) ∧ New w w' q V (ln V) := by
  obtain ⟨N, hN⟩ : ∃ N, sg s X = N := ⟨_, rfl⟩
  obtain ⟨D, hD⟩ : ∃ D, sg t Y = D := ⟨_, rfl⟩
  rw [hN, hD] at hL
  have lN : ln (am N) ≤ n := by rw [← hN, am_sg]; exact ln_le_of_lt hS.1
  have lD : ln (am D) ≤ m := by rw [← hD, am_sg]; exact ln_le_of_lt hS2.1
  have hb : (((ln (am D) : Nat) : Int) == 0) = false := by
    rw [beq_eq_false_iff_ne]
    have h1 : am D ≠ 0 := fun e => hL.ne (am_eq_zero.1 e)
    have := mt ln_eq_zero.1 h1
    omega
  have hL2 : Low (rn (!(ng N == ng D)) (am N) (am D)) ((rd (am D) : Nat) : Int) Z V := low_of2 hL
  have H1 := hide' (fun w' k => vNorm_is s ao n cap X N w' (by omega) k hN)
  have H2 := hide' (fun w' k => vNorm_is t ao2 m cap2 Y D w' (by omega) k hD)
  have H3 := hide' (fun w' p q k1 k2 => vqNorm_is (!(ng N == ng D)) p (ln (am N)) (ln (am N)) (am N) q (ln (am D)) (ln (am D)) (am D) V Z w' (by omega) k1 (by omega) k2 hL2)
  clear hN hD hL hL2
  go_enter Tryz.func50, Tryz.ntmps50
  go_wp2_with fail
  obtain ⟨W, hW⟩ : ∃ W, (((w.alloc (.cells #[.bool s, .slice ao n cap] 27)).alloc (.cells #[.bool t, .slice ao2 m cap2] 27)).alloc (.cells #[.bool false, .slice none 0 0, .slice none 0 0] 29)) = W := ⟨_, rfl⟩
  have q00 : W.cell? ⟨w.heap.size, 0, none⟩ = some (.bool s) := by subst hW; go_simp
  have q01 : W.cell? ⟨w.heap.size, 1, none⟩ = some (.slice ao n cap) := by subst hW; go_simp
  have q10 : W.cell? ⟨w.heap.size + 1, 0, none⟩ = some (.bool t) := by subst hW; go_simp
  have q11 : W.cell? ⟨w.heap.size + 1, 1, none⟩ = some (.slice ao2 m cap2) := by subst hW; go_simp
  have r00 : W.cell? ⟨w.heap.size + 1 + 1, 0, none⟩ = some (.bool false) := by subst hW; go_simp
  have r01 : W.cell? ⟨w.heap.size + 1 + 1, 1, none⟩ = some (.slice none 0 0) := by subst hW; go_simp
  have r02 : W.cell? ⟨w.heap.size + 1 + 1, 2, none⟩ = some (.slice none 0 0) := by subst hW; go_simp
  have hB : Below w.heap.size w W := by subst hW; exact ((((Below.refl _ _).alloc (by (try simp only [World.size_alloc]); omega) _).alloc (by (try simp only [World.size_alloc]); omega) _).alloc (by (try simp only [World.size_alloc]); omega) _)
  have hR0 : Row W (w.heap.size + 1 + 1) := by
    have := row_new (((w.alloc (.cells #[.bool s, .slice ao n cap] 27)).alloc (.cells #[.bool t, .slice ao2 m cap2] 27))) #[.bool false, .slice none 0 0, .slice none 0 0] 29
    try simp only [World.size_alloc] at this
    subst hW; exact this
  have hz : W.heap.size = w.heap.size + 1 + 1 + 1 := by subst hW; simp only [World.size_alloc]
  rw [hW]
  clear hW
  have hBW : Below W.heap.size W W := Below.refl _ _
  refine (H1.out _ (sb hS hB hBW)).mono ?_
  rintro e w1 ⟨a1, rfl, h1⟩
  have b1 := h1.below
  replace h1 := h1.back hBW
  replace hBW := hBW.trans (b1.mono hBW.size)
  replace q00 := below_cell b1 q00
  replace q01 := below_cell b1 q01
  replace q10 := below_cell b1 q10
  replace q11 := below_cell b1 q11
  replace r00 := below_cell b1 r00
  replace r01 := below_cell b1 r01
  replace r02 := below_cell b1 r02
  replace hR0 := below_row b1 hR0
  have hsz1 := hBW.size
  have hlt1hR0 := hR0.lt
  have l100 : ((w1.alloc (.cells #[.bool (ng N), .slice a1 (ln (am N)) (ln (am N))] 27))).cell? ⟨w1.heap.size, 0, none⟩ = some (.bool (ng N)) := by go_simp
  have l101 : ((w1.alloc (.cells #[.bool (ng N), .slice a1 (ln (am N)) (ln (am N))] 27))).cell? ⟨w1.heap.size, 1, none⟩ = some (.slice a1 (ln (am N)) (ln (am N))) := by go_simp
  have cb1 : Below w1.heap.size w1 ((w1.alloc (.cells #[.bool (ng N), .slice a1 (ln (am N)) (ln (am N))] 27))) := ((Below.refl _ _).alloc (by (try simp only [World.size_alloc]); omega) _)
  replace hBW := hBW.trans (cb1.mono hBW.size)
  replace q00 := below_cell cb1 q00
  replace q01 := below_cell cb1 q01
  replace q10 := below_cell cb1 q10
  replace q11 := below_cell cb1 q11
  replace r00 := below_cell cb1 r00
  replace r01 := below_cell cb1 r01
  replace r02 := below_cell cb1 r02
  replace hR0 := below_row cb1 hR0
  replace h1 := h1.later cb1
  have hL10 : Row ((w1.alloc (.cells #[.bool (ng N), .slice a1 (ln (am N)) (ln (am N))] 27))) (w1.heap.size) := by
    have := row_new (w1) #[.bool (ng N), .slice a1 (ln (am N)) (ln (am N))] 27
    try simp only [World.size_alloc] at this
    exact this
  go_wp2_with fail
  generalize (w1.alloc (.cells #[.bool (ng N), .slice a1 (ln (am N)) (ln (am N))] 27)) = w1x at q00 q01 q10 q11 r00 r01 r02 l100 l101 hR0 hL10 h1 hBW cb1 ⊢
  clear cb1
  refine (H2.out _ (sb hS2 hB hBW)).mono ?_
  rintro e w2 ⟨a2, rfl, h2⟩
  have b2 := h2.below
  replace h2 := h2.back hBW
  replace hBW := hBW.trans (b2.mono hBW.size)
  replace q00 := below_cell b2 q00
  replace q01 := below_cell b2 q01
  replace q10 := below_cell b2 q10
  replace q11 := below_cell b2 q11
  replace r00 := below_cell b2 r00
  replace r01 := below_cell b2 r01
  replace r02 := below_cell b2 r02
  replace l100 := below_cell b2 l100
  replace l101 := below_cell b2 l101
  replace hR0 := below_row b2 hR0
  replace hL10 := below_row b2 hL10
  replace h1 := h1.later b2
  have hsz2 := hBW.size
  have hlt2hR0 := hR0.lt
  have hlt2hL10 := hL10.lt
  have l200 : ((w2.alloc (.cells #[.bool (ng D), .slice a2 (ln (am D)) (ln (am D))] 27))).cell? ⟨w2.heap.size, 0, none⟩ = some (.bool (ng D)) := by go_simp
  have l201 : ((w2.alloc (.cells #[.bool (ng D), .slice a2 (ln (am D)) (ln (am D))] 27))).cell? ⟨w2.heap.size, 1, none⟩ = some (.slice a2 (ln (am D)) (ln (am D))) := by go_simp
  have cb2 : Below w2.heap.size w2 ((w2.alloc (.cells #[.bool (ng D), .slice a2 (ln (am D)) (ln (am D))] 27))) := ((Below.refl _ _).alloc (by (try simp only [World.size_alloc]); omega) _)
  replace hBW := hBW.trans (cb2.mono hBW.size)
  replace q00 := below_cell cb2 q00
  replace q01 := below_cell cb2 q01
  replace q10 := below_cell cb2 q10
  replace q11 := below_cell cb2 q11
  replace r00 := below_cell cb2 r00
  replace r01 := below_cell cb2 r01
  replace r02 := below_cell cb2 r02
  replace l100 := below_cell cb2 l100
  replace l101 := below_cell cb2 l101
  replace hR0 := below_row cb2 hR0
  replace hL10 := below_row cb2 hL10
  replace h1 := h1.later cb2
  replace h2 := h2.later cb2
  have hL20 : Row ((w2.alloc (.cells #[.bool (ng D), .slice a2 (ln (am D)) (ln (am D))] 27))) (w2.heap.size) := by
    have := row_new (w2) #[.bool (ng D), .slice a2 (ln (am D)) (ln (am D))] 27
    try simp only [World.size_alloc] at this
    exact this
  go_wp2_with fail
  generalize (w2.alloc (.cells #[.bool (ng D), .slice a2 (ln (am D)) (ln (am D))] 27)) = w2x at q00 q01 q10 q11 r00 r01 r02 l100 l101 l200 l201 hR0 hL10 hL20 h1 h2 hBW cb2 ⊢
  clear cb2
  refine (H3.out _ a1 a2 h1.seg h2.seg).mono ?_
  rintro e w3 ⟨p3, q3, rfl, hp3, hq3⟩
  have b3 := hp3.below
  replace hp3 := hp3.back hBW
  replace hq3 := hq3.back hBW
  replace hBW := hBW.trans (b3.mono hBW.size)
  replace q00 := below_cell b3 q00
  replace q01 := below_cell b3 q01
  replace q10 := below_cell b3 q10
  replace q11 := below_cell b3 q11
  replace r00 := below_cell b3 r00
  replace r01 := below_cell b3 r01
  replace r02 := below_cell b3 r02
  replace l100 := below_cell b3 l100
  replace l101 := below_cell b3 l101
  replace l200 := below_cell b3 l200
  replace l201 := below_cell b3 l201
  replace hR0 := below_row b3 hR0
  replace hL10 := below_row b3 hL10
  replace hL20 := below_row b3 hL20
  replace h1 := h1.later b3
  replace h2 := h2.later b3
  have fz0 := fun o => hR0.frozen o
  go_wp2
  all_goals refine bodyPost_ret (v := .tuple #[Value.agg #[Value.bool (ng Z), Value.slice p3 (ln (am Z)) (ln (am Z)), Value.slice q3 (ln V) (ln V)], .int .i64 0]) (by rw [results_ct rfl]; go_simp) rfl ?_
  all_goals exact ⟨p3, q3, rfl, hp3.mid hB (((((Mid.refl _ _ _).set _ _ (by omega) (by omega) _).set _ _ (by omega) (by omega) _).set _ _ (by omega) (by omega) _)), hq3.mid hB (((((Mid.refl _ _ _).set _ _ (by omega) (by omega) _).set _ _ (by omega) (by omega) _).set _ _ (by omega) (by omega) _))⟩

set_option maxHeartbeats 4000000 in
set_option maxRecDepth 100000 in
theorem vqInv_zero (s0 : Bool) (a0 : Option Addr) (n0 c0 X0 : Nat) (b0 : Option Addr) (m0 d0 Y0 : Nat)  (w : World) (hc0 : n0 ≤ c0) (hm0 : n0 ≤ 4398046511104) (hS0 : Seg w a0 X0 n0) (hd0 : m0 ≤ d0) (hk0 : m0 ≤ 4398046511104) (hT0 : Seg w b0 Y0 m0) (h0 : rn s0 X0 Y0 = 0) :
    Calls Tryz.prog 24 #[Value.agg #[Value.bool s0, Value.slice a0 n0 c0, Value.slice b0 m0 d0]] w fun e w' => e = .returned (.tuple #[.agg #[.bool false, .slice none 0 0, .slice none 0 0], .int .i64 11]) ∧ Below w.heap.size w w' := by
  obtain ⟨Z1, V1, h1⟩ := low_ex (rn s0 X0 Y0) (rd Y0 : Nat) (rd_ne Y0)
  obtain ⟨lZ, lV⟩ := low_ln hS0.1 hT0.1 h1
  have G1 := hide' h1
  have hZ : Z1 = 0 := by rw [h0] at h1; exact h1.zero.1
  have e0 : am Z1 = 0 := by rw [hZ]; rfl
  have HO' : ∀ w' p q, Seg w' q V1 (ln V1) → Seg w' p (am Z1) (ln (am Z1)) → Calls Tryz.prog 50 #[.agg #[.bool false, .slice q (ln V1) (ln V1)], .agg #[.bool (ng Z1), .slice p (ln (am Z1)) (ln (am Z1))]] w' fun e w'' => e = .returned (.tuple #[.agg #[.bool false, .slice none 0 0, .slice none 0 0], .int .i64 11]) ∧ Below w'.heap.size w' w'' := fun w' p q k1 k2 => by rw [e0] at k2 ⊢; exact vqOf_zero false q (ln V1) (ln V1) V1 (ng Z1) p (ln 0) (ln 0) w' (by omega) k1 (by rw [ln_zero]; omega) k2
  have HO := hide' HO'
  clear HO' e0 hZ h0 h1
  go_enter Tryz.func24, Tryz.ntmps24
  go_wp2_with fail
  obtain ⟨W, hW⟩ : ∃ W, ((w.alloc (.cells #[.bool s0, .slice a0 n0 c0, .slice b0 m0 d0] 29)).alloc (.cells #[.bool false, .slice none 0 0, .slice none 0 0] 29)) = W := ⟨_, rfl⟩
  have q00 : W.cell? ⟨w.heap.size, 0, none⟩ = some (.bool s0) := by subst hW; go_simp
  have q01 : W.cell? ⟨w.heap.size, 1, none⟩ = some (.slice a0 n0 c0) := by subst hW; go_simp
  have q02 : W.cell? ⟨w.heap.size, 2, none⟩ = some (.slice b0 m0 d0) := by subst hW; go_simp
  have r00 : W.cell? ⟨w.heap.size + 1, 0, none⟩ = some (.bool false) := by subst hW; go_simp
  have r01 : W.cell? ⟨w.heap.size + 1, 1, none⟩ = some (.slice none 0 0) := by subst hW; go_simp
  have r02 : W.cell? ⟨w.heap.size + 1, 2, none⟩ = some (.slice none 0 0) := by subst hW; go_simp
  have hB : Below w.heap.size w W := by subst hW; exact (((Below.refl _ _).alloc (by (try simp only [World.size_alloc]); omega) _).alloc (by (try simp only [World.size_alloc]); omega) _)
  have hR0 : Row W (w.heap.size + 1) := by
    have := row_new ((w.alloc (.cells #[.bool s0, .slice a0 n0 c0, .slice b0 m0 d0] 29))) #[.bool false, .slice none 0 0, .slice none 0 0] 29
    try simp only [World.size_alloc] at this
    subst hW; exact this
  have hP0 : Row W (w.heap.size) := by
    have := row_new (w) #[.bool s0, .slice a0 n0 c0, .slice b0 m0 d0] 29
    try simp only [World.size_alloc] at this
    subst hW; exact (this.alloc _)
  have hz : W.heap.size = w.heap.size + 1 + 1 := by subst hW; simp only [World.size_alloc]
  rw [hW]
  clear hW
  have hBW : Below W.heap.size W W := Below.refl _ _
  refine (vqNorm_is s0 a0 n0 c0 X0 b0 m0 d0 Y0 V1 Z1 _ (by omega) (sb hS0 hB hBW) (by omega) (sb hT0 hB hBW) G1.out).mono ?_
  rintro e w41 ⟨p41, q41, rfl, hp41, hq41⟩
  have b41 := hp41.below
  replace hp41 := hp41.back hBW
  replace hq41 := hq41.back hBW
  replace hBW := hBW.trans (b41.mono hBW.size)
  replace q00 := below_cell b41 q00
  replace q01 := below_cell b41 q01
  replace q02 := below_cell b41 q02
  replace r00 := below_cell b41 r00
  replace r01 := below_cell b41 r01
  replace r02 := below_cell b41 r02
  replace hR0 := below_row b41 hR0
  replace hP0 := below_row b41 hP0
  have hsB := hBW.size
  have hM : Mid w.heap.size W.heap.size w41 (((w41.setCell ⟨w.heap.size, 0, none⟩ (.bool (ng Z1))).setCell ⟨w.heap.size, 1, none⟩ (.slice p41 (ln (am Z1)) (ln (am Z1)))).setCell ⟨w.heap.size, 2, none⟩ (.slice q41 (ln V1) (ln V1))) := ((((Mid.refl _ _ _).set _ _ (by omega) (by omega) _).set _ _ (by omega) (by omega) _).set _ _ (by omega) (by omega) _)
  have eM := set3_same (w := w41) (c := w.heap.size) (u0 := .bool (ng Z1)) (u1 := .slice p41 (ln (am Z1)) (ln (am Z1))) (u2 := .slice q41 (ln V1) (ln V1)) q00 q01 q02
  have q00_ : ((((w41.setCell ⟨w.heap.size, 0, none⟩ (.bool (ng Z1))).setCell ⟨w.heap.size, 1, none⟩ (.slice p41 (ln (am Z1)) (ln (am Z1)))).setCell ⟨w.heap.size, 2, none⟩ (.slice q41 (ln V1) (ln V1)))).cell? ⟨w.heap.size, 0, none⟩ = some (.bool (ng Z1)) := eM.1
  have q01_ : ((((w41.setCell ⟨w.heap.size, 0, none⟩ (.bool (ng Z1))).setCell ⟨w.heap.size, 1, none⟩ (.slice p41 (ln (am Z1)) (ln (am Z1)))).setCell ⟨w.heap.size, 2, none⟩ (.slice q41 (ln V1) (ln V1)))).cell? ⟨w.heap.size, 1, none⟩ = some (.slice p41 (ln (am Z1)) (ln (am Z1))) := eM.2.1
  have q02_ : ((((w41.setCell ⟨w.heap.size, 0, none⟩ (.bool (ng Z1))).setCell ⟨w.heap.size, 1, none⟩ (.slice p41 (ln (am Z1)) (ln (am Z1)))).setCell ⟨w.heap.size, 2, none⟩ (.slice q41 (ln V1) (ln V1)))).cell? ⟨w.heap.size, 2, none⟩ = some (.slice q41 (ln V1) (ln V1)) := eM.2.2
  have r00_ : ((((w41.setCell ⟨w.heap.size, 0, none⟩ (.bool (ng Z1))).setCell ⟨w.heap.size, 1, none⟩ (.slice p41 (ln (am Z1)) (ln (am Z1)))).setCell ⟨w.heap.size, 2, none⟩ (.slice q41 (ln V1) (ln V1)))).cell? ⟨w.heap.size + 1, 0, none⟩ = some (.bool false) := (set3_far (by omega)).trans r00
  have r01_ : ((((w41.setCell ⟨w.heap.size, 0, none⟩ (.bool (ng Z1))).setCell ⟨w.heap.size, 1, none⟩ (.slice p41 (ln (am Z1)) (ln (am Z1)))).setCell ⟨w.heap.size, 2, none⟩ (.slice q41 (ln V1) (ln V1)))).cell? ⟨w.heap.size + 1, 1, none⟩ = some (.slice none 0 0) := (set3_far (by omega)).trans r01
  have r02_ : ((((w41.setCell ⟨w.heap.size, 0, none⟩ (.bool (ng Z1))).setCell ⟨w.heap.size, 1, none⟩ (.slice p41 (ln (am Z1)) (ln (am Z1)))).setCell ⟨w.heap.size, 2, none⟩ (.slice q41 (ln V1) (ln V1)))).cell? ⟨w.heap.size + 1, 2, none⟩ = some (.slice none 0 0) := (set3_far (by omega)).trans r02
  have hR0_ := (((hR0.setCell ⟨w.heap.size, 0, none⟩ (.bool (ng Z1))).setCell ⟨w.heap.size, 1, none⟩ (.slice p41 (ln (am Z1)) (ln (am Z1)))).setCell ⟨w.heap.size, 2, none⟩ (.slice q41 (ln V1) (ln V1)))
  have fzhR0 := fun o => hR0.frozen o
  have hP0_ := (((hP0.setCell ⟨w.heap.size, 0, none⟩ (.bool (ng Z1))).setCell ⟨w.heap.size, 1, none⟩ (.slice p41 (ln (am Z1)) (ln (am Z1)))).setCell ⟨w.heap.size, 2, none⟩ (.slice q41 (ln V1) (ln V1)))
  have fzhP0 := fun o => hP0.frozen o
  have khp41 := (hp41.mid hB hM).seg
  clear hp41
  have khq41 := (hq41.mid hB hM).seg
  clear hq41
  have hBn := (hB.trans (hBW.mono hB.size)).trans (hM.below (Nat.le_trans hB.size hBW.size))
  have hsM := hM.size
  clear hM eM
  go_wp2_with fail
  clear q00 q01 q02 r00 r01 r02 hR0 hP0 fzhR0 fzhP0 hB hBW
  generalize (((w41.setCell ⟨w.heap.size, 0, none⟩ (.bool (ng Z1))).setCell ⟨w.heap.size, 1, none⟩ (.slice p41 (ln (am Z1)) (ln (am Z1)))).setCell ⟨w.heap.size, 2, none⟩ (.slice q41 (ln V1) (ln V1))) = w41y at q00_ q01_ q02_ r00_ r01_ r02_ hR0_ hP0_ khp41 khq41 hBn hsM ⊢
  have q00 := q00_
  clear q00_
  have q01 := q01_
  clear q01_
  have q02 := q02_
  clear q02_
  have r00 := r00_
  clear r00_
  have r01 := r01_
  clear r01_
  have r02 := r02_
  clear r02_
  have hR0 := hR0_
  clear hR0_
  have hP0 := hP0_
  clear hP0_
  have hB := hBn
  clear hBn
  have hBW : Below w41y.heap.size w41y w41y := Below.refl _ _
  replace hBW := hBW.drew
  replace khp41 := khp41.drew
  replace khq41 := khq41.drew
  first
    | go_region_held3 (fun w' => w'.cell? ⟨w.heap.size, 0, none⟩ = some (.bool (ng Z1)) ∧ w'.cell? ⟨w.heap.size, 1, none⟩ = some (.slice p41 (ln (am Z1)) (ln (am Z1))) ∧ w'.cell? ⟨w.heap.size, 2, none⟩ = some (.slice q41 (ln V1) (ln V1)) ∧ Below w.heap.size w w')
        (first | exact ⟨q00, q01, q02, hB.trans (hBW.mono hB.size)⟩ | exact kp3 b42 (by assumption) | exact kp3 b43 (by assumption) | exact kp3 (below_alloc _) (by assumption) | exact kp3 (below_alloc _) ⟨q00, q01, q02, hB.trans (hBW.mono hB.size)⟩ | exact kpT3_3 (by assumption) (by omega) (by omega) (by omega) (by omega))
        (first
          | (go_at_call 46; refine (positive_is q41 (ln V1) (ln V1) _).mono ?_; rintro e w42 ⟨rfl, b42⟩; replace hBW := hBW.trans (b42.mono hBW.size); replace q00 := below_cell b42 q00; replace q01 := below_cell b42 q01; replace q02 := below_cell b42 q02; replace r00 := below_cell b42 r00; replace r01 := below_cell b42 r01; replace r02 := below_cell b42 r02; replace hR0 := below_row b42 hR0; replace hP0 := below_row b42 hP0; replace khp41 := khp41.later b42; replace khq41 := khq41.later b42)
          | (go_at_call 50; refine (HO.out _ p41 q41 khq41 khp41).mono ?_; rintro e w43 ⟨rfl, b43⟩; replace hBW := hBW.trans (b43.mono hBW.size); replace q00 := below_cell b43 q00; replace q01 := below_cell b43 q01; replace q02 := below_cell b43 q02; replace r00 := below_cell b43 r00; replace r01 := below_cell b43 r01; replace r02 := below_cell b43 r02; replace hR0 := below_row b43 hR0; replace hP0 := below_row b43 hP0; replace khp41 := khp41.later b43; replace khq41 := khq41.later b43; have fz := fun o => hR0.frozen o))
    | fail
  have fz0 := fun o => hR0.frozen o
  go_wp2
  all_goals refine bodyPost_ret (v := .tuple #[.agg #[.bool false, .slice none 0 0, .slice none 0 0], .int .i64 11]) (by rw [results_ct rfl]; go_simp) rfl ?_
  all_goals exact ⟨rfl, ((bset (bset (bset (hB.trans (hBW.mono hB.size)) (by omega)) (by omega)) (by omega)))⟩

set_option maxHeartbeats 4000000 in
set_option maxRecDepth 100000 in
theorem vqInv_is (s0 : Bool) (a0 : Option Addr) (n0 c0 X0 : Nat) (b0 : Option Addr) (m0 d0 Y0 : Nat) (Z : Int) (V : Nat) (w : World) (hc0 : n0 ≤ c0) (hm0 : n0 ≤ 4398046511104) (hS0 : Seg w a0 X0 n0) (hd0 : m0 ≤ d0) (hk0 : m0 ≤ 4398046511104) (hT0 : Seg w b0 Y0 m0) (hL : Low (rd Y0 : Nat) (rn s0 X0 Y0) Z V) :
    Calls Tryz.prog 24 #[Value.agg #[Value.bool s0, Value.slice a0 n0 c0, Value.slice b0 m0 d0]] w fun e w' => ∃ p q, e = .returned (.tuple #[.agg #[.bool (ng Z), .slice p (ln (am Z)) (ln (am Z)), .slice q (ln V) (ln V)], .int .i64 0]) ∧ New w w' p (am Z) (ln (am Z)) ∧ New w w' q V (ln V) := by
  obtain ⟨Z1, V1, h1⟩ := low_ex (rn s0 X0 Y0) (rd Y0 : Nat) (rd_ne Y0)
  obtain ⟨lZ, lV⟩ := low_ln hS0.1 hT0.1 h1
  have G1 := hide' h1
  have h2 : Low (sg false V1) (sg (ng Z1) (am Z1)) Z V := by
    rw [sg_na]
    refine hL.congr (fun e => hL.ne ?_) ?_
    · have := h1.eq
      rw [e, Int.zero_mul] at this
      rcases Int.mul_eq_zero.1 this.symm with k | k
      · exact k
      · have := h1.pos; omega
    · have := h1.eq
      show ((rd Y0 : Nat) : Int) * Z1 = (V1 : Int) * rn s0 X0 Y0
      grind
  have HO := hide' (fun w' p q k1 k2 => vqOf_is false q (ln V1) (ln V1) V1 (ng Z1) p (ln (am Z1)) (ln (am Z1)) (am Z1) V Z w' (by omega) k1 (by omega) k2 h2)
  clear hL h1 h2
  go_enter Tryz.func24, Tryz.ntmps24
  go_wp2_with fail
  obtain ⟨W, hW⟩ : ∃ W, ((w.alloc (.cells #[.bool s0, .slice a0 n0 c0, .slice b0 m0 d0] 29)).alloc (.cells #[.bool false, .slice none 0 0, .slice none 0 0] 29)) = W := ⟨_, rfl⟩
  have q00 : W.cell? ⟨w.heap.size, 0, none⟩ = some (.bool s0) := by subst hW; go_simp
  have q01 : W.cell? ⟨w.heap.size, 1, none⟩ = some (.slice a0 n0 c0) := by subst hW; go_simp
  have q02 : W.cell? ⟨w.heap.size, 2, none⟩ = some (.slice b0 m0 d0) := by subst hW; go_simp
  have r00 : W.cell? ⟨w.heap.size + 1, 0, none⟩ = some (.bool false) := by subst hW; go_simp
  have r01 : W.cell? ⟨w.heap.size + 1, 1, none⟩ = some (.slice none 0 0) := by subst hW; go_simp
  have r02 : W.cell? ⟨w.heap.size + 1, 2, none⟩ = some (.slice none 0 0) := by subst hW; go_simp
  have hB : Below w.heap.size w W := by subst hW; exact (((Below.refl _ _).alloc (by (try simp only [World.size_alloc]); omega) _).alloc (by (try simp only [World.size_alloc]); omega) _)
  have hR0 : Row W (w.heap.size + 1) := by
    have := row_new ((w.alloc (.cells #[.bool s0, .slice a0 n0 c0, .slice b0 m0 d0] 29))) #[.bool false, .slice none 0 0, .slice none 0 0] 29
    try simp only [World.size_alloc] at this
    subst hW; exact this
  have hP0 : Row W (w.heap.size) := by
    have := row_new (w) #[.bool s0, .slice a0 n0 c0, .slice b0 m0 d0] 29
    try simp only [World.size_alloc] at this
    subst hW; exact (this.alloc _)
  have hz : W.heap.size = w.heap.size + 1 + 1 := by subst hW; simp only [World.size_alloc]
  rw [hW]
  clear hW
  have hBW : Below W.heap.size W W := Below.refl _ _
  refine (vqNorm_is s0 a0 n0 c0 X0 b0 m0 d0 Y0 V1 Z1 _ (by omega) (sb hS0 hB hBW) (by omega) (sb hT0 hB hBW) G1.out).mono ?_
  rintro e w41 ⟨p41, q41, rfl, hp41, hq41⟩
  have b41 := hp41.below
  replace hp41 := hp41.back hBW
  replace hq41 := hq41.back hBW
  replace hBW := hBW.trans (b41.mono hBW.size)
  replace q00 := below_cell b41 q00
  replace q01 := below_cell b41 q01
  replace q02 := below_cell b41 q02
  replace r00 := below_cell b41 r00
  replace r01 := below_cell b41 r01
  replace r02 := below_cell b41 r02
  replace hR0 := below_row b41 hR0
  replace hP0 := below_row b41 hP0
  have hsB := hBW.size
  have hM : Mid w.heap.size W.heap.size w41 (((w41.setCell ⟨w.heap.size, 0, none⟩ (.bool (ng Z1))).setCell ⟨w.heap.size, 1, none⟩ (.slice p41 (ln (am Z1)) (ln (am Z1)))).setCell ⟨w.heap.size, 2, none⟩ (.slice q41 (ln V1) (ln V1))) := ((((Mid.refl _ _ _).set _ _ (by omega) (by omega) _).set _ _ (by omega) (by omega) _).set _ _ (by omega) (by omega) _)
  have eM := set3_same (w := w41) (c := w.heap.size) (u0 := .bool (ng Z1)) (u1 := .slice p41 (ln (am Z1)) (ln (am Z1))) (u2 := .slice q41 (ln V1) (ln V1)) q00 q01 q02
  have q00_ : ((((w41.setCell ⟨w.heap.size, 0, none⟩ (.bool (ng Z1))).setCell ⟨w.heap.size, 1, none⟩ (.slice p41 (ln (am Z1)) (ln (am Z1)))).setCell ⟨w.heap.size, 2, none⟩ (.slice q41 (ln V1) (ln V1)))).cell? ⟨w.heap.size, 0, none⟩ = some (.bool (ng Z1)) := eM.1
  have q01_ : ((((w41.setCell ⟨w.heap.size, 0, none⟩ (.bool (ng Z1))).setCell ⟨w.heap.size, 1, none⟩ (.slice p41 (ln (am Z1)) (ln (am Z1)))).setCell ⟨w.heap.size, 2, none⟩ (.slice q41 (ln V1) (ln V1)))).cell? ⟨w.heap.size, 1, none⟩ = some (.slice p41 (ln (am Z1)) (ln (am Z1))) := eM.2.1
  have q02_ : ((((w41.setCell ⟨w.heap.size, 0, none⟩ (.bool (ng Z1))).setCell ⟨w.heap.size, 1, none⟩ (.slice p41 (ln (am Z1)) (ln (am Z1)))).setCell ⟨w.heap.size, 2, none⟩ (.slice q41 (ln V1) (ln V1)))).cell? ⟨w.heap.size, 2, none⟩ = some (.slice q41 (ln V1) (ln V1)) := eM.2.2
  have r00_ : ((((w41.setCell ⟨w.heap.size, 0, none⟩ (.bool (ng Z1))).setCell ⟨w.heap.size, 1, none⟩ (.slice p41 (ln (am Z1)) (ln (am Z1)))).setCell ⟨w.heap.size, 2, none⟩ (.slice q41 (ln V1) (ln V1)))).cell? ⟨w.heap.size + 1, 0, none⟩ = some (.bool false) := (set3_far (by omega)).trans r00
  have r01_ : ((((w41.setCell ⟨w.heap.size, 0, none⟩ (.bool (ng Z1))).setCell ⟨w.heap.size, 1, none⟩ (.slice p41 (ln (am Z1)) (ln (am Z1)))).setCell ⟨w.heap.size, 2, none⟩ (.slice q41 (ln V1) (ln V1)))).cell? ⟨w.heap.size + 1, 1, none⟩ = some (.slice none 0 0) := (set3_far (by omega)).trans r01
  have r02_ : ((((w41.setCell ⟨w.heap.size, 0, none⟩ (.bool (ng Z1))).setCell ⟨w.heap.size, 1, none⟩ (.slice p41 (ln (am Z1)) (ln (am Z1)))).setCell ⟨w.heap.size, 2, none⟩ (.slice q41 (ln V1) (ln V1)))).cell? ⟨w.heap.size + 1, 2, none⟩ = some (.slice none 0 0) := (set3_far (by omega)).trans r02
  have hR0_ := (((hR0.setCell ⟨w.heap.size, 0, none⟩ (.bool (ng Z1))).setCell ⟨w.heap.size, 1, none⟩ (.slice p41 (ln (am Z1)) (ln (am Z1)))).setCell ⟨w.heap.size, 2, none⟩ (.slice q41 (ln V1) (ln V1)))
  have fzhR0 := fun o => hR0.frozen o
  have hP0_ := (((hP0.setCell ⟨w.heap.size, 0, none⟩ (.bool (ng Z1))).setCell ⟨w.heap.size, 1, none⟩ (.slice p41 (ln (am Z1)) (ln (am Z1)))).setCell ⟨w.heap.size, 2, none⟩ (.slice q41 (ln V1) (ln V1)))
  have fzhP0 := fun o => hP0.frozen o
  have khp41 := (hp41.mid hB hM).seg
  clear hp41
  have khq41 := (hq41.mid hB hM).seg
  clear hq41
  have hBn := (hB.trans (hBW.mono hB.size)).trans (hM.below (Nat.le_trans hB.size hBW.size))
  have hsM := hM.size
  clear hM eM
  go_wp2_with fail
  clear q00 q01 q02 r00 r01 r02 hR0 hP0 fzhR0 fzhP0 hB hBW
  generalize (((w41.setCell ⟨w.heap.size, 0, none⟩ (.bool (ng Z1))).setCell ⟨w.heap.size, 1, none⟩ (.slice p41 (ln (am Z1)) (ln (am Z1)))).setCell ⟨w.heap.size, 2, none⟩ (.slice q41 (ln V1) (ln V1))) = w41y at q00_ q01_ q02_ r00_ r01_ r02_ hR0_ hP0_ khp41 khq41 hBn hsM ⊢
  have q00 := q00_
  clear q00_
  have q01 := q01_
  clear q01_
  have q02 := q02_
  clear q02_
  have r00 := r00_
  clear r00_
  have r01 := r01_
  clear r01_
  have r02 := r02_
  clear r02_
  have hR0 := hR0_
  clear hR0_
  have hP0 := hP0_
  clear hP0_
  have hB := hBn
  clear hBn
  have hBW : Below w41y.heap.size w41y w41y := Below.refl _ _
  replace hBW := hBW.drew
  replace khp41 := khp41.drew
  replace khq41 := khq41.drew
  first
    | go_region_held3 (fun w' => w'.cell? ⟨w.heap.size, 0, none⟩ = some (.bool (ng Z1)) ∧ w'.cell? ⟨w.heap.size, 1, none⟩ = some (.slice p41 (ln (am Z1)) (ln (am Z1))) ∧ w'.cell? ⟨w.heap.size, 2, none⟩ = some (.slice q41 (ln V1) (ln V1)) ∧ Below w.heap.size w w')
        (first | exact ⟨q00, q01, q02, hB.trans (hBW.mono hB.size)⟩ | exact kp3 b42 (by assumption) | exact kp3 b43 (by assumption) | exact kp3 (below_alloc _) (by assumption) | exact kp3 (below_alloc _) ⟨q00, q01, q02, hB.trans (hBW.mono hB.size)⟩ | exact kpT3_3 (by assumption) (by omega) (by omega) (by omega) (by omega))
        (first
          | (go_at_call 46; refine (positive_is q41 (ln V1) (ln V1) _).mono ?_; rintro e w42 ⟨rfl, b42⟩; replace hBW := hBW.trans (b42.mono hBW.size); replace q00 := below_cell b42 q00; replace q01 := below_cell b42 q01; replace q02 := below_cell b42 q02; replace r00 := below_cell b42 r00; replace r01 := below_cell b42 r01; replace r02 := below_cell b42 r02; replace hR0 := below_row b42 hR0; replace hP0 := below_row b42 hP0; replace khp41 := khp41.later b42; replace khq41 := khq41.later b42)
          | (go_at_call 50; (fail_if_success clear b43); refine (HO.out _ p41 q41 khq41 khp41).mono ?_; rintro e w43 ⟨p43, q43, rfl, hp43, hq43⟩; have b43 := hp43.below; replace hp43 := hp43.back hBW; replace hq43 := hq43.back hBW; replace hBW := hBW.trans (b43.mono hBW.size); replace q00 := below_cell b43 q00; replace q01 := below_cell b43 q01; replace q02 := below_cell b43 q02; replace r00 := below_cell b43 r00; replace r01 := below_cell b43 r01; replace r02 := below_cell b43 r02; replace hR0 := below_row b43 hR0; replace hP0 := below_row b43 hP0; replace khp41 := khp41.later b43; replace khq41 := khq41.later b43; have fz := fun o => hR0.frozen o))
    | fail
  have fz0 := fun o => hR0.frozen o
  go_wp2
  all_goals refine bodyPost_ret (v := .tuple #[Value.agg #[Value.bool (ng Z), Value.slice p43 (ln (am Z)) (ln (am Z)), Value.slice q43 (ln V) (ln V)], .int .i64 0]) (by rw [results_ct rfl]; go_simp) rfl ?_
  all_goals exact ⟨p43, q43, rfl, hp43.mid hB (((((Mid.refl _ _ _).set _ _ (by omega) (by omega) _).set _ _ (by omega) (by omega) _).set _ _ (by omega) (by omega) _)), hq43.mid hB (((((Mid.refl _ _ _).set _ _ (by omega) (by omega) _).set _ _ (by omega) (by omega) _).set _ _ (by omega) (by omega) _))⟩


end Go.Proofs.YthpakdmfbbmbiaaGreat

namespace Go.Proofs.YthpakdmfbbmbiaaGreat
open Go.RowKit
set_option linter.unusedVariables false
set_option linter.unusedSimpArgs false

/-- what the loop that takes the other variables' parts keeps -/
def RInv (w : World) (L : List Mo) (x : Int) (k : Nat) (vt : Value) (wr : World) : Prop :=
  wr.ownsRow w.heap.size 48 4 vt (oth x (L.take k)).length (cellsF (oth x (L.take k))) ∧ Below w.heap.size w wr
theorem inv_neg' (r : Rat) : -(r⁻¹) = (-r)⁻¹ := by grind

set_option maxHeartbeats 4000000 in
set_option maxRecDepth 100000 in
theorem vlSolve_zero (a : Option Addr) (ca : Nat) (L : List Mo) (D : RatV) (x : Int) (w : World) (hF : FAt w a L) (hok : ∀ p ∈ L, p.2.ok w ∧ p.2.n ≤ 1099511627776 ∧ p.2.m ≤ 1099511627776) (hc : L.length ≤ ca) (hm : L.length ≤ 1048576) (hD : D.ok w) (hb : bulkL L + D.n + D.m ≤ 4194304) (h0 : co x (fo L) = 0) :
    Calls Tryz.prog 8 #[.agg #[.slice a L.length ca, .bool D.s, .slice D.a D.n D.c, .slice D.b D.m D.e], .int .i64 x] w fun e w' => e = .returned (.tuple #[.agg #[.slice none 0 0, .bool false, .slice none 0 0, .slice none 0 0], .int .i64 61]) ∧ Below w.heap.size w w' := by
  have hs : sz 4194305 (co x (fo L)) := (co_sz x (fo L)).mono (by have := wts_bulk L (fun p hp => (hok p hp).1); omega)
  have G1 := hide' (fun w' (hb9 : Below w.heap.size w w') => vlCoef_is a ca L x w' (hF.later hb9) (fun p hp => And.intro ((hok p hp).1.later hb9) (hok p hp).2) hc hm (by have := wts_bulk L (fun p hp => (hok p hp).1); omega))
  obtain ⟨r, hr⟩ : ∃ r, co x (fo L) = r := ⟨_, rfl⟩
  rw [hr] at hs h0 G1
  clear hr hF hok hc hm hD hb
  have G3 := hide' (fun w' p q k1 k2 => vqInv_zero (ng r.num) p (ln (am r.num)) (ln (am r.num)) (am r.num) q (ln r.den) (ln r.den) r.den w' (Nat.le_refl _) (Nat.le_trans hs.1 (by omega)) k1 (Nat.le_refl _) (Nat.le_trans hs.2 (by omega)) k2 (by rw [rn_nf r.den_pos, h0]; rfl))
  clear hs h0
  go_enter Tryz.func8, Tryz.ntmps8
  go_wp2_with fail
  obtain ⟨wA, hwA⟩ : ∃ wA, (w.alloc (.cells #[.slice a L.length ca, .bool D.s, .slice D.a D.n D.c, .slice D.b D.m D.e] 31)).alloc (.cells #[.slice none 0 0, .bool false, .slice none 0 0, .slice none 0 0] 31) = wA := ⟨_, rfl⟩
  have hB : Below w.heap.size w wA := by subst hwA; exact (below_alloc _).trans ((below_alloc _).mono (below_alloc _).size)
  have rB : Four wA (w.heap.size + 1) (.slice none 0 0) (.bool false) (.slice none 0 0) (.slice none 0 0) := by subst hwA; exact ⟨⟨by go_simp, by go_simp, by go_simp, by go_simp⟩, by have h := row_new (w.alloc (.cells #[.slice a L.length ca, .bool D.s, .slice D.a D.n D.c, .slice D.b D.m D.e] 31)) #[.slice none 0 0, .bool false, .slice none 0 0, .slice none 0 0] 31; rw [show (w.alloc (.cells #[.slice a L.length ca, .bool D.s, .slice D.a D.n D.c, .slice D.b D.m D.e] 31)).heap.size = w.heap.size + 1 from Array.size_push _] at h; exact h⟩
  have d0 : wA.cell? ⟨w.heap.size, 0, none⟩ = some (.slice a L.length ca) := by subst hwA; go_simp
  have d1 : wA.cell? ⟨w.heap.size, 1, none⟩ = some (.bool D.s) := by subst hwA; go_simp
  have d2 : wA.cell? ⟨w.heap.size, 2, none⟩ = some (.slice D.a D.n D.c) := by subst hwA; go_simp
  have d3 : wA.cell? ⟨w.heap.size, 3, none⟩ = some (.slice D.b D.m D.e) := by subst hwA; go_simp
  have hz1 : w.heap.size + 1 < wA.heap.size := rB.2.lt
  rw [hwA]
  clear hwA
  refine (G1.out _ hB).mono ?_
  rintro e w1 ⟨p, q, rfl, b1, g1, g2, _, _⟩
  replace d0 := below_cell b1 d0
  replace d1 := below_cell b1 d1
  replace d2 := below_cell b1 d2
  replace d3 := below_cell b1 d3
  replace rB := rB.later b1
  replace hz1 := Nat.lt_of_lt_of_le hz1 b1.size
  replace hB := hB.trans (b1.mono hB.size)
  clear b1
  go_wp2_with fail
  refine (G3.out _ p q g1 g2).mono ?_
  rintro e w3 ⟨rfl, b3⟩
  clear g1 g2
  replace d0 := below_cell b3 d0
  replace d1 := below_cell b3 d1
  replace d2 := below_cell b3 d2
  replace d3 := below_cell b3 d3
  replace rB := rB.later b3
  replace hz1 := Nat.lt_of_lt_of_le hz1 b3.size
  replace hB := hB.trans (b3.mono hB.size)
  clear b3
  have bE := below_alloc (w := w3) (.cells #[.bool false, .slice none 0 0, .slice none 0 0] 29)
  replace d0 := below_cell bE d0
  replace d1 := below_cell bE d1
  replace d2 := below_cell bE d2
  replace d3 := below_cell bE d3
  replace rB := rB.later bE
  replace hz1 := Nat.lt_of_lt_of_le hz1 bE.size
  replace hB := hB.trans (bE.mono hB.size)
  clear bE
  have fz := fun o => rB.2.frozen o
  have z0 := rB.1.1
  have z1 := rB.1.2.1
  have z2 := rB.1.2.2.1
  have z3 := rB.1.2.2.2
  have rD := rB.put (u0 := .slice none 0 0) (u1 := .bool false) (u2 := .slice none 0 0) (u3 := .slice none 0 0)
  have hB3 := below_set4 (u0 := .slice none 0 0) (u1 := .bool false) (u2 := .slice none 0 0) (u3 := .slice none 0 0) hB (show w.heap.size ≤ w.heap.size + 1 by omega)
  replace hB3 := hide' hB3
  obtain ⟨⟨v0, v1, v2, v3⟩, vR⟩ := rD
  clear vR rB hB d0 d1 d2 d3
  go_wp2
  refine bodyPost_ret (v := .tuple #[.agg #[.slice none 0 0, .bool false, .slice none 0 0, .slice none 0 0], .int .i64 61]) (by rw [results_ct rfl]; go_simp) rfl ?_
  exact ⟨rfl, hB3.out⟩
set_option maxHeartbeats 8000000 in
set_option maxRecDepth 100000 in
theorem vlSolve_is (a : Option Addr) (ca : Nat) (L : List Mo) (D : RatV) (x : Int) (w : World) (hF : FAt w a L) (hok : ∀ p ∈ L, p.2.ok w ∧ p.2.n ≤ 1099511627776 ∧ p.2.m ≤ 1099511627776) (hc : L.length ≤ ca) (hm : L.length ≤ 1048576) (hD : D.ok w) (hb : bulkL L + D.n + D.m ≤ 4194304) (h0 : co x (fo L) ≠ 0) :
    Calls Tryz.prog 8 #[.agg #[.slice a L.length ca, .bool D.s, .slice D.a D.n D.c, .slice D.b D.m D.e], .int .i64 x] w (SolAns w (nfm (fmap (fun r => (-(co x (fo L)))⁻¹ * r) (fo (oth x L)))) ((-(co x (fo L)))⁻¹ * D.val)) := by
  obtain ⟨i0, hi0, hzi0, hzi1, hzi2⟩ := info_parts info_Mono
  have hs : sz 4194305 (co x (fo L)) := (co_sz x (fo L)).mono (by have := wts_bulk L (fun p hp => (hok p hp).1); omega)
  have G1 := hide' (fun w' (hb9 : Below w.heap.size w w') => vlCoef_is a ca L x w' (hF.later hb9) (fun p hp => And.intro ((hok p hp).1.later hb9) (hok p hp).2) hc hm (by have := wts_bulk L (fun p hp => (hok p hp).1); omega))
  have hbo := bulkL_oth x L
  have hwo := Nat.le_trans (wts_bulk (oth x L) (fun p hp => (hok p (oth_mem hp)).1)) hbo
  have hmo : (oth x L).length ≤ 1048576 := Nat.le_trans (List.length_filter_le _ _) hm
  have hko := fun p hp => (hok p (oth_mem (x := x) hp)).1
  have hkn : ∀ p ∈ oth x L, p.2.n + p.2.m + 2 ≤ 4194304 := fun p hp => by have := bulkL_mem hp; omega
  obtain ⟨r, hr⟩ : ∃ r, co x (fo L) = r := ⟨_, rfl⟩
  rw [hr] at hs h0 G1 ⊢
  rw [← inv_neg']
  have G2 := hide' (fun w' p q k1 k2 => vqInv_is (ng r.num) p (ln (am r.num)) (ln (am r.num)) (am r.num) q (ln r.den) (ln r.den) r.den (r⁻¹).num (r⁻¹).den w' (Nat.le_refl _) (Nat.le_trans hs.1 (by omega)) k1 (Nat.le_refl _) (Nat.le_trans hs.2 (by omega)) k2 (by rw [rn_nf r.den_pos, rd_nf r.den_pos]; exact low_inv h0))
  have hst := sz_inv hs h0
  obtain ⟨t, ht⟩ : ∃ t, r⁻¹ = t := ⟨_, rfl⟩
  rw [ht] at G2 hst ⊢
  have G3 := hide' (fun w' p q k1 k2 => vqNeg_is (ng t.num) p (ln (am t.num)) (ln (am t.num)) (am t.num) q (ln t.den) (ln t.den) t.den (-t).num (-t).den w' (Nat.le_refl _) (Nat.le_trans hst.1 (by omega)) k1 (Nat.le_refl _) (Nat.le_trans hst.2 (by omega)) k2 (by have h := low_neg (RatV.of t.num t.den p q); rw [val_ofR] at h; exact h))
  have hsu := sz_neg hst
  obtain ⟨u, hu⟩ : ∃ u, -t = u := ⟨_, rfl⟩
  rw [hu] at G3 hsu ⊢
  clear ht hu hr hs h0 hst hbo
  have HS := hide' (And.intro hsu (And.intro hko (And.intro hkn (And.intro hwo (And.intro hmo (And.intro hb hD))))))
  clear hsu hko hkn hwo hmo hb hD hok
  obtain ⟨TT, hTT⟩ : ∃ TT, SolAns w (nfm (fmap (fun r => u * r) (fo (oth x L)))) (u * D.val) = TT := ⟨_, rfl⟩
  rw [hTT]
  replace hTT := hide' hTT
  go_enter Tryz.func8, Tryz.ntmps8
  go_wp2_with fail
  obtain ⟨wA, hwA⟩ : ∃ wA, (w.alloc (.cells #[.slice a L.length ca, .bool D.s, .slice D.a D.n D.c, .slice D.b D.m D.e] 31)).alloc (.cells #[.slice none 0 0, .bool false, .slice none 0 0, .slice none 0 0] 31) = wA := ⟨_, rfl⟩
  have hB : Below w.heap.size w wA := by subst hwA; exact (below_alloc _).trans ((below_alloc _).mono (below_alloc _).size)
  have rB : Four wA (w.heap.size + 1) (.slice none 0 0) (.bool false) (.slice none 0 0) (.slice none 0 0) := by subst hwA; exact ⟨⟨by go_simp, by go_simp, by go_simp, by go_simp⟩, by have h := row_new (w.alloc (.cells #[.slice a L.length ca, .bool D.s, .slice D.a D.n D.c, .slice D.b D.m D.e] 31)) #[.slice none 0 0, .bool false, .slice none 0 0, .slice none 0 0] 31; rw [show (w.alloc (.cells #[.slice a L.length ca, .bool D.s, .slice D.a D.n D.c, .slice D.b D.m D.e] 31)).heap.size = w.heap.size + 1 from Array.size_push _] at h; exact h⟩
  have d0 : wA.cell? ⟨w.heap.size, 0, none⟩ = some (.slice a L.length ca) := by subst hwA; go_simp
  have d1 : wA.cell? ⟨w.heap.size, 1, none⟩ = some (.bool D.s) := by subst hwA; go_simp
  have d2 : wA.cell? ⟨w.heap.size, 2, none⟩ = some (.slice D.a D.n D.c) := by subst hwA; go_simp
  have d3 : wA.cell? ⟨w.heap.size, 3, none⟩ = some (.slice D.b D.m D.e) := by subst hwA; go_simp
  have hz1 : w.heap.size + 1 < wA.heap.size := rB.2.lt
  rw [hwA]
  clear hwA
  refine (G1.out _ hB).mono ?_
  rintro e w1 ⟨p, q, rfl, b1, g1, g2, _, _⟩
  replace d0 := below_cell b1 d0
  replace d1 := below_cell b1 d1
  replace d2 := below_cell b1 d2
  replace d3 := below_cell b1 d3
  replace rB := rB.later b1
  replace hz1 := Nat.lt_of_lt_of_le hz1 b1.size
  replace hB := hB.trans (b1.mono hB.size)
  clear b1
  go_wp2_with fail
  refine (G2.out _ p q g1 g2).mono ?_
  rintro e w2 ⟨p2, q2, rfl, n1, n2⟩
  clear g1 g2
  have b2 := n1.below
  have g3 := n1.seg
  have g4 := n2.seg
  clear n1 n2
  replace d0 := below_cell b2 d0
  replace d1 := below_cell b2 d1
  replace d2 := below_cell b2 d2
  replace d3 := below_cell b2 d3
  replace rB := rB.later b2
  replace hz1 := Nat.lt_of_lt_of_le hz1 b2.size
  replace hB := hB.trans (b2.mono hB.size)
  clear b2
  obtain ⟨wC, hwC⟩ : ∃ wC, w2.alloc (.cells #[.bool (ng t.num), .slice p2 (ln (am t.num)) (ln (am t.num)), .slice q2 (ln t.den) (ln t.den)] 29) = wC := ⟨_, rfl⟩
  have bC : Below w2.heap.size w2 wC := by subst hwC; exact below_alloc _
  have z0 : wC.cell? ⟨w2.heap.size, 0, none⟩ = some (.bool (ng t.num)) := by subst hwC; go_simp
  have z1 : wC.cell? ⟨w2.heap.size, 1, none⟩ = some (.slice p2 (ln (am t.num)) (ln (am t.num))) := by subst hwC; go_simp
  have z2 : wC.cell? ⟨w2.heap.size, 2, none⟩ = some (.slice q2 (ln t.den) (ln t.den)) := by subst hwC; go_simp
  replace d0 := below_cell bC d0
  replace d1 := below_cell bC d1
  replace d2 := below_cell bC d2
  replace d3 := below_cell bC d3
  replace rB := rB.later bC
  replace g3 := g3.later bC
  replace g4 := g4.later bC
  replace hz1 := Nat.lt_of_lt_of_le hz1 bC.size
  replace hB := hB.trans (bC.mono hB.size)
  clear bC
  go_wp2_with fail
  refine (G3.out _ p2 q2 g3 g4).mono ?_
  rintro e w3 ⟨p4, q4, rfl, n1, n2⟩
  clear g3 g4 z0 z1 z2 hwC
  have b3 := n1.below
  have g3 := n1.seg
  have g4 := n2.seg
  clear n1 n2
  replace d0 := below_cell b3 d0
  replace d1 := below_cell b3 d1
  replace d2 := below_cell b3 d2
  replace d3 := below_cell b3 d3
  replace rB := rB.later b3
  replace hz1 := Nat.lt_of_lt_of_le hz1 b3.size
  replace hB := hB.trans (b3.mono hB.size)
  clear b3
  obtain ⟨wE, hwE⟩ : ∃ wE, w3.alloc (.cells #[.bool (ng u.num), .slice p4 (ln (am u.num)) (ln (am u.num)), .slice q4 (ln u.den) (ln u.den)] 29) = wE := ⟨_, rfl⟩
  have bE : Below w3.heap.size w3 wE := by subst hwE; exact below_alloc _
  have hz3 := hz1
  have y0 : wE.cell? ⟨w3.heap.size, 0, none⟩ = some (.bool (ng u.num)) := by subst hwE; go_simp
  have y1 : wE.cell? ⟨w3.heap.size, 1, none⟩ = some (.slice p4 (ln (am u.num)) (ln (am u.num))) := by subst hwE; go_simp
  have y2 : wE.cell? ⟨w3.heap.size, 2, none⟩ = some (.slice q4 (ln u.den) (ln u.den)) := by subst hwE; go_simp
  replace d0 := below_cell bE d0
  replace d1 := below_cell bE d1
  replace d2 := below_cell bE d2
  replace d3 := below_cell bE d3
  replace rB := rB.later bE
  replace g3 := g3.later bE
  replace g4 := g4.later bE
  replace hz1 := Nat.lt_of_lt_of_le hz1 bE.size
  replace hB := hB.trans (bE.mono hB.size)
  clear bE
  have hFE := hF.later hB
  go_wp2_with fail
  clear hwE
  go_loopw [9, 10] (fun vt vi wr => ∃ k : Nat, k ≤ L.length ∧ vi = .int .i64 k ∧ RInv wE L x k vt wr) (fun _ vi _ => L.length - (intOf vi).toNat)
  case atStart => exact ⟨0, Nat.zero_le _, rfl, World.ownsRow_nil _ _ _ _, Below.refl _ _⟩
  case round =>
    obtain ⟨k, hk, rfl, hT, hBr⟩ := hrel
    have d0r := below_cell hBr d0
    by_cases hlt : k < L.length
    · obtain ⟨pk, hpk⟩ : ∃ p, L[k]? = some p := ⟨L[k], List.getElem?_eq_getElem hlt⟩
      obtain ⟨b, off, rfl, hbb, hcell⟩ := hFE (by intro e; rw [e] at hlt; simp at hlt)
      obtain ⟨c0, c1, c2, c3⟩ := hcell k pk hpk
      replace c0 := below_cell hBr c0
      replace c1 := below_cell hBr c1
      replace c2 := below_cell hBr c2
      replace c3 := below_cell hBr c3
      obtain ⟨t1, t2⟩ := take_split hpk
      have hot : oth x (L.take (k + 1)) = oth x (L.take k) ++ (if pk.1 = x then [] else [pk]) := by rw [t1]; exact oth_snoc x _ _
      clear t1 t2 hpk hcell
      obtain ⟨y, q0⟩ := pk
      simp only at c0 c1 c2 c3 hot
      have i1 : (0 : Int) ≤ (k : Int) := by omega
      have i2 : (k : Int) < (L.length : Int) := by omega
      by_cases hyx : y = x
      · rw [if_pos hyx, List.append_nil] at hot
        have hyb : (y == x) = true := by simp [hyx]
        replace hT := hide' (show RInv wE L x (k + 1) u9 wr from ⟨by rw [hot]; exact hT, hBr⟩)
        clear hot hyx G1 G2 G3 HS
        go_wp2
        go_roundw
        case rel => exact ⟨k + 1, by omega, by go_num, hT.out⟩
        case measure => simp [intOf]; omega
      · rw [if_neg hyx] at hot
        have hyb : (y == x) = false := by simp [hyx]
        clear hyx G1 G2 G3 HS
        obtain ⟨wN, hwN⟩ : ∃ wN, wr.alloc (.cells #[.int .i64 y, .bool q0.s, .slice q0.a q0.n q0.c, .slice q0.b q0.m q0.e] 48) = wN := ⟨_, rfl⟩
        have hnew := heap_alloc_new wr (.cells #[.int .i64 y, .bool q0.s, .slice q0.a q0.n q0.c, .slice q0.b q0.m q0.e] 48)
        have b3 := below_alloc (w := wr) (.cells #[.int .i64 y, .bool q0.s, .slice q0.a q0.n q0.c, .slice q0.b q0.m q0.e] 48)
        rw [hwN] at hnew b3
        obtain ⟨R, hRR⟩ : ∃ R, oth x (L.take k) = R := ⟨_, rfl⟩
        rw [hRR] at hT hot
        have hRl : R.length ≤ k := by rw [← hRR]; unfold oth; exact Nat.le_trans (List.length_filter_le _ _) (by rw [List.length_take]; omega)
        replace hRR := hide' hRR
        have hT3 := own_below hT b3
        have hB3 := hBr.trans (b3.mono hBr.size)
        have s3 := b3.size
        have s4 := hBr.size
        have hbs : wE.heap.size ≤ wN.heap.size := by omega
        have hrowt := fun k hk => (hT.lt k hk)
        have hbl : (R.length + 1) * 64 ≤ 140737488355328 := by omega
        have hj1 : R.length + 1 ≤ maxLen := by simp only [maxLen]; omega
        go_wp2_with (at_builtin; (try rw [hwN]); refine wpList_append_lies _ (by rfl) _ _ _ (by rfl) wE.heap.size 48 i0 _ 4 64 Tryz.underlying23 hi0 hzi0 hzi1 hzi2 rfl (by omega) u9 R.length (cellsF R) (by rfl) hT3 ⟨wr.heap.size, 0, none⟩ 1 1 (cells4 (y, q0)) (by rfl) (by rfl) (World.news_of_block (cs := #[.int .i64 y, .bool q0.s, .slice q0.a q0.n q0.c, .slice q0.b q0.m q0.e]) (t := 48) (fr := (0, 0)) hnew) (cells4_one _) (by omega) hj1 hbl hbs wN.heap.size rfl ?_)
        intro gb cap w9 hown4 hgrow hat hlt4
        have I1 := hide' (show RInv wE L x (k + 1) (.slice (some ⟨gb, 0, none⟩) (R.length + 1) cap) w9 from ⟨by rw [hot]; exact own_push hown4, hB3.trans (below_grown hB3.size (fun k hk => (hrowt k hk).1) hgrow)⟩)
        clear hown4 hgrow hat hT hT3 hnew b3 hBr hB3 hrowt
        go_wp2
        go_roundw
        case rel => exact ⟨k + 1, by omega, by go_num, I1.out⟩
        case measure => simp [intOf]; omega
    · obtain rfl : k = L.length := by omega
      have i1 : ¬ (L.length : Int) < (L.length : Int) := by omega
      rw [List.take_length] at hT
      obtain ⟨a1, c1, rfl, s1⟩ := Sl.of hT
      clear hT
      replace hB := hB.trans (hBr.mono hB.size)
      replace rB := rB.later hBr
      replace g3 := g3.later hBr
      replace g4 := g4.later hBr
      replace d0 := below_cell hBr d0
      replace d1 := below_cell hBr d1
      replace d2 := below_cell hBr d2
      replace d3 := below_cell hBr d3
      replace y0 := below_cell hBr y0
      replace y1 := below_cell hBr y1
      replace y2 := below_cell hBr y2
      clear d0r hBr
      obtain ⟨hsu, hko, hkn, hwo, hmo, hb, hD⟩ := HS.out
      have hCo : (RatV.of u.num u.den p4 q4).ok wr := ⟨g3, Nat.le_refl _, Nat.le_trans hsu.1 (by omega), g4, Nat.le_refl _, Nat.le_trans hsu.2 (by omega)⟩
      have hn1 : (RatV.of u.num u.den p4 q4).n ≤ 4194305 := hsu.1
      have hn2 : (RatV.of u.num u.den p4 q4).m ≤ 4194305 := hsu.2
      have hfi : fine (fmap (fun r => u * r) (fo (oth x L))) := fine_scale hsu (by omega)
      have G5 := hide' (fun w' (hb9 : Below wr.heap.size wr w') => vlScaleF_is (RatV.of u.num u.den p4 q4) a1 c1 (oth x L) 20000000 w' (s1.lies.later hb9) (fun p hp => ((hko p hp).later hB).later hb9) s1.len hmo (hCo.later hb9) (fun p hp => by have := hkn p hp; omega) (by omega) (by omega) (fun k x => by rw [val_ofR]; have h := hfi 0 k x; rwa [List.drop_zero] at h))
      rw [val_ofR] at G5
      have G6 := hide' (fun w' (hb9 : Below wr.heap.size wr w') => vqMul_is (ng u.num) p4 (ln (am u.num)) (ln (am u.num)) (am u.num) q4 (ln u.den) (ln u.den) u.den D.s D.a D.n D.c D.X D.b D.m D.e D.Y (u * D.val).num (u * D.val).den w' (Nat.le_refl _) (Nat.le_trans hsu.1 (by omega)) (g3.later hb9) (Nat.le_refl _) (Nat.le_trans hsu.2 (by omega)) (g4.later hb9) hD.2.1 (by omega) ((hD.later hB).1.later hb9) hD.2.2.2.2.1 (by omega) ((hD.later hB).2.2.2.1.later hb9) (by have h := low_mul (RatV.of u.num u.den p4 q4) D; rw [val_ofR] at h; exact h))
      obtain ⟨s, hs⟩ : ∃ s, u * D.val = s := ⟨_, rfl⟩
      rw [hs] at G6
      clear g3 g4 s1 hCo hn1 hn2 hsu hko hkn hwo hmo hb hD HS hfi G1 G2 G3 hFE
      have bW : Below wr.heap.size wr wr := Below.refl _ _
      go_wp2_with fail
      clear d0
      have bD : Below wr.heap.size wr wr.drew := (Below.refl _ _).drew
      have ky0 := below_cell bD y0
      have ky1 := below_cell bD y1
      have ky2 := below_cell bD y2
      have kd1 := below_cell bD d1
      have kd2 := below_cell bD d2
      have kd3 := below_cell bD d3
      replace bW := bW.trans (bD.mono bW.size)
      replace hB := hB.trans (bD.mono hB.size)
      replace rB := rB.later bD
      refine wp_region_held_drew (S := fun w' => w'.cell? ⟨w3.heap.size, 0, none⟩ = some (.bool (ng u.num)) ∧ w'.cell? ⟨w3.heap.size, 1, none⟩ = some (.slice p4 (ln (am u.num)) (ln (am u.num))) ∧ w'.cell? ⟨w3.heap.size, 2, none⟩ = some (.slice q4 (ln u.den) (ln u.den)) ∧ w'.cell? ⟨w.heap.size, 1, none⟩ = some (.bool D.s) ∧ w'.cell? ⟨w.heap.size, 2, none⟩ = some (.slice D.a D.n D.c) ∧ w'.cell? ⟨w.heap.size, 3, none⟩ = some (.slice D.b D.m D.e)) (by kernel_rfl) ⟨ky0, ky1, ky2, kd1, kd2, kd3⟩ (fun hHeld => ?_)
      clear ky0 ky1 ky2 kd1 kd2 kd3
      generalize wr.drew = w0 at bD rB bW hB hHeld ⊢
      clear y0 y1 y2 d1 d2 d3
      refine take' 0 (v := ?_) rfl (by kernel_rfl) (by kernel_rfl) (by kernel_rfl) (fun _ _ _ h => h) (Or.inl ⟨by rfl, ?_⟩) (by assumption) ?_
      rotate_left
      · intro w9 hSw
        go_simp
        first | done | with_reducible rfl
      simp only [Act.put, List.setIfInBounds_toArray, List.set_cons_zero, List.set_cons_succ]
      refine take' 1 (v := ?_) rfl (by kernel_rfl) (by kernel_rfl) (by kernel_rfl) (fun _ _ _ h => h) (Or.inl ⟨by rfl, ?_⟩) (by assumption) ?_
      rotate_left
      · intro w9 hSw
        go_simp
        first | done | with_reducible rfl
      simp only [Act.put, List.setIfInBounds_toArray, List.set_cons_zero, List.set_cons_succ]
      refine take' 3 (v := ?_) rfl (by kernel_rfl) (by kernel_rfl) (by kernel_rfl) (fun _ _ _ h => h) (Or.inl ⟨by rfl, ?_⟩) (by assumption) ?_
      rotate_left
      · intro w9 hSw
        go_simp
        first | done | with_reducible rfl
      simp only [Act.put, List.setIfInBounds_toArray, List.set_cons_zero, List.set_cons_succ]
      refine take' 4 (v := ?_) rfl (by kernel_rfl) (by kernel_rfl) (by kernel_rfl) (fun _ _ _ h => h) (Or.inl ⟨by rfl, ?_⟩) (by assumption) ?_
      rotate_left
      · intro w9 hSw
        go_simp
        first | done | with_reducible rfl
      simp only [Act.put, List.setIfInBounds_toArray, List.set_cons_zero, List.set_cons_succ]
      refine take' 5 (v := ?_) rfl (by kernel_rfl) (by kernel_rfl) (by kernel_rfl) (fun _ _ _ h => h) (Or.inl ⟨by rfl, ?_⟩) (by assumption) ?_
      rotate_left
      · intro w9 hSw
        go_simp
        first | done | with_reducible rfl
      simp only [Act.put, List.setIfInBounds_toArray, List.set_cons_zero, List.set_cons_succ]
      refine wpAnyH_ready (rs := [2]) (by kernel_rfl) (by simp) ?_
      refine cons' rfl (fun KK hKK => ?_)
      go_simp
      refine (G5.out _ bW).mono ?_
      rintro e w5 ⟨a5, c5, R5, rfl, b5, s5, e5, f5⟩
      have bC := b5
      replace bW := bW.trans (bC.mono bW.size)
      replace hB := hB.trans (bC.mono hB.size)
      replace rB := rB.later bC
      replace hHeld := (⟨below_cell bC hHeld.1, below_cell bC hHeld.2.1, below_cell bC hHeld.2.2.1, below_cell bC hHeld.2.2.2.1, below_cell bC hHeld.2.2.2.2.1, below_cell bC hHeld.2.2.2.2.2⟩ : _ ∧ _ ∧ _ ∧ _ ∧ _ ∧ _)
      clear bC
      go_wp2_with fail
      have E5 : Ents w5 R5 := e5
      clear e5 b5
      refine hKK.out _ _ hHeld ?_
      clear hHeld
      intro hHeld
      clear hKK KK
      try simp only [Act.put, List.setIfInBounds_toArray, List.set_cons_zero, List.set_cons_succ]
      refine wpAnyH_ready (rs := [6]) (by kernel_rfl) (by simp) ?_
      refine cons' rfl (fun KK hKK => ?_)
      go_simp
      refine (G6.out _ bW).mono ?_
      rintro e w6 ⟨p6, q6, rfl, n6, n7⟩
      have bC := n6.below
      replace bW := bW.trans (bC.mono bW.size)
      replace hB := hB.trans (bC.mono hB.size)
      replace rB := rB.later bC
      replace s5 := s5.later bC
      replace E5 := E5.later bC
      replace hHeld := (⟨below_cell bC hHeld.1, below_cell bC hHeld.2.1, below_cell bC hHeld.2.2.1, below_cell bC hHeld.2.2.2.1, below_cell bC hHeld.2.2.2.2.1, below_cell bC hHeld.2.2.2.2.2⟩ : _ ∧ _ ∧ _ ∧ _ ∧ _ ∧ _)
      clear bC
      go_wp2_with fail
      have g6 := n6.seg
      have g7 := n7.seg
      clear n6 n7
      refine hKK.out _ _ hHeld ?_
      clear hHeld
      intro hHeld
      clear hKK KK
      try simp only [Act.put, List.setIfInBounds_toArray, List.set_cons_zero, List.set_cons_succ]
      refine take' 7 (v := ?_) rfl (by kernel_rfl) (by kernel_rfl) (by kernel_rfl) (fun _ _ _ h => h) (Or.inl ⟨by rfl, ?_⟩) (by assumption) ?_
      rotate_left
      · intro w9 hSw
        go_simp
        first | done | with_reducible rfl
      simp only [Act.put, List.setIfInBounds_toArray, List.set_cons_zero, List.set_cons_succ]
      refine wpAnyH_ready (rs := [8]) (by kernel_rfl) (by simp) ?_
      refine cons' rfl (fun KK hKK => ?_)
      have fz := fun o => rB.2.frozen o
      have z0 := rB.1.1
      have z1 := rB.1.2.1
      have z2 := rB.1.2.2.1
      have z3 := rB.1.2.2.2
      replace g6 := rB.seg (u0 := .slice a5 R5.length c5) (u1 := .bool (ng s.num)) (u2 := .slice p6 (ln (am s.num)) (ln (am s.num))) (u3 := .slice q6 (ln s.den) (ln s.den)) (by simp) (by simp) (by simp) (by simp) g6
      replace g7 := rB.seg (u0 := .slice a5 R5.length c5) (u1 := .bool (ng s.num)) (u2 := .slice p6 (ln (am s.num)) (ln (am s.num))) (u3 := .slice q6 (ln s.den) (ln s.den)) (by simp) (by simp) (by simp) (by simp) g7
      have s7 : Sl _ a5 c5 R5 := ⟨rB.fat (u0 := .slice a5 R5.length c5) (u1 := .bool (ng s.num)) (u2 := .slice p6 (ln (am s.num)) (ln (am s.num))) (u3 := .slice q6 (ln s.den) (ln s.den)) (by simp) (by simp) (by simp) (by simp) s5.lies, s5.len, s5.nn⟩
      have E7 : Ents _ R5 := fun p hp => rB.ok (u0 := .slice a5 R5.length c5) (u1 := .bool (ng s.num)) (u2 := .slice p6 (ln (am s.num)) (ln (am s.num))) (u3 := .slice q6 (ln s.den) (ln s.den)) (by simp) (by simp) (by simp) (by simp) (E5 p hp)
      replace hB := below_set4 (u0 := .slice a5 R5.length c5) (u1 := .bool (ng s.num)) (u2 := .slice p6 (ln (am s.num)) (ln (am s.num))) (u3 := .slice q6 (ln s.den) (ln s.den)) hB (show w.heap.size ≤ w.heap.size + 1 by omega)
      have hH2 := (⟨(set4_far (w := w6) (c := w.heap.size + 1) (b := w3.heap.size) (o := 0) (u0 := .slice a5 R5.length c5) (u1 := .bool (ng s.num)) (u2 := .slice p6 (ln (am s.num)) (ln (am s.num))) (u3 := .slice q6 (ln s.den) (ln s.den)) (by omega)).trans hHeld.1, (set4_far (w := w6) (c := w.heap.size + 1) (b := w3.heap.size) (o := 1) (u0 := .slice a5 R5.length c5) (u1 := .bool (ng s.num)) (u2 := .slice p6 (ln (am s.num)) (ln (am s.num))) (u3 := .slice q6 (ln s.den) (ln s.den)) (by omega)).trans hHeld.2.1, (set4_far (w := w6) (c := w.heap.size + 1) (b := w3.heap.size) (o := 2) (u0 := .slice a5 R5.length c5) (u1 := .bool (ng s.num)) (u2 := .slice p6 (ln (am s.num)) (ln (am s.num))) (u3 := .slice q6 (ln s.den) (ln s.den)) (by omega)).trans hHeld.2.2.1, (set4_far (w := w6) (c := w.heap.size + 1) (b := w.heap.size) (o := 1) (u0 := .slice a5 R5.length c5) (u1 := .bool (ng s.num)) (u2 := .slice p6 (ln (am s.num)) (ln (am s.num))) (u3 := .slice q6 (ln s.den) (ln s.den)) (by omega)).trans hHeld.2.2.2.1, (set4_far (w := w6) (c := w.heap.size + 1) (b := w.heap.size) (o := 2) (u0 := .slice a5 R5.length c5) (u1 := .bool (ng s.num)) (u2 := .slice p6 (ln (am s.num)) (ln (am s.num))) (u3 := .slice q6 (ln s.den) (ln s.den)) (by omega)).trans hHeld.2.2.2.2.1, (set4_far (w := w6) (c := w.heap.size + 1) (b := w.heap.size) (o := 3) (u0 := .slice a5 R5.length c5) (u1 := .bool (ng s.num)) (u2 := .slice p6 (ln (am s.num)) (ln (am s.num))) (u3 := .slice q6 (ln s.den) (ln s.den)) (by omega)).trans hHeld.2.2.2.2.2⟩ : _ ∧ _ ∧ _ ∧ _ ∧ _ ∧ _)
      have rD := rB.put (u0 := .slice a5 R5.length c5) (u1 := .bool (ng s.num)) (u2 := .slice p6 (ln (am s.num)) (ln (am s.num))) (u3 := .slice q6 (ln s.den) (ln s.den))
      go_simp
      clear z0 z1 z2 z3 fz rB s5 E5
      refine hKK.out _ _ hH2 ?_
      clear hHeld
      intro hHeld
      clear hKK KK
      try simp only [Act.put, List.setIfInBounds_toArray, List.set_cons_zero, List.set_cons_succ]
      clear hH2
      try unfold set4 at g6
      try unfold set4 at g7
      try unfold set4 at s7
      try unfold set4 at E7
      try unfold set4 at rD
      try unfold set4 at hB
      try unfold set4 at hHeld
      generalize ((((w6.setCell ⟨w.heap.size + 1, 0, none⟩ (.slice a5 R5.length c5)).setCell ⟨w.heap.size + 1, 1, none⟩ (.bool (ng s.num))).setCell ⟨w.heap.size + 1, 2, none⟩ (.slice p6 (ln (am s.num)) (ln (am s.num)))).setCell ⟨w.heap.size + 1, 3, none⟩ (.slice q6 (ln s.den) (ln s.den))) = w7 at g6 g7 s7 E7 rD hB hHeld ⊢
      refine take' 9 (v := ?_) rfl (by kernel_rfl) (by kernel_rfl) (by kernel_rfl) (fun _ _ _ h => h) (Or.inl ⟨by rfl, ?_⟩) (by assumption) ?_
      rotate_left
      · intro w9 hSw
        go_simp
        first | done | with_reducible rfl
      simp only [Act.put, List.setIfInBounds_toArray, List.set_cons_zero, List.set_cons_succ]
      refine wpAnyH_done (by kernel_rfl) ?_ _
      obtain ⟨⟨v0, v1, v2, v3⟩, vR⟩ := rD
      go_wp2
      refine bodyPost_ret (v := .tuple #[.agg #[.slice a5 R5.length c5, .bool (ng s.num), .slice p6 (ln (am s.num)) (ln (am s.num)), .slice q6 (ln s.den) (ln s.den)], .int .i64 0]) (by rw [results_ct rfl]; go_simp) rfl ?_
      rw [← hTT.out, hs]
      exact ⟨a5, c5, R5, p6, q6, rfl, hB, s7, E7, f5, g6, g7⟩
end Go.Proofs.YthpakdmfbbmbiaaGreat
