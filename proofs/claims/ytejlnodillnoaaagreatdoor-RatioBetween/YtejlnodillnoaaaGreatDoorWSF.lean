import Derived.Test.YtejlnodillnoaaaGreatDoorWQ9
import Derived.Test.YtejlnodillnoaaaGreatDoorWQ5
import Derived.Test.YtejlnodillnoaaaGreatDoorWQ6
import Derived.Test.YtejlnodillnoaaaGreatDoorWQ7
import Derived.Test.YtejlnodillnoaaaGreatDoorOpenQ
import Derived.Deep.Slices
import Derived.Test.YtejlnodillnoaaaGreatDoorNumQ
import Derived.Test.YtejlnodillnoaaaGreatDoorWQ2
import Derived.Test.YtejlnodillnoaaaGreatDoorWI2
import Derived.Test.YtejlnodillnoaaaGreatDoorWQB
import Derived.Test.YtejlnodillnoaaaGreatDoorWQ3
import Derived.Test.YtejlnodillnoaaaGreatDoorWQA
import Derived.Test.YtejlnodillnoaaaGreatDoorWQG
import Derived.Test.YtejlnodillnoaaaGreatDoorWQH
import Derived.Test.YtejlnodillnoaaaGreatDoorRegS
set_option linter.unusedSimpArgs false
namespace Go.Proofs.YtejlnodillnoaaaGreatDoor
open Go.RowKit
set_option linter.unusedVariables false
theorem low_of2 {N D Z : Int} {V : Nat} (h : Low N D Z V) : Low (rn (ng N != ng D) (am N) (am D)) ((rd (am D) : Nat) : Int) Z V := by
  have hD : am D ≠ 0 := fun e => h.ne (am_eq_zero.1 e)
  rw [rn_of hD, rd_of hD]
  refine h.congr (by omega) ?_
  unfold sg ng am
  rcases Int.lt_or_le N 0 with h1 | h1 <;> rcases Int.lt_or_le D 0 with h2 | h2
  · rw [show decide (N < 0) = true by simpa using h1, show decide (D < 0) = true by simpa using h2]
    simp only [bne_self_eq_false, Bool.false_eq_true, if_false]
    rw [show ((N.natAbs : Nat) : Int) = -N by omega, show ((D.natAbs : Nat) : Int) = -D by omega]; grind
  · rw [show decide (N < 0) = true by simpa using h1, show decide (D < 0) = false by simpa using h2]
    simp only [show (true != false) = true from rfl, if_true]
    rw [show ((N.natAbs : Nat) : Int) = -N by omega, show ((D.natAbs : Nat) : Int) = D by omega]; grind
  · rw [show decide (N < 0) = false by simpa using h1, show decide (D < 0) = true by simpa using h2]
    simp only [show (false != true) = true from rfl, if_true]
    rw [show ((N.natAbs : Nat) : Int) = N by omega, show ((D.natAbs : Nat) : Int) = -D by omega]; grind
  · rw [show decide (N < 0) = false by simpa using h1, show decide (D < 0) = false by simpa using h2]
    simp only [bne_self_eq_false, Bool.false_eq_true, if_false]
    rw [show ((N.natAbs : Nat) : Int) = N by omega, show ((D.natAbs : Nat) : Int) = D by omega]
set_option maxHeartbeats 2000000 in
set_option maxRecDepth 100000 in
theorem vqOf_is (s : Bool) (ao : Option Addr) (n cap X : Nat) (t : Bool) (ao2 : Option Addr) (m cap2 Y V : Nat) (Z : Int) (w : World) (hm : n ≤ 70368744177350) (hS : Seg w ao X n) (hm2 : m ≤ 70368744177350) (hS2 : Seg w ao2 Y m) (hL : Low (sg s X) (sg t Y) Z V) :
    Calls Tryz.prog 74 #[.agg #[.bool s, .slice ao n cap], .agg #[.bool t, .slice ao2 m cap2]] w fun e w' => ∃ p q, e = .returned (.tuple #[.agg #[.bool (ng Z), .slice p (ln (am Z)) (ln (am Z)), .slice q (ln V) (ln V)], .int .i64 0]) ∧ New w w' p (am Z) (ln (am Z)) ∧ New w w' q V (ln V) := by
  obtain ⟨N, hN⟩ : ∃ N, sg s X = N := ⟨_, rfl⟩
  obtain ⟨D, hD⟩ : ∃ D, sg t Y = D := ⟨_, rfl⟩
  rw [hN, hD] at hL
  have lN : ln (am N) ≤ n := by rw [← hN, am_sg]; exact ln_le_of_lt hS.1
  have lD : ln (am D) ≤ m := by rw [← hD, am_sg]; exact ln_le_of_lt hS2.1
  have hb : (((ln (am D) : Nat) : Int) == 0) = false := by
    rw [beq_eq_false_iff_ne]
    have h1 : am D ≠ 0 := fun e => hL.ne (am_eq_zero.1 e)
    have := mt ln_eq_zero.1 h1
    omega
  have hL2 : Low (rn (!(ng N == ng D)) (am N) (am D)) ((rd (am D) : Nat) : Int) Z V := low_of2 hL
  have H1 := hide' (fun w' k => vNorm_is s ao n cap X N w' (by omega) k hN)
  have H2 := hide' (fun w' k => vNorm_is t ao2 m cap2 Y D w' (by omega) k hD)
  have H3 := hide' (fun w' p q k1 k2 => vqNorm_is (!(ng N == ng D)) p (ln (am N)) (ln (am N)) (am N) q (ln (am D)) (ln (am D)) (am D) V Z w' (by omega) k1 (by omega) k2 hL2)
  clear hN hD hL hL2
  go_enter Tryz.func74, Tryz.ntmps74
  go_wp2_with fail
  obtain ⟨W, hW⟩ : ∃ W, (((w.alloc (.cells #[.bool s, .slice ao n cap] 25)).alloc (.cells #[.bool t, .slice ao2 m cap2] 25)).alloc (.cells #[.bool false, .slice none 0 0, .slice none 0 0] 27)) = W := ⟨_, rfl⟩
  have q00 : W.cell? ⟨w.heap.size, 0, none⟩ = some (.bool s) := by subst hW; go_simp
  have q01 : W.cell? ⟨w.heap.size, 1, none⟩ = some (.slice ao n cap) := by subst hW; go_simp
  have q10 : W.cell? ⟨w.heap.size + 1, 0, none⟩ = some (.bool t) := by subst hW; go_simp
  have q11 : W.cell? ⟨w.heap.size + 1, 1, none⟩ = some (.slice ao2 m cap2) := by subst hW; go_simp
  have r00 : W.cell? ⟨w.heap.size + 1 + 1, 0, none⟩ = some (.bool false) := by subst hW; go_simp
  have r01 : W.cell? ⟨w.heap.size + 1 + 1, 1, none⟩ = some (.slice none 0 0) := by subst hW; go_simp
  have r02 : W.cell? ⟨w.heap.size + 1 + 1, 2, none⟩ = some (.slice none 0 0) := by subst hW; go_simp
  have hB : Below w.heap.size w W := by subst hW; exact ((((Below.refl _ _).alloc (by (try simp only [World.size_alloc]); omega) _).alloc (by (try simp only [World.size_alloc]); omega) _).alloc (by (try simp only [World.size_alloc]); omega) _)
  have hR0 : Row W (w.heap.size + 1 + 1) := by
    have := row_new (((w.alloc (.cells #[.bool s, .slice ao n cap] 25)).alloc (.cells #[.bool t, .slice ao2 m cap2] 25))) #[.bool false, .slice none 0 0, .slice none 0 0] 27
    try simp only [World.size_alloc] at this
    subst hW; exact this
  have hz : W.heap.size = w.heap.size + 1 + 1 + 1 := by subst hW; simp only [World.size_alloc]
  rw [hW]
  clear hW
  have hBW : Below W.heap.size W W := Below.refl _ _
  refine (H1.out _ (sb hS hB hBW)).mono ?_
  rintro e w1 ⟨a1, rfl, h1⟩
  have b1 := h1.below
  replace h1 := h1.back hBW
  replace hBW := hBW.trans (b1.mono hBW.size)
  replace q00 := below_cell b1 q00
  replace q01 := below_cell b1 q01
  replace q10 := below_cell b1 q10
  replace q11 := below_cell b1 q11
  replace r00 := below_cell b1 r00
  replace r01 := below_cell b1 r01
  replace r02 := below_cell b1 r02
  replace hR0 := below_row b1 hR0
  have hsz1 := hBW.size
  have hlt1hR0 := hR0.lt
  have l100 : ((w1.alloc (.cells #[.bool (ng N), .slice a1 (ln (am N)) (ln (am N))] 25))).cell? ⟨w1.heap.size, 0, none⟩ = some (.bool (ng N)) := by go_simp
  have l101 : ((w1.alloc (.cells #[.bool (ng N), .slice a1 (ln (am N)) (ln (am N))] 25))).cell? ⟨w1.heap.size, 1, none⟩ = some (.slice a1 (ln (am N)) (ln (am N))) := by go_simp
  have cb1 : Below w1.heap.size w1 ((w1.alloc (.cells #[.bool (ng N), .slice a1 (ln (am N)) (ln (am N))] 25))) := ((Below.refl _ _).alloc (by (try simp only [World.size_alloc]); omega) _)
  replace hBW := hBW.trans (cb1.mono hBW.size)
  replace q00 := below_cell cb1 q00
  replace q01 := below_cell cb1 q01
  replace q10 := below_cell cb1 q10
  replace q11 := below_cell cb1 q11
  replace r00 := below_cell cb1 r00
  replace r01 := below_cell cb1 r01
  replace r02 := below_cell cb1 r02
  replace hR0 := below_row cb1 hR0
  replace h1 := h1.later cb1
  have hL10 : Row ((w1.alloc (.cells #[.bool (ng N), .slice a1 (ln (am N)) (ln (am N))] 25))) (w1.heap.size) := by
    have := row_new (w1) #[.bool (ng N), .slice a1 (ln (am N)) (ln (am N))] 25
    try simp only [World.size_alloc] at this
    exact this
  go_wp2_with fail
  generalize (w1.alloc (.cells #[.bool (ng N), .slice a1 (ln (am N)) (ln (am N))] 25)) = w1x at q00 q01 q10 q11 r00 r01 r02 l100 l101 hR0 hL10 h1 hBW cb1 ⊢
  clear cb1
  refine (H2.out _ (sb hS2 hB hBW)).mono ?_
  rintro e w2 ⟨a2, rfl, h2⟩
  have b2 := h2.below
  replace h2 := h2.back hBW
  replace hBW := hBW.trans (b2.mono hBW.size)
  replace q00 := below_cell b2 q00
  replace q01 := below_cell b2 q01
  replace q10 := below_cell b2 q10
  replace q11 := below_cell b2 q11
  replace r00 := below_cell b2 r00
  replace r01 := below_cell b2 r01
  replace r02 := below_cell b2 r02
  replace l100 := below_cell b2 l100
  replace l101 := below_cell b2 l101
  replace hR0 := below_row b2 hR0
  replace hL10 := below_row b2 hL10
  replace h1 := h1.later b2
  have hsz2 := hBW.size
  have hlt2hR0 := hR0.lt
  have hlt2hL10 := hL10.lt
  have l200 : ((w2.alloc (.cells #[.bool (ng D), .slice a2 (ln (am D)) (ln (am D))] 25))).cell? ⟨w2.heap.size, 0, none⟩ = some (.bool (ng D)) := by go_simp
  have l201 : ((w2.alloc (.cells #[.bool (ng D), .slice a2 (ln (am D)) (ln (am D))] 25))).cell? ⟨w2.heap.size, 1, none⟩ = some (.slice a2 (ln (am D)) (ln (am D))) := by go_simp
  have cb2 : Below w2.heap.size w2 ((w2.alloc (.cells #[.bool (ng D), .slice a2 (ln (am D)) (ln (am D))] 25))) := ((Below.refl _ _).alloc (by (try simp only [World.size_alloc]); omega) _)
  replace hBW := hBW.trans (cb2.mono hBW.size)
  replace q00 := below_cell cb2 q00
  replace q01 := below_cell cb2 q01
  replace q10 := below_cell cb2 q10
  replace q11 := below_cell cb2 q11
  replace r00 := below_cell cb2 r00
  replace r01 := below_cell cb2 r01
  replace r02 := below_cell cb2 r02
  replace l100 := below_cell cb2 l100
  replace l101 := below_cell cb2 l101
  replace hR0 := below_row cb2 hR0
  replace hL10 := below_row cb2 hL10
  replace h1 := h1.later cb2
  replace h2 := h2.later cb2
  have hL20 : Row ((w2.alloc (.cells #[.bool (ng D), .slice a2 (ln (am D)) (ln (am D))] 25))) (w2.heap.size) := by
    have := row_new (w2) #[.bool (ng D), .slice a2 (ln (am D)) (ln (am D))] 25
    try simp only [World.size_alloc] at this
    exact this
  go_wp2_with fail
  generalize (w2.alloc (.cells #[.bool (ng D), .slice a2 (ln (am D)) (ln (am D))] 25)) = w2x at q00 q01 q10 q11 r00 r01 r02 l100 l101 l200 l201 hR0 hL10 hL20 h1 h2 hBW cb2 ⊢
  clear cb2
  refine (H3.out _ a1 a2 h1.seg h2.seg).mono ?_
  rintro e w3 ⟨p3, q3, rfl, hp3, hq3⟩
  have b3 := hp3.below
  replace hp3 := hp3.back hBW
  replace hq3 := hq3.back hBW
  replace hBW := hBW.trans (b3.mono hBW.size)
  replace q00 := below_cell b3 q00
  replace q01 := below_cell b3 q01
  replace q10 := below_cell b3 q10
  replace q11 := below_cell b3 q11
  replace r00 := below_cell b3 r00
  replace r01 := below_cell b3 r01
  replace r02 := below_cell b3 r02
  replace l100 := below_cell b3 l100
  replace l101 := below_cell b3 l101
  replace l200 := below_cell b3 l200
  replace l201 := below_cell b3 l201
  replace hR0 := below_row b3 hR0
  replace hL10 := below_row b3 hL10
  replace hL20 := below_row b3 hL20
  replace h1 := h1.later b3
  replace h2 := h2.later b3
  have fz0 := fun o => hR0.frozen o
  go_wp2
  all_goals refine bodyPost_ret (v := .tuple #[Value.agg #[Value.bool (ng Z), Value.slice p3 (ln (am Z)) (ln (am Z)), Value.slice q3 (ln V) (ln V)], .int .i64 0]) (by rw [results_ct rfl]; go_simp) rfl ?_
  all_goals exact ⟨p3, q3, rfl, hp3.mid hB (((((Mid.refl _ _ _).set _ _ (by omega) (by omega) _).set _ _ (by omega) (by omega) _).set _ _ (by omega) (by omega) _)), hq3.mid hB (((((Mid.refl _ _ _).set _ _ (by omega) (by omega) _).set _ _ (by omega) (by omega) _).set _ _ (by omega) (by omega) _))⟩
set_option maxHeartbeats 4000000 in
set_option maxRecDepth 100000 in
theorem vqInv_is (s0 : Bool) (a0 : Option Addr) (n0 c0 X0 : Nat) (b0 : Option Addr) (m0 d0 Y0 : Nat) (Z : Int) (V : Nat) (w : World) (hc0 : n0 ≤ c0) (hm0 : n0 ≤ 35184372088010) (hS0 : Seg w a0 X0 n0) (hd0 : m0 ≤ d0) (hk0 : m0 ≤ 35184372088010) (hT0 : Seg w b0 Y0 m0) (hL : Low (rd Y0 : Nat) (rn s0 X0 Y0) Z V) :
    Calls Tryz.prog 38 #[Value.agg #[Value.bool s0, Value.slice a0 n0 c0, Value.slice b0 m0 d0]] w fun e w' => ∃ p q, e = .returned (.tuple #[.agg #[.bool (ng Z), .slice p (ln (am Z)) (ln (am Z)), .slice q (ln V) (ln V)], .int .i64 0]) ∧ New w w' p (am Z) (ln (am Z)) ∧ New w w' q V (ln V) := by
  obtain ⟨Z1, V1, h1⟩ := low_ex (rn s0 X0 Y0) (rd Y0 : Nat) (rd_ne Y0)
  obtain ⟨lZ, lV⟩ := low_ln hS0.1 hT0.1 h1
  have G1 := hide' h1
  have h2 : Low (sg false V1) (sg (ng Z1) (am Z1)) Z V := by
    rw [sg_na]
    refine hL.congr (fun e => hL.ne ?_) ?_
    · have := h1.eq
      rw [e, Int.zero_mul] at this
      rcases Int.mul_eq_zero.1 this.symm with k | k
      · exact k
      · have := h1.pos; omega
    · have := h1.eq
      show ((rd Y0 : Nat) : Int) * Z1 = (V1 : Int) * rn s0 X0 Y0
      grind
  have HO := hide' (fun w' p q k1 k2 => vqOf_is false q (ln V1) (ln V1) V1 (ng Z1) p (ln (am Z1)) (ln (am Z1)) (am Z1) V Z w' (by omega) k1 (by omega) k2 h2)
  clear hL h1 h2
  go_enter Tryz.func38, Tryz.ntmps38
  go_wp2_with fail
  obtain ⟨W, hW⟩ : ∃ W, ((w.alloc (.cells #[.bool s0, .slice a0 n0 c0, .slice b0 m0 d0] 27)).alloc (.cells #[.bool false, .slice none 0 0, .slice none 0 0] 27)) = W := ⟨_, rfl⟩
  have q00 : W.cell? ⟨w.heap.size, 0, none⟩ = some (.bool s0) := by subst hW; go_simp
  have q01 : W.cell? ⟨w.heap.size, 1, none⟩ = some (.slice a0 n0 c0) := by subst hW; go_simp
  have q02 : W.cell? ⟨w.heap.size, 2, none⟩ = some (.slice b0 m0 d0) := by subst hW; go_simp
  have r00 : W.cell? ⟨w.heap.size + 1, 0, none⟩ = some (.bool false) := by subst hW; go_simp
  have r01 : W.cell? ⟨w.heap.size + 1, 1, none⟩ = some (.slice none 0 0) := by subst hW; go_simp
  have r02 : W.cell? ⟨w.heap.size + 1, 2, none⟩ = some (.slice none 0 0) := by subst hW; go_simp
  have hB : Below w.heap.size w W := by subst hW; exact (((Below.refl _ _).alloc (by (try simp only [World.size_alloc]); omega) _).alloc (by (try simp only [World.size_alloc]); omega) _)
  have hR0 : Row W (w.heap.size + 1) := by
    have := row_new ((w.alloc (.cells #[.bool s0, .slice a0 n0 c0, .slice b0 m0 d0] 27))) #[.bool false, .slice none 0 0, .slice none 0 0] 27
    try simp only [World.size_alloc] at this
    subst hW; exact this
  have hP0 : Row W (w.heap.size) := by
    have := row_new (w) #[.bool s0, .slice a0 n0 c0, .slice b0 m0 d0] 27
    try simp only [World.size_alloc] at this
    subst hW; exact (this.alloc _)
  have hz : W.heap.size = w.heap.size + 1 + 1 := by subst hW; simp only [World.size_alloc]
  rw [hW]
  clear hW
  have hBW : Below W.heap.size W W := Below.refl _ _
  refine (vqNorm_is s0 a0 n0 c0 X0 b0 m0 d0 Y0 V1 Z1 _ (by omega) (sb hS0 hB hBW) (by omega) (sb hT0 hB hBW) G1.out).mono ?_
  rintro e w41 ⟨p41, q41, rfl, hp41, hq41⟩
  have b41 := hp41.below
  replace hp41 := hp41.back hBW
  replace hq41 := hq41.back hBW
  replace hBW := hBW.trans (b41.mono hBW.size)
  replace q00 := below_cell b41 q00
  replace q01 := below_cell b41 q01
  replace q02 := below_cell b41 q02
  replace r00 := below_cell b41 r00
  replace r01 := below_cell b41 r01
  replace r02 := below_cell b41 r02
  replace hR0 := below_row b41 hR0
  replace hP0 := below_row b41 hP0
  have hsB := hBW.size
  have hM : Mid w.heap.size W.heap.size w41 (((w41.setCell ⟨w.heap.size, 0, none⟩ (.bool (ng Z1))).setCell ⟨w.heap.size, 1, none⟩ (.slice p41 (ln (am Z1)) (ln (am Z1)))).setCell ⟨w.heap.size, 2, none⟩ (.slice q41 (ln V1) (ln V1))) := ((((Mid.refl _ _ _).set _ _ (by omega) (by omega) _).set _ _ (by omega) (by omega) _).set _ _ (by omega) (by omega) _)
  have eM := set3_same (w := w41) (c := w.heap.size) (u0 := .bool (ng Z1)) (u1 := .slice p41 (ln (am Z1)) (ln (am Z1))) (u2 := .slice q41 (ln V1) (ln V1)) q00 q01 q02
  have q00_ : ((((w41.setCell ⟨w.heap.size, 0, none⟩ (.bool (ng Z1))).setCell ⟨w.heap.size, 1, none⟩ (.slice p41 (ln (am Z1)) (ln (am Z1)))).setCell ⟨w.heap.size, 2, none⟩ (.slice q41 (ln V1) (ln V1)))).cell? ⟨w.heap.size, 0, none⟩ = some (.bool (ng Z1)) := eM.1
  have q01_ : ((((w41.setCell ⟨w.heap.size, 0, none⟩ (.bool (ng Z1))).setCell ⟨w.heap.size, 1, none⟩ (.slice p41 (ln (am Z1)) (ln (am Z1)))).setCell ⟨w.heap.size, 2, none⟩ (.slice q41 (ln V1) (ln V1)))).cell? ⟨w.heap.size, 1, none⟩ = some (.slice p41 (ln (am Z1)) (ln (am Z1))) := eM.2.1
  have q02_ : ((((w41.setCell ⟨w.heap.size, 0, none⟩ (.bool (ng Z1))).setCell ⟨w.heap.size, 1, none⟩ (.slice p41 (ln (am Z1)) (ln (am Z1)))).setCell ⟨w.heap.size, 2, none⟩ (.slice q41 (ln V1) (ln V1)))).cell? ⟨w.heap.size, 2, none⟩ = some (.slice q41 (ln V1) (ln V1)) := eM.2.2
  have r00_ : ((((w41.setCell ⟨w.heap.size, 0, none⟩ (.bool (ng Z1))).setCell ⟨w.heap.size, 1, none⟩ (.slice p41 (ln (am Z1)) (ln (am Z1)))).setCell ⟨w.heap.size, 2, none⟩ (.slice q41 (ln V1) (ln V1)))).cell? ⟨w.heap.size + 1, 0, none⟩ = some (.bool false) := (set3_far (by omega)).trans r00
  have r01_ : ((((w41.setCell ⟨w.heap.size, 0, none⟩ (.bool (ng Z1))).setCell ⟨w.heap.size, 1, none⟩ (.slice p41 (ln (am Z1)) (ln (am Z1)))).setCell ⟨w.heap.size, 2, none⟩ (.slice q41 (ln V1) (ln V1)))).cell? ⟨w.heap.size + 1, 1, none⟩ = some (.slice none 0 0) := (set3_far (by omega)).trans r01
  have r02_ : ((((w41.setCell ⟨w.heap.size, 0, none⟩ (.bool (ng Z1))).setCell ⟨w.heap.size, 1, none⟩ (.slice p41 (ln (am Z1)) (ln (am Z1)))).setCell ⟨w.heap.size, 2, none⟩ (.slice q41 (ln V1) (ln V1)))).cell? ⟨w.heap.size + 1, 2, none⟩ = some (.slice none 0 0) := (set3_far (by omega)).trans r02
  have hR0_ := (((hR0.setCell ⟨w.heap.size, 0, none⟩ (.bool (ng Z1))).setCell ⟨w.heap.size, 1, none⟩ (.slice p41 (ln (am Z1)) (ln (am Z1)))).setCell ⟨w.heap.size, 2, none⟩ (.slice q41 (ln V1) (ln V1)))
  have fzhR0 := fun o => hR0.frozen o
  have hP0_ := (((hP0.setCell ⟨w.heap.size, 0, none⟩ (.bool (ng Z1))).setCell ⟨w.heap.size, 1, none⟩ (.slice p41 (ln (am Z1)) (ln (am Z1)))).setCell ⟨w.heap.size, 2, none⟩ (.slice q41 (ln V1) (ln V1)))
  have fzhP0 := fun o => hP0.frozen o
  have khp41 := (hp41.mid hB hM).seg
  clear hp41
  have khq41 := (hq41.mid hB hM).seg
  clear hq41
  have hBn := (hB.trans (hBW.mono hB.size)).trans (hM.below (Nat.le_trans hB.size hBW.size))
  have hsM := hM.size
  clear hM eM
  go_wp2_with fail
  clear q00 q01 q02 r00 r01 r02 hR0 hP0 fzhR0 fzhP0 hB hBW
  generalize (((w41.setCell ⟨w.heap.size, 0, none⟩ (.bool (ng Z1))).setCell ⟨w.heap.size, 1, none⟩ (.slice p41 (ln (am Z1)) (ln (am Z1)))).setCell ⟨w.heap.size, 2, none⟩ (.slice q41 (ln V1) (ln V1))) = w41y at q00_ q01_ q02_ r00_ r01_ r02_ hR0_ hP0_ khp41 khq41 hBn hsM ⊢
  have q00 := q00_
  clear q00_
  have q01 := q01_
  clear q01_
  have q02 := q02_
  clear q02_
  have r00 := r00_
  clear r00_
  have r01 := r01_
  clear r01_
  have r02 := r02_
  clear r02_
  have hR0 := hR0_
  clear hR0_
  have hP0 := hP0_
  clear hP0_
  have hB := hBn
  clear hBn
  have hBW : Below w41y.heap.size w41y w41y := Below.refl _ _
  replace hBW := hBW.drew
  replace khp41 := khp41.drew
  replace khq41 := khq41.drew
  first
    | go_region_held3 (fun w' => w'.cell? ⟨w.heap.size, 0, none⟩ = some (.bool (ng Z1)) ∧ w'.cell? ⟨w.heap.size, 1, none⟩ = some (.slice p41 (ln (am Z1)) (ln (am Z1))) ∧ w'.cell? ⟨w.heap.size, 2, none⟩ = some (.slice q41 (ln V1) (ln V1)) ∧ Below w.heap.size w w')
        (first | exact ⟨q00, q01, q02, hB.trans (hBW.mono hB.size)⟩ | exact kp3 b42 (by assumption) | exact kp3 b43 (by assumption) | exact kp3 (below_alloc _) (by assumption) | exact kp3 (below_alloc _) ⟨q00, q01, q02, hB.trans (hBW.mono hB.size)⟩ | exact kpT3_3 (by assumption) (by omega) (by omega) (by omega) (by omega))
        (first
          | (go_at_call 60; refine (positive_is q41 (ln V1) (ln V1) _).mono ?_; rintro e w42 ⟨rfl, b42⟩; replace hBW := hBW.trans (b42.mono hBW.size); replace q00 := below_cell b42 q00; replace q01 := below_cell b42 q01; replace q02 := below_cell b42 q02; replace r00 := below_cell b42 r00; replace r01 := below_cell b42 r01; replace r02 := below_cell b42 r02; replace hR0 := below_row b42 hR0; replace hP0 := below_row b42 hP0; replace khp41 := khp41.later b42; replace khq41 := khq41.later b42)
          | (go_at_call 74; (fail_if_success clear b43); refine (HO.out _ p41 q41 khq41 khp41).mono ?_; rintro e w43 ⟨p43, q43, rfl, hp43, hq43⟩; have b43 := hp43.below; replace hp43 := hp43.back hBW; replace hq43 := hq43.back hBW; replace hBW := hBW.trans (b43.mono hBW.size); replace q00 := below_cell b43 q00; replace q01 := below_cell b43 q01; replace q02 := below_cell b43 q02; replace r00 := below_cell b43 r00; replace r01 := below_cell b43 r01; replace r02 := below_cell b43 r02; replace hR0 := below_row b43 hR0; replace hP0 := below_row b43 hP0; replace khp41 := khp41.later b43; replace khq41 := khq41.later b43; have fz := fun o => hR0.frozen o))
    | fail
  have fz0 := fun o => hR0.frozen o
  go_wp2
  all_goals refine bodyPost_ret (v := .tuple #[Value.agg #[Value.bool (ng Z), Value.slice p43 (ln (am Z)) (ln (am Z)), Value.slice q43 (ln V) (ln V)], .int .i64 0]) (by rw [results_ct rfl]; go_simp) rfl ?_
  all_goals exact ⟨p43, q43, rfl, hp43.mid hB (((((Mid.refl _ _ _).set _ _ (by omega) (by omega) _).set _ _ (by omega) (by omega) _).set _ _ (by omega) (by omega) _)), hq43.mid hB (((((Mid.refl _ _ _).set _ _ (by omega) (by omega) _).set _ _ (by omega) (by omega) _).set _ _ (by omega) (by omega) _))⟩
theorem none_is (w : World) : Calls Tryz.prog 11 #[.agg #[.bool false, .slice none 0 0, .slice none 0 0]] w fun e w' => e = .returned (.bool true) ∧ Below w.heap.size w w' := by
  go_enter Tryz.func11, Tryz.ntmps11
  have hB : Below w.heap.size w (w.alloc (.cells #[.bool false, .slice none 0 0, .slice none 0 0] 27)) := below_alloc _
  go_wp2
  go_ret
  exact ⟨rfl, hB⟩
theorem seg_setT {w : World} {p : Option Addr} {X n c o : Nat} {u z : Value} (h : Seg w p X n) (hc : w.cell? ⟨c, o, none⟩ = some z) (hz : ∀ i, z ≠ .int .u32 i) : Seg (w.setCell ⟨c, o, none⟩ u) p X n := by
  refine ⟨h.1, fun hn => ?_⟩
  obtain ⟨b, off, rfl, hb, hcell⟩ := h.2 hn
  refine ⟨b, off, rfl, by simpa [World.setCell] using hb, fun i hi => ?_⟩
  have h1 := hcell i hi
  rw [World.cell?_setCell_other _ _ _ _ (fun e => ?_)]
  · exact h1
  · rw [← e, hc] at h1
    simp only [Option.some.injEq] at h1
    exact hz _ h1
def Thr (w : World) (c : Nat) (u0 u1 u2 : Value) : Prop :=
  (w.cell? ⟨c, 0, none⟩ = some u0 ∧ w.cell? ⟨c, 1, none⟩ = some u1 ∧ w.cell? ⟨c, 2, none⟩ = some u2) ∧ Row w c
theorem Thr.later {w w' : World} {c : Nat} {u0 u1 u2 : Value} (h : Thr w c u0 u1 u2) (hb : Below w.heap.size w w') : Thr w' c u0 u1 u2 :=
  ⟨⟨below_cell hb h.1.1, below_cell hb h.1.2.1, below_cell hb h.1.2.2⟩, below_row hb h.2⟩
abbrev set3 (w : World) (c : Nat) (u0 u1 u2 : Value) : World := ((w.setCell ⟨c, 0, none⟩ u0).setCell ⟨c, 1, none⟩ u1).setCell ⟨c, 2, none⟩ u2
theorem Thr.put {w : World} {c : Nat} {u0 u1 u2 z0 z1 z2 : Value} (h : Thr w c z0 z1 z2) : Thr (set3 w c u0 u1 u2) c u0 u1 u2 :=
  ⟨set3_same h.1.1 h.1.2.1 h.1.2.2, ((h.2.setCell _ _).setCell _ _).setCell _ _⟩
theorem Thr.far {w : World} {c r : Nat} {u0 u1 u2 z0 z1 z2 : Value} (h : Thr w r z0 z1 z2) (hne : c ≠ r) : Thr (set3 w c u0 u1 u2) r z0 z1 z2 :=
  ⟨⟨by rw [set3_far hne]; exact h.1.1, by rw [set3_far hne]; exact h.1.2.1, by rw [set3_far hne]; exact h.1.2.2⟩, ((h.2.setCell _ _).setCell _ _).setCell _ _⟩
theorem Thr.seg {w : World} {c : Nat} {u0 u1 u2 z0 z1 z2 : Value} (h : Thr w c z0 z1 z2) (k0 : ∀ i, z0 ≠ .int .u32 i) (k1 : ∀ i, z1 ≠ .int .u32 i) (k2 : ∀ i, z2 ≠ .int .u32 i) {p : Option Addr} {X n : Nat} (hS : Seg w p X n) : Seg (set3 w c u0 u1 u2) p X n := by
  refine seg_setT (z := z2) (seg_setT (z := z1) (seg_setT (z := z0) hS h.1.1 k0) ?_ k1) ?_ k2
  · rw [World.cell?_setCell_other _ _ _ _ (fun e => by simp at e)]; exact h.1.2.1
  · rw [World.cell?_setCell_other _ _ _ _ (fun e => by simp at e), World.cell?_setCell_other _ _ _ _ (fun e => by simp at e)]; exact h.1.2.2
theorem below_set3 {B : Nat} {w w' : World} {c : Nat} {u0 u1 u2 : Value} (h : Below B w w') (hc : B ≤ c) : Below B w (set3 w' c u0 u1 u2) := ((h.setCell hc _).setCell hc _).setCell hc _
set_option maxHeartbeats 2000000 in
set_option maxRecDepth 100000 in
theorem vqInt_is (z : Int) (p0 : Option Addr) (w : World) (lz : ln (am z) ≤ 35184372088000) (hS : Seg w p0 (am z) (ln (am z))) :
    Calls Tryz.prog 31 #[.agg #[.bool (ng z), .slice p0 (ln (am z)) (ln (am z))]] w fun e w' => ∃ p q, e = .returned (.agg #[.bool (ng z), .slice p (ln (am z)) (ln (am z)), .slice q (ln 1) (ln 1)]) ∧ New w w' p (am z) (ln (am z)) ∧ New w w' q 1 (ln 1) := by
  have hL : Low (rn (ng z) (am z) 1) ((rd 1 : Nat) : Int) z 1 := Low.nf (Low.self (by omega) (by simp)) (by omega)
  obtain ⟨V, hV⟩ : ∃ V : Nat, 1 = V := ⟨_, rfl⟩
  have P2 : ∀ w' p q, Seg w' p (am z) (ln (am z)) → Seg w' q 1 1 → Calls Tryz.prog 14 #[.agg #[.bool (ng z), .slice p (ln (am z)) (ln (am z)), .slice q 1 1]] w' fun e w'' => ∃ p q, e = .returned (.agg #[.bool (ng z), .slice p (ln (am z)) (ln (am z)), .slice q (ln V) (ln V)]) ∧ New w' w'' p (am z) (ln (am z)) ∧ New w' w'' q V (ln V) := fun w' p q k1 k2 => by
    subst hV
    exact vqNorm_is (ng z) p (ln (am z)) (ln (am z)) (am z) q 1 1 1 1 z w' (by omega) k1 (by omega) k2 hL
  have H2 := hide' P2
  rw [show ln 1 = ln V by rw [hV]]
  have e1 : ∀ w' q, New w w' q 1 (ln V) ↔ New w w' q V (ln V) := fun w' q => by rw [← hV]
  simp only [e1]
  clear P2 hL hV e1
  have bA := (below_alloc (w := w) (.cells #[.bool (ng z), .slice p0 (ln (am z)) (ln (am z))] 25)).alloc (by simp) (.cells #[.bool false, .slice none 0 0, .slice none 0 0] 27)
  have n9 := single_new ((w.alloc (.cells #[.bool (ng z), .slice p0 (ln (am z)) (ln (am z))] 25)).alloc (.cells #[.bool false, .slice none 0 0, .slice none 0 0] 27)) 1 60 1 (by omega) rfl
  simp only [World.size_alloc] at n9
  have bB := n9.below
  have v9 : Thr ((w.alloc (.cells #[.bool (ng z), .slice p0 (ln (am z)) (ln (am z))] 25)).alloc (.cells #[.bool false, .slice none 0 0, .slice none 0 0] 27)) (w.heap.size + 1) (.bool false) (.slice none 0 0) (.slice none 0 0) :=
    ⟨⟨by go_simp, by go_simp, by go_simp⟩, by have := row_new (w.alloc (.cells #[.bool (ng z), .slice p0 (ln (am z)) (ln (am z))] 25)) #[.bool false, .slice none 0 0, .slice none 0 0] 27; rwa [World.size_alloc] at this⟩
  have v8 := v9.later bB
  have b8 := bA.trans (bB.mono bA.size)
  have G2 := hide' (H2.out _ p0 _ ((hS.later bA).later bB) n9.seg)
  clear H2 v9 bA bB n9 hS
  go_enter Tryz.func31, Tryz.ntmps31
  go_wp2_with (go_at_call 14; refine G2.out.mono ?_; rintro e w2 ⟨p, q, rfl, hp, hq⟩; have v7 := v8.later hp.below; have b7 := b8.trans (hp.below.mono b8.size); replace hp := hp.back b8; replace hq := hq.back b8; clear G2 v8 b8; have z0 := v7.1.1; have z1 := v7.1.2.1; have z2 := v7.1.2.2; have fz := fun o => v7.2.frozen o)
  have v6 := v7.put (u0 := .bool (ng z)) (u1 := .slice p (ln (am z)) (ln (am z))) (u2 := .slice q (ln V) (ln V))
  have s1 := v7.seg (u0 := .bool (ng z)) (u1 := .slice p (ln (am z)) (ln (am z))) (u2 := .slice q (ln V) (ln V)) (by simp) (by simp) (by simp) hp.seg
  have s2 := v7.seg (u0 := .bool (ng z)) (u1 := .slice p (ln (am z)) (ln (am z))) (u2 := .slice q (ln V) (ln V)) (by simp) (by simp) (by simp) hq.seg
  have b6 := below_set3 (c := w.heap.size + 1) (u0 := .bool (ng z)) (u1 := .slice p (ln (am z)) (ln (am z))) (u2 := .slice q (ln V) (ln V)) b7 (by omega)
  clear z0 z1 z2 fz
  have z0 := v6.1.1
  have z1 := v6.1.2.1
  have z2 := v6.1.2.2
  unfold set3 at z0 z1 z2
  refine bodyPost_ret (v := .agg #[.bool (ng z), .slice p (ln (am z)) (ln (am z)), .slice q (ln V) (ln V)]) (by rw [results_cell rfl]; go_simp) rfl ?_
  exact ⟨p, q, rfl, ⟨s1, b6, fun hn => by obtain ⟨b, off, e, hl, hr⟩ := hp.fresh hn; exact ⟨b, off, e, hl, ((hr.setCell _ _).setCell _ _).setCell _ _⟩⟩, ⟨s2, b6, fun hn => by obtain ⟨b, off, e, hl, hr⟩ := hq.fresh hn; exact ⟨b, off, e, hl, ((hr.setCell _ _).setCell _ _).setCell _ _⟩⟩⟩
open Go.ChangeShapes Go.WideShapes Go.ChangeAt Go.RowKit Go.Deep
structure RatV where
  s : Bool
  a : Option Addr
  n : Nat
  c : Nat
  X : Nat
  b : Option Addr
  m : Nat
  e : Nat
  Y : Nat
instance : Inhabited RatV := ⟨⟨false, none, 0, 0, 0, none, 0, 0, 0⟩⟩
def RatV.ok (W : World) (q : RatV) : Prop := Seg W q.a q.X q.n ∧ q.n ≤ q.c ∧ q.n ≤ 35184372088000 ∧ Seg W q.b q.Y q.m ∧ q.m ≤ q.e ∧ q.m ≤ 35184372088000
def RatV.lies (W : World) (b off : Nat) (q : RatV) : Prop :=
  W.cell? ⟨b, off, none⟩ = some (.bool q.s) ∧ W.cell? ⟨b, off + 1, none⟩ = some (.slice q.a q.n q.c) ∧ W.cell? ⟨b, off + 2, none⟩ = some (.slice q.b q.m q.e)
def lq (q : Nat → RatV) (n : Nat) : List (Int × Nat) := (List.range n).map fun i => (rn (q i).s (q i).X (q i).Y, rd (q i).Y)
def RatV.val (q : RatV) : Rat := Rat.divInt (rn q.s q.X q.Y) ((rd q.Y : Nat) : Int)
theorem low_of {A D : Int} {r : Rat} (hD : D ≠ 0) (h : r = Rat.divInt A D) : Low A D r.num r.den := by
  refine ⟨hD, r.den_pos, ?_, r.reduced⟩
  have hd : (r.den : Int) ≠ 0 := by have := r.den_pos; omega
  have e : Rat.divInt r.num r.den = Rat.divInt A D := by rw [Rat.num_divInt_den]; exact h
  exact (Rat.divInt_eq_divInt_iff hd hD).1 e
theorem low_add (p q : RatV) : Low (rn p.s p.X p.Y * (rd q.Y : Nat) + rn q.s q.X q.Y * (rd p.Y : Nat)) ((rd p.Y : Nat) * (rd q.Y : Nat)) (p.val + q.val).num (p.val + q.val).den :=
  low_of (Int.mul_ne_zero (rd_ne _) (rd_ne _)) (by unfold RatV.val; rw [Rat.divInt_add_divInt _ _ (rd_ne _) (rd_ne _)])
theorem val_of (r : Rat) (a b : Option Addr) : (⟨ng r.num, a, ln (am r.num), ln (am r.num), am r.num, b, ln r.den, ln r.den, r.den⟩ : RatV).val = r := by
  unfold RatV.val
  show Rat.divInt (rn (ng r.num) (am r.num) r.den) ((rd r.den : Nat) : Int) = r
  rw [rn_nf r.den_pos, rd_nf r.den_pos, Rat.num_divInt_den]
abbrev Fo := List (Int × Rat)
def co (x : Int) : Fo → Rat
  | [] => 0
  | p :: l => (if p.1 = x then p.2 else 0) + co x l
def nrm (l : Fo) : Prop := l.Pairwise (fun a b => a.1 < b.1) ∧ ∀ p ∈ l, p.2 ≠ 0
theorem co_zero {x : Int} : ∀ {l : Fo}, (∀ p ∈ l, p.1 ≠ x) → co x l = 0
  | [], _ => rfl
  | p :: l, h => by
    simp only [co]
    rw [if_neg (h p List.mem_cons_self), co_zero fun q hq => h q (List.mem_cons_of_mem _ hq)]
    exact Rat.add_zero _
theorem nrm.tail {p : Int × Rat} {l : Fo} (h : nrm (p :: l)) : nrm l := ⟨(List.pairwise_cons.1 h.1).2, fun q hq => h.2 q (List.mem_cons_of_mem _ hq)⟩
theorem nrm.head {p : Int × Rat} {l : Fo} (h : nrm (p :: l)) : ∀ q ∈ l, p.1 < q.1 := (List.pairwise_cons.1 h.1).1
theorem nrm.nil : nrm [] := ⟨List.Pairwise.nil, fun p hp => absurd hp (by simp)⟩
theorem nrm.co_head {p : Int × Rat} {l : Fo} (h : nrm (p :: l)) : co p.1 (p :: l) = p.2 := by
  simp only [co, if_true]
  rw [co_zero fun q hq => by have := h.head q hq; omega]
  exact Rat.add_zero _
theorem nrm.below {p : Int × Rat} {l : Fo} {x : Int} (h : nrm (p :: l)) (hx : x < p.1) : co x (p :: l) = 0 :=
  co_zero fun q hq => by
    rcases List.mem_cons.1 hq with rfl | hq
    · omega
    · have := h.head q hq; omega
theorem nrm.uniq : ∀ {l m : Fo}, nrm l → nrm m → (∀ x, co x l = co x m) → l = m
  | [], [], _, _, _ => rfl
  | [], q :: m, _, hm, h => by
    have := h q.1
    rw [hm.co_head] at this
    exact absurd this.symm (hm.2 q List.mem_cons_self)
  | p :: l, [], hl, _, h => by
    have := h p.1
    rw [hl.co_head] at this
    exact absurd this (hl.2 p List.mem_cons_self)
  | p :: l, q :: m, hl, hm, h => by
    have e1 : p.1 = q.1 := by
      rcases Int.lt_trichotomy p.1 q.1 with h1 | h1 | h1
      · have := h p.1
        rw [hl.co_head, hm.below h1] at this
        exact absurd this (hl.2 p List.mem_cons_self)
      · exact h1
      · have := h q.1
        rw [hm.co_head, hl.below h1] at this
        exact absurd this.symm (hm.2 q List.mem_cons_self)
    have e2 : p.2 = q.2 := by
      have := h p.1
      rw [hl.co_head, e1, hm.co_head] at this
      exact this
    have e : p = q := Prod.ext e1 e2
    subst e
    rw [nrm.uniq hl.tail hm.tail fun x => by
      have := h x
      simp only [co] at this
      grind]
theorem nrm.cons {p : Int × Rat} {l : Fo} (h : nrm l) (h1 : ∀ q ∈ l, p.1 < q.1) (h2 : p.2 ≠ 0) : nrm (p :: l) :=
  ⟨List.pairwise_cons.2 ⟨h1, h.1⟩, fun q hq => by
    rcases List.mem_cons.1 hq with rfl | hq
    · exact h2
    · exact h.2 q hq⟩
def sz (N : Nat) (r : Rat) : Prop := ln (am r.num) ≤ N ∧ ln r.den ≤ N
theorem sz.mono {N M : Nat} {r : Rat} (h : sz N r) (hM : N ≤ M) : sz M r := ⟨Nat.le_trans h.1 hM, Nat.le_trans h.2 hM⟩
set_option maxHeartbeats 2000000 in
set_option maxRecDepth 100000 in
theorem vqWhole_is (z : Int) (w : World) (h1 : -9223372036854775808 ≤ z) (h2 : z ≤ 9223372036854775807) :
    Calls Tryz.prog 34 #[.int .i64 z] w fun e w' => ∃ p q, e = .returned (.agg #[.bool (ng z), .slice p (ln (am z)) (ln (am z)), .slice q (ln 1) (ln 1)]) ∧ New w w' p (am z) (ln (am z)) ∧ New w w' q 1 (ln 1) := by
  have lz : ln (am z) ≤ 2 := ln_le_of_lt (by rw [BB2]; unfold am; omega)
  have H0 := hide' (fun w' => vOf_is z w' h1 h2)
  have hL : Low (rn (ng z) (am z) 1) ((rd 1 : Nat) : Int) z 1 := Low.nf (Low.self (by omega) (by simp)) (by omega)
  obtain ⟨V, hV⟩ : ∃ V : Nat, 1 = V := ⟨_, rfl⟩
  have P2 : ∀ w' p q, Seg w' p (am z) (ln (am z)) → Seg w' q 1 1 → Calls Tryz.prog 14 #[.agg #[.bool (ng z), .slice p (ln (am z)) (ln (am z)), .slice q 1 1]] w' fun e w'' => ∃ p q, e = .returned (.agg #[.bool (ng z), .slice p (ln (am z)) (ln (am z)), .slice q (ln V) (ln V)]) ∧ New w' w'' p (am z) (ln (am z)) ∧ New w' w'' q V (ln V) := fun w' p q k1 k2 => by
    subst hV
    exact vqNorm_is (ng z) p (ln (am z)) (ln (am z)) (am z) q 1 1 1 1 z w' (by omega) k1 (by omega) k2 hL
  have H2 := hide' P2
  rw [show ln 1 = ln V by rw [hV]]
  have e1 : ∀ w' q, New w w' q 1 (ln V) ↔ New w w' q V (ln V) := fun w' q => by rw [← hV]
  simp only [e1]
  clear P2 hL hV h1 h2 e1
  go_enter Tryz.func34, Tryz.ntmps34
  go_wp2_with fail
  obtain ⟨W, hW⟩ : ∃ W, (w.alloc (.cells #[.bool false, .slice none 0 0, .slice none 0 0] 27)) = W := ⟨_, rfl⟩
  have r00 : W.cell? ⟨w.heap.size, 0, none⟩ = some (.bool false) := by subst hW; go_simp
  have r01 : W.cell? ⟨w.heap.size, 1, none⟩ = some (.slice none 0 0) := by subst hW; go_simp
  have r02 : W.cell? ⟨w.heap.size, 2, none⟩ = some (.slice none 0 0) := by subst hW; go_simp
  have hB : Below w.heap.size w W := by subst hW; exact ((Below.refl _ _).alloc (by (try simp only [World.size_alloc]); omega) _)
  have hR0 : Row W (w.heap.size) := by
    have := row_new (w) #[.bool false, .slice none 0 0, .slice none 0 0] 27
    try simp only [World.size_alloc] at this
    subst hW; exact this
  have hz : W.heap.size = w.heap.size + 1 := by subst hW; simp only [World.size_alloc]
  rw [hW]
  clear hW
  have hBW : Below W.heap.size W W := Below.refl _ _
  refine (H0.out _).mono ?_
  rintro e w1 ⟨a1, rfl, h1⟩
  have b1 := h1.below
  replace h1 := h1.back hBW
  replace hBW := hBW.trans (b1.mono hBW.size)
  replace r00 := below_cell b1 r00
  replace r01 := below_cell b1 r01
  replace r02 := below_cell b1 r02
  replace hR0 := below_row b1 hR0
  have n9 := single_new w1 1 60 1 (by omega) rfl
  have b9 := n9.below
  replace hBW := hBW.trans (b9.mono hBW.size)
  replace r00 := below_cell b9 r00
  replace r01 := below_cell b9 r01
  replace r02 := below_cell b9 r02
  replace hR0 := below_row b9 hR0
  replace h1 := h1.later b9
  have G2 := hide' (H2.out _ a1 _ h1.seg n9.seg)
  go_wp2_with fail
  refine (G2.out).mono ?_
  rintro e w2 ⟨p2, q2, rfl, hp2, hq2⟩
  have b2 := hp2.below
  replace hp2 := hp2.back hBW
  replace hq2 := hq2.back hBW
  replace hBW := hBW.trans (b2.mono hBW.size)
  replace r00 := below_cell b2 r00
  replace r01 := below_cell b2 r01
  replace r02 := below_cell b2 r02
  replace hR0 := below_row b2 hR0
  replace h1 := h1.later b2
  have fz0 := fun o => hR0.frozen o
  go_wp2
  all_goals refine bodyPost_ret (v := Value.agg #[Value.bool (ng z), Value.slice p2 (ln (am z)) (ln (am z)), Value.slice q2 (ln V) (ln V)]) (by rw [results_cell rfl]; go_simp) rfl ?_
  all_goals exact ⟨p2, q2, rfl, hp2.mid hB (((((Mid.refl _ _ _).set _ _ (by omega) (by omega) _).set _ _ (by omega) (by omega) _).set _ _ (by omega) (by omega) _)), hq2.mid hB (((((Mid.refl _ _ _).set _ _ (by omega) (by omega) _).set _ _ (by omega) (by omega) _).set _ _ (by omega) (by omega) _))⟩
theorem RatV.ok.on {w w' : World} {q : RatV} (h : q.ok w) (hb : Below w.heap.size w w') : q.ok w' := ⟨h.1.later hb, h.2.1, h.2.2.1, h.2.2.2.1.later hb, h.2.2.2.2.1, h.2.2.2.2.2⟩
def nR (r : Rat) (p q : Option Addr) : RatV := ⟨ng r.num, p, ln (am r.num), ln (am r.num), am r.num, q, ln r.den, ln r.den, r.den⟩
theorem nR_val (r : Rat) (p q : Option Addr) : (nR r p q).val = r := val_of r p q
def QA (w : World) (r : Rat) (e : Ending) (w' : World) : Prop := ∃ p q, e = .returned (.agg #[.bool (ng r.num), .slice p (ln (am r.num)) (ln (am r.num)), .slice q (ln r.den) (ln r.den)]) ∧ Below w.heap.size w w' ∧ (nR r p q).ok w'
theorem ok_nR {w w' : World} {r : Rat} {p q : Option Addr} (hs : sz 35184372088000 r) (h1 : New w w' p (am r.num) (ln (am r.num))) (h2 : New w w' q r.den (ln r.den)) : (nR r p q).ok w' :=
  ⟨h1.seg, Nat.le_refl _, Nat.le_trans hs.1 (by omega), h2.seg, Nat.le_refl _, Nat.le_trans hs.2 (by omega)⟩
def sR (r : Rat) : Int := sgn r.num
theorem sR_divInt {A : Int} {D : Int} (h : 0 < D) : sR (Rat.divInt A D) = sgn A := by
  have hl := low_of (A := A) (D := D) (Int.ne_of_gt h) rfl
  have e := hl.eq
  have p := hl.pos
  unfold sR
  have h1 : sgn (A * ((Rat.divInt A D).den : Int)) = sgn ((Rat.divInt A D).num * D) := by rw [e]
  rw [sgn_mul_pos (by omega), sgn_mul_pos h] at h1
  exact h1.symm
theorem sR_val (q : RatV) : sgn (rn q.s q.X q.Y) = sR q.val := (sR_divInt (by have := rd_pos q.Y; omega)).symm
theorem sR_sub (p q : RatV) : sgn (rn p.s p.X p.Y * (rd q.Y : Nat) - rn q.s q.X q.Y * (rd p.Y : Nat)) = sR (p.val - q.val) := by
  have e : p.val - q.val = Rat.divInt (rn p.s p.X p.Y * (rd q.Y : Nat) - rn q.s q.X q.Y * (rd p.Y : Nat)) ((rd p.Y : Nat) * (rd q.Y : Nat)) := by
    unfold RatV.val
    rw [Rat.divInt_sub_divInt _ _ (rd_ne _) (rd_ne _)]
  have p1 := rd_pos p.Y
  have p2 := rd_pos q.Y
  rw [e, sR_divInt (Int.mul_pos (by omega) (by omega))]
theorem low_subY (p q : RatV) : Low (rn p.s p.X p.Y * (rd q.Y : Nat) + -(rn q.s q.X q.Y) * (rd p.Y : Nat)) ((rd p.Y : Nat) * (rd q.Y : Nat)) (p.val - q.val).num (p.val - q.val).den :=
  low_of (Int.mul_ne_zero (rd_ne _) (rd_ne _)) (by
    unfold RatV.val
    rw [Rat.divInt_sub_divInt _ _ (rd_ne _) (rd_ne _), Int.neg_mul, Int.sub_eq_add_neg])
theorem vaddQ (A B : RatV) (S : Rat) (w : World) (hA : A.ok w) (hB : B.ok w) (hn : A.n ≤ 35184372088000 ∧ A.m ≤ 35184372088000 ∧ B.n ≤ 35184372088000 ∧ B.m ≤ 35184372088000) (hS : A.val + B.val = S) (hz : sz 35184372088000 S) : Calls Tryz.prog 33 #[.agg #[.bool A.s, .slice A.a A.n A.c, .slice A.b A.m A.e], .agg #[.bool B.s, .slice B.a B.n B.c, .slice B.b B.m B.e]] w (QA w S) := by
  subst hS
  refine (vqAdd_is A.s A.a A.n A.c A.X A.b A.m A.e A.Y B.s B.a B.n B.c B.X B.b B.m B.e B.Y _ _ w hA.2.1 (by omega) hA.1 hA.2.2.2.2.1 (by omega) hA.2.2.2.1 hB.2.1 (by omega) hB.1 hB.2.2.2.2.1 (by omega) hB.2.2.2.1 (low_add A B)).mono ?_
  rintro e w1 ⟨p, q, rfl, n1, n2⟩
  exact ⟨p, q, rfl, n1.below, ok_nR hz n1 n2⟩
theorem vsubQ (A B : RatV) (S : Rat) (w : World) (hA : A.ok w) (hB : B.ok w) (hn : A.n ≤ 35184372088000 ∧ A.m ≤ 35184372088000 ∧ B.n ≤ 35184372088000 ∧ B.m ≤ 35184372088000) (hS : A.val - B.val = S) (hz : sz 35184372088000 S) : Calls Tryz.prog 36 #[.agg #[.bool A.s, .slice A.a A.n A.c, .slice A.b A.m A.e], .agg #[.bool B.s, .slice B.a B.n B.c, .slice B.b B.m B.e]] w (QA w S) := by
  subst hS
  refine (vqSub_is A.s A.a A.n A.c A.X A.b A.m A.e A.Y B.s B.a B.n B.c B.X B.b B.m B.e B.Y _ _ w hA.2.1 (by omega) hA.1 hA.2.2.2.2.1 (by omega) hA.2.2.2.1 hB.2.1 (by omega) hB.1 hB.2.2.2.2.1 (by omega) hB.2.2.2.1 (low_subY A B)).mono ?_
  rintro e w1 ⟨p, q, rfl, n1, n2⟩
  exact ⟨p, q, rfl, n1.below, ok_nR hz n1 n2⟩
theorem vcmpQ (A B : RatV) (w : World) (hA : A.ok w) (hB : B.ok w) (hn : A.n ≤ 35184372088000 ∧ A.m ≤ 35184372088000 ∧ B.n ≤ 35184372088000 ∧ B.m ≤ 35184372088000) (C : Int) (hS : sR (A.val - B.val) = C) : Calls Tryz.prog 15 #[.agg #[.bool A.s, .slice A.a A.n A.c, .slice A.b A.m A.e], .agg #[.bool B.s, .slice B.a B.n B.c, .slice B.b B.m B.e]] w fun e w1 => e = .returned (.int .i64 C) ∧ Below w.heap.size w w1 :=
  vqCmp_is A.s A.a A.n A.c A.X A.b A.m A.e A.Y B.s B.a B.n B.c B.X B.b B.m B.e B.Y C w hA.2.1 (by omega) hA.1 hA.2.2.2.2.1 (by omega) hA.2.2.2.1 hB.2.1 (by omega) hB.1 hB.2.2.2.2.1 (by omega) hB.2.2.2.1 ((sR_sub A B).trans hS)
theorem vsignQ (A : RatV) (w : World) (hA : A.ok w) (C : Int) (hS : sR A.val = C) : Calls Tryz.prog 35 #[.agg #[.bool A.s, .slice A.a A.n A.c, .slice A.b A.m A.e]] w fun e w1 => e = .returned (.int .i64 C) ∧ Below w.heap.size w w1 :=
  have h1 := hA.2.2.1
  have h2 := hA.2.2.2.2.2
  vqSign_is A.s A.a A.n A.c A.X A.b A.m A.e A.Y C w hA.2.1 (by omega) hA.1 hA.2.2.2.2.1 (by omega) hA.2.2.2.1 ((sR_val A).trans hS)
theorem vwholeQ1 (w : World) : Calls Tryz.prog 34 #[.int .i64 1] w (QA w 1) := by
  refine (vqWhole_is 1 w (by omega) (by omega)).mono ?_
  rintro e w1 ⟨p, q, rfl, n1, n2⟩
  exact ⟨p, q, rfl, n1.below, ok_nR (r := (1 : Rat)) ⟨by show ln (am 1) ≤ _; rw [show am 1 = 1 from rfl, ln_one]; omega, by show ln 1 ≤ _; rw [ln_one]; omega⟩ n1 n2⟩
theorem vintQ (z : Int) (p0 : Option Addr) (w : World) (lz : ln (am z) ≤ 35184372087900) (hS : Seg w p0 (am z) (ln (am z))) : Calls Tryz.prog 31 #[.agg #[.bool (ng z), .slice p0 (ln (am z)) (ln (am z))]] w (QA w (z : Rat)) := by
  refine (vqInt_is z p0 w (by omega) hS).mono ?_
  rintro e w1 ⟨p, q, rfl, n1, n2⟩
  exact ⟨p, q, rfl, n1.below, ok_nR (r := (z : Rat)) ⟨by show ln (am z) ≤ _; omega, by show ln 1 ≤ _; rw [ln_one]; omega⟩ n1 n2⟩
theorem vfloorQ (S : Rat) (p q : Option Addr) (M G : Int) (w : World) (h : (nR S p q).ok w) (hz : sz 35184372087808 S) (hf : Fl S.num (S.den : Int) M G) : Calls Tryz.prog 32 #[.agg #[.bool (ng S.num), .slice p (ln (am S.num)) (ln (am S.num)), .slice q (ln S.den) (ln S.den)]] w fun e w1 => ∃ p1, e = .returned (.agg #[.bool (ng M), .slice p1 (ln (am M)) (ln (am M))]) ∧ New w w1 p1 (am M) (ln (am M)) :=
  have h1 := hz.1
  have h2 := hz.2
  vqFloor_is (ng S.num) p (ln (am S.num)) (ln (am S.num)) (am S.num) q (ln S.den) (ln S.den) S.den M G w (Nat.le_refl _) (by omega) h.1 (Nat.le_refl _) (by omega) h.2.2.2.1 (by rw [rn_nf S.den_pos, rd_nf S.den_pos]; exact hf)
theorem RatV.ok.ch {x : RatV} {c : Nat} {W W' : World} (h : x.ok W) (k : Ch c W W') (hno : ∀ o i, W.cell? ⟨c, o, none⟩ ≠ some (.int .u32 i)) : x.ok W' := ⟨h.1.ch k hno, h.2.1, h.2.2.1, h.2.2.2.1.ch k hno, h.2.2.2.2⟩
theorem cell_ltB {w : World} {c o : Nat} {v : Value} (h : w.cell? ⟨c, o, none⟩ = some v) : c < w.heap.size := World.block_lt_of_cell? w _ h
theorem fl_ln {A D Z G : Int} {i k : Nat} (h : Fl A D Z G) (hD : 0 < D) (hA : am A < BB ^ i) (hi : i + 1 ≤ k) (h1 : 2 ≤ k) : ln (am Z) ≤ k := by
  have h3 := h.am hD
  have h5 := ln_sum hA (show 1 < BB ^ 1 by rw [Nat.pow_one, BB_eq]; omega) (k := k) hi h1
  exact Nat.le_trans (ln_mono h3) h5
set_option maxHeartbeats 4000000 in
set_option maxRecDepth 100000 in
theorem vqCeil_is (s0 : Bool) (a0 : Option Addr) (n0 c0 X0 : Nat) (b0 : Option Addr) (m0 d0 Y0 : Nat) (Z G Z2 : Int) (w : World) (hc0 : n0 ≤ c0) (hm0 : n0 ≤ 35184372087808) (hS0 : Seg w a0 X0 n0) (hd0 : m0 ≤ d0) (hk0 : m0 ≤ 35184372087808) (hT0 : Seg w b0 Y0 m0) (h : Fl (-(rn s0 X0 Y0)) (rd Y0 : Nat) Z G) (h2 : -Z = Z2) :
    Calls Tryz.prog 37 #[Value.agg #[Value.bool s0, Value.slice a0 n0 c0, Value.slice b0 m0 d0]] w fun e w' => ∃ p, e = .returned (.agg #[.bool (ng Z2), .slice p (ln (am Z2)) (ln (am Z2))]) ∧ New w w' p (am Z2) (ln (am Z2)) := by
  have l0 := Nat.lt_of_le_of_lt (rn_am s0 X0 Y0) hS0.1
  have lZ : ln (am Z) ≤ 35184372087810 := fl_ln h (by have := rd_pos Y0; omega) (by rw [am_neg]; exact l0) (by omega) (by omega)
  obtain ⟨Z1, V1, h1⟩ := low_ex (-(rn s0 X0 Y0)) (rd Y0 : Nat) (rd_ne Y0)
  have hl := h1.le
  rw [am_neg, am_nat] at hl
  have lZ1 : ln (am Z1) ≤ n0 := ln_le_of_lt (Nat.lt_of_le_of_lt hl.1 l0)
  have lV1 : ln V1 ≤ max m0 1 := ln_le_of_lt (Nat.lt_of_le_of_lt hl.2 (rd_ltM hT0.1))
  obtain ⟨Z', G', h3⟩ := fl_ex Z1 (D := (V1 : Int)) (by have := h1.pos; omega)
  have e1 : Z' = Z := h.same (by have := rd_pos Y0; omega) h3 (by have := h1.pos; omega) (by have := h1.eq; omega)
  rw [e1] at h3
  have h4 : Fl (rn (ng Z1) (am Z1) V1) ((rd V1 : Nat) : Int) Z G' := by rw [rn_nf h1.pos, rd_nf h1.pos]; exact h3
  have G1 := hide' h1
  have G4 := hide' h4
  have HN := hide' (fun w' p k => vNeg_is (ng Z) p (ln (am Z)) (ln (am Z)) (am Z) Z2 w' (by omega) k (by rw [sg_na]; exact h2))
  clear h h1 h2 h3 h4 e1 hl l0
  go_enter Tryz.func37, Tryz.ntmps37
  go_wp2_with fail
  obtain ⟨W, hW⟩ : ∃ W, ((w.alloc (.cells #[.bool s0, .slice a0 n0 c0, .slice b0 m0 d0] 27)).alloc (.cells #[.bool false, .slice none 0 0] 25)) = W := ⟨_, rfl⟩
  have q00 : W.cell? ⟨w.heap.size, 0, none⟩ = some (.bool s0) := by subst hW; go_simp
  have q01 : W.cell? ⟨w.heap.size, 1, none⟩ = some (.slice a0 n0 c0) := by subst hW; go_simp
  have q02 : W.cell? ⟨w.heap.size, 2, none⟩ = some (.slice b0 m0 d0) := by subst hW; go_simp
  have r00 : W.cell? ⟨w.heap.size + 1, 0, none⟩ = some (.bool false) := by subst hW; go_simp
  have r01 : W.cell? ⟨w.heap.size + 1, 1, none⟩ = some (.slice none 0 0) := by subst hW; go_simp
  have hB : Below w.heap.size w W := by subst hW; exact (((Below.refl _ _).alloc (by (try simp only [World.size_alloc]); omega) _).alloc (by (try simp only [World.size_alloc]); omega) _)
  have hR0 : Row W (w.heap.size + 1) := by
    have := row_new ((w.alloc (.cells #[.bool s0, .slice a0 n0 c0, .slice b0 m0 d0] 27))) #[.bool false, .slice none 0 0] 25
    try simp only [World.size_alloc] at this
    subst hW; exact this
  have hz : W.heap.size = w.heap.size + 1 + 1 := by subst hW; simp only [World.size_alloc]
  rw [hW]
  clear hW
  have hBW : Below W.heap.size W W := Below.refl _ _
  refine (vqNeg_big s0 a0 n0 c0 X0 b0 m0 d0 Y0 Z1 V1 _ hc0 (by omega) (sb hS0 hB hBW) hd0 (by omega) (sb hT0 hB hBW) G1.out).mono ?_
  rintro e w41 ⟨p41, q41, rfl, hp41, hq41⟩
  have b41 := hp41.below
  replace hp41 := hp41.back hBW
  replace hq41 := hq41.back hBW
  replace hBW := hBW.trans (b41.mono hBW.size)
  replace q00 := below_cell b41 q00
  replace q01 := below_cell b41 q01
  replace q02 := below_cell b41 q02
  replace r00 := below_cell b41 r00
  replace r01 := below_cell b41 r01
  replace hR0 := below_row b41 hR0
  go_wp2_with fail
  refine (vqFloor_is (ng Z1) p41 (ln (am Z1)) (ln (am Z1)) (am Z1) q41 (ln V1) (ln V1) V1 Z G' _ (Nat.le_refl _) (by omega) hp41.seg (Nat.le_refl _) (by omega) hq41.seg G4.out).mono ?_
  rintro e w42 ⟨p42, rfl, hp42⟩
  have b42 := hp42.below
  replace hp42 := hp42.back hBW
  replace hBW := hBW.trans (b42.mono hBW.size)
  replace q00 := below_cell b42 q00
  replace q01 := below_cell b42 q01
  replace q02 := below_cell b42 q02
  replace r00 := below_cell b42 r00
  replace r01 := below_cell b42 r01
  replace hR0 := below_row b42 hR0
  replace hp41 := hp41.later b42
  replace hq41 := hq41.later b42
  go_wp2_with fail
  refine (HN.out _ p42 hp42.seg).mono ?_
  rintro e w43 ⟨a43, rfl, h9⟩
  have b43 := h9.below
  replace h9 := h9.back hBW
  replace hBW := hBW.trans (b43.mono hBW.size)
  replace q00 := below_cell b43 q00
  replace q01 := below_cell b43 q01
  replace q02 := below_cell b43 q02
  replace r00 := below_cell b43 r00
  replace r01 := below_cell b43 r01
  replace hR0 := below_row b43 hR0
  replace hp41 := hp41.later b43
  replace hq41 := hq41.later b43
  replace hp42 := hp42.later b43
  have fz0 := fun o => hR0.frozen o
  go_wp2
  all_goals refine bodyPost_ret (v := .agg #[.bool (ng Z2), .slice a43 (ln (am Z2)) (ln (am Z2))]) (by rw [results_cell rfl]; go_simp) rfl ?_
  all_goals exact ⟨a43, rfl, h9.mid hB ((((Mid.refl _ _ _).set _ _ (by omega) (by omega) _).set _ _ (by omega) (by omega) _))⟩
theorem vfloorV (A : RatV) (M G : Int) (w : World) (hA : A.ok w) (hn : A.n ≤ 35184372087808 ∧ A.m ≤ 35184372087808) (hf : Fl (rn A.s A.X A.Y) ((rd A.Y : Nat) : Int) M G) : Calls Tryz.prog 32 #[.agg #[.bool A.s, .slice A.a A.n A.c, .slice A.b A.m A.e]] w fun e w1 => ∃ p1, e = .returned (.agg #[.bool (ng M), .slice p1 (ln (am M)) (ln (am M))]) ∧ New w w1 p1 (am M) (ln (am M)) :=
  vqFloor_is A.s A.a A.n A.c A.X A.b A.m A.e A.Y M G w hA.2.1 (by omega) hA.1 hA.2.2.2.2.1 (by omega) hA.2.2.2.1 hf
theorem vceilV (A : RatV) (Z G M : Int) (w : World) (hA : A.ok w) (hn : A.n ≤ 35184372087808 ∧ A.m ≤ 35184372087808) (hf : Fl (-(rn A.s A.X A.Y)) ((rd A.Y : Nat) : Int) Z G) (h2 : -Z = M) : Calls Tryz.prog 37 #[.agg #[.bool A.s, .slice A.a A.n A.c, .slice A.b A.m A.e]] w fun e w1 => ∃ p1, e = .returned (.agg #[.bool (ng M), .slice p1 (ln (am M)) (ln (am M))]) ∧ New w w1 p1 (am M) (ln (am M)) :=
  vqCeil_is A.s A.a A.n A.c A.X A.b A.m A.e A.Y Z G M w hA.2.1 (by omega) hA.1 hA.2.2.2.2.1 (by omega) hA.2.2.2.1 hf h2
theorem vinvQ (A : RatV) (S : Rat) (w : World) (hA : A.ok w) (hn : A.n ≤ 35184372088000 ∧ A.m ≤ 35184372088000) (h0 : A.val ≠ 0) (hS : A.val⁻¹ = S) (hz : sz 35184372088000 S) : Calls Tryz.prog 38 #[.agg #[.bool A.s, .slice A.a A.n A.c, .slice A.b A.m A.e]] w fun e w1 => ∃ p q, e = .returned (.tuple #[.agg #[.bool (ng S.num), .slice p (ln (am S.num)) (ln (am S.num)), .slice q (ln S.den) (ln S.den)], .int .i64 0]) ∧ Below w.heap.size w w1 ∧ (nR S p q).ok w1 := by
  have hn0 : rn A.s A.X A.Y ≠ 0 := fun e => h0 (by unfold RatV.val; rw [e]; simp)
  have hL : Low ((rd A.Y : Nat) : Int) (rn A.s A.X A.Y) S.num S.den := low_of hn0 (by rw [← hS]; unfold RatV.val; rw [Rat.inv_divInt])
  refine (vqInv_is A.s A.a A.n A.c A.X A.b A.m A.e A.Y S.num S.den w hA.2.1 (by omega) hA.1 hA.2.2.2.2.1 (by omega) hA.2.2.2.1 hL).mono ?_
  rintro e w1 ⟨p, q, rfl, n1, n2⟩
  exact ⟨p, q, rfl, n1.below, ok_nR hz n1 n2⟩
end Go.Proofs.YtejlnodillnoaaaGreatDoor
