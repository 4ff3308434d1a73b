import Derived.Test.YtejlnodillnoaaaGreatDoorWQ8
import Derived.Test.YtejlnodillnoaaaGreatDoorWQ2
import Derived.Test.YtejlnodillnoaaaGreatDoorOpenQ
import Derived.Deep.Slices
import Derived.Test.YtejlnodillnoaaaGreatDoorNumQ
import Derived.Test.YtejlnodillnoaaaGreatDoorWQ3
import Derived.Test.YtejlnodillnoaaaGreatDoorWQ5
import Derived.Test.YtejlnodillnoaaaGreatDoorWQA
import Derived.Test.YtejlnodillnoaaaGreatDoorWQ6
import Derived.Test.YtejlnodillnoaaaGreatDoorWQ7
import Derived.Test.YtejlnodillnoaaaGreatDoorWI4
import Derived.Test.YtejlnodillnoaaaGreatDoorWIm
import Derived.Test.YtejlnodillnoaaaGreatDoorWIA
import Derived.Deep.CutRange
import Derived.Test.YtejlnodillnoaaaGreatDoorWI2
set_option linter.unusedSimpArgs false
namespace Go.Proofs.YtejlnodillnoaaaGreatDoor
open Go.RowKit
set_option linter.unusedVariables false
theorem ln1 {A D Z : Int} {V i j k : Nat} (h : Low A D Z V) (hA : am A < BB ^ i) (hD : am D < BB ^ j) (hi : i ≤ k) (hj : j ≤ k) : ln (am Z) ≤ k ∧ ln V ≤ k :=
  ⟨Nat.le_trans (ln_le_of_lt (Nat.lt_of_le_of_lt h.le.1 hA)) hi, Nat.le_trans (ln_le_of_lt (Nat.lt_of_le_of_lt h.le.2 hD)) hj⟩
set_option maxHeartbeats 4000000 in
set_option maxRecDepth 100000 in
theorem vqSub_is (s0 : Bool) (a0 : Option Addr) (n0 c0 X0 : Nat) (b0 : Option Addr) (m0 d0 Y0 : Nat) (s1 : Bool) (a1 : Option Addr) (n1 c1 X1 : Nat) (b1 : Option Addr) (m1 d1 Y1 : Nat) (Z : Int) (V : Nat) (w : World) (hc0 : n0 ≤ c0) (hm0 : n0 ≤ 35184372088000) (hS0 : Seg w a0 X0 n0) (hd0 : m0 ≤ d0) (hk0 : m0 ≤ 35184372088000) (hT0 : Seg w b0 Y0 m0) (hc1 : n1 ≤ c1) (hm1 : n1 ≤ 35184372088000) (hS1 : Seg w a1 X1 n1) (hd1 : m1 ≤ d1) (hk1 : m1 ≤ 35184372088000) (hT1 : Seg w b1 Y1 m1) (hL : Low (rn s0 X0 Y0 * (rd Y1 : Nat) + -(rn s1 X1 Y1) * (rd Y0 : Nat)) ((rd Y0 : Nat) * (rd Y1 : Nat)) Z V) :
    Calls Tryz.prog 36 #[Value.agg #[Value.bool s0, Value.slice a0 n0 c0, Value.slice b0 m0 d0], Value.agg #[Value.bool s1, Value.slice a1 n1 c1, Value.slice b1 m1 d1]] w fun e w' => ∃ p q, e = .returned (.agg #[.bool (ng Z), .slice p (ln (am Z)) (ln (am Z)), .slice q (ln V) (ln V)]) ∧ New w w' p (am Z) (ln (am Z)) ∧ New w w' q V (ln V) := by
  obtain ⟨Z1, V1, h1⟩ := low_ex (-(rn s1 X1 Y1)) (rd Y1 : Nat) (rd_ne Y1)
  have hl := h1.le
  rw [am_neg, am_nat] at hl
  have lZ : ln (am Z1) ≤ n1 := ln_le_of_lt (Nat.lt_of_le_of_lt (Nat.le_trans hl.1 (rn_am s1 X1 Y1)) hS1.1)
  have lV : ln V1 ≤ m1 + 1 := ln_le_of_lt (Nat.lt_of_le_of_lt hl.2 (rd_lt hT1.1))
  have h2 : Low (rn s0 X0 Y0 * ((rd V1 : Nat) : Int) + rn (ng Z1) (am Z1) V1 * ((rd Y0 : Nat) : Int)) (((rd Y0 : Nat) : Int) * ((rd V1 : Nat) : Int)) Z V := by
    rw [rn_nf h1.pos, rd_nf h1.pos]
    have e1 := h1.eq
    have p1 := h1.pos
    refine hL.congr (Int.mul_ne_zero (rd_ne Y0) (by omega)) ?_
    grind
  have G1 := hide' h1
  have G2 := hide' h2
  clear hL h1 h2 hl
  go_enter Tryz.func36, Tryz.ntmps36
  go_wp2_with fail
  obtain ⟨W, hW⟩ : ∃ W, (((w.alloc (.cells #[.bool s0, .slice a0 n0 c0, .slice b0 m0 d0] 27)).alloc (.cells #[.bool s1, .slice a1 n1 c1, .slice b1 m1 d1] 27)).alloc (.cells #[.bool false, .slice none 0 0, .slice none 0 0] 27)) = W := ⟨_, rfl⟩
  have q00 : W.cell? ⟨w.heap.size, 0, none⟩ = some (.bool s0) := by subst hW; go_simp
  have q01 : W.cell? ⟨w.heap.size, 1, none⟩ = some (.slice a0 n0 c0) := by subst hW; go_simp
  have q02 : W.cell? ⟨w.heap.size, 2, none⟩ = some (.slice b0 m0 d0) := by subst hW; go_simp
  have q10 : W.cell? ⟨w.heap.size + 1, 0, none⟩ = some (.bool s1) := by subst hW; go_simp
  have q11 : W.cell? ⟨w.heap.size + 1, 1, none⟩ = some (.slice a1 n1 c1) := by subst hW; go_simp
  have q12 : W.cell? ⟨w.heap.size + 1, 2, none⟩ = some (.slice b1 m1 d1) := by subst hW; go_simp
  have r00 : W.cell? ⟨w.heap.size + 1 + 1, 0, none⟩ = some (.bool false) := by subst hW; go_simp
  have r01 : W.cell? ⟨w.heap.size + 1 + 1, 1, none⟩ = some (.slice none 0 0) := by subst hW; go_simp
  have r02 : W.cell? ⟨w.heap.size + 1 + 1, 2, none⟩ = some (.slice none 0 0) := by subst hW; go_simp
  have hB : Below w.heap.size w W := by subst hW; exact ((((Below.refl _ _).alloc (by (try simp only [World.size_alloc]); omega) _).alloc (by (try simp only [World.size_alloc]); omega) _).alloc (by (try simp only [World.size_alloc]); omega) _)
  have hR0 : Row W (w.heap.size + 1 + 1) := by
    have := row_new (((w.alloc (.cells #[.bool s0, .slice a0 n0 c0, .slice b0 m0 d0] 27)).alloc (.cells #[.bool s1, .slice a1 n1 c1, .slice b1 m1 d1] 27))) #[.bool false, .slice none 0 0, .slice none 0 0] 27
    try simp only [World.size_alloc] at this
    subst hW; exact this
  have hz : W.heap.size = w.heap.size + 1 + 1 + 1 := by subst hW; simp only [World.size_alloc]
  rw [hW]
  clear hW
  have hBW : Below W.heap.size W W := Below.refl _ _
  replace hBW := hBW.drew
  first
    | go_region_held3 (fun w' => w'.cell? ⟨w.heap.size, 0, none⟩ = some (.bool s0) ∧ w'.cell? ⟨w.heap.size, 1, none⟩ = some (.slice a0 n0 c0) ∧ w'.cell? ⟨w.heap.size, 2, none⟩ = some (.slice b0 m0 d0) ∧ w'.cell? ⟨w.heap.size + 1, 0, none⟩ = some (.bool s1) ∧ w'.cell? ⟨w.heap.size + 1, 1, none⟩ = some (.slice a1 n1 c1) ∧ w'.cell? ⟨w.heap.size + 1, 2, none⟩ = some (.slice b1 m1 d1) ∧ Below w.heap.size w w')
        (first | exact ⟨q00, q01, q02, q10, q11, q12, hB.trans (hBW.mono hB.size)⟩ | exact kp6 b41 (by assumption) | exact kp6 b42 (by assumption) | exact kp6 (below_alloc _) (by assumption) | exact kp6 (below_alloc _) ⟨q00, q01, q02, q10, q11, q12, hB.trans (hBW.mono hB.size)⟩ | exact kpT6_3 (by assumption) (by omega) (by omega) (by omega) (by omega) (by omega) (by omega) (by omega))
        (first
          | (go_at_call 72; (fail_if_success clear b41); refine (vqNeg_is s1 a1 n1 c1 X1 b1 m1 d1 Y1 Z1 V1 _ hc1 (by omega) (sb hS1 hB hBW) hd1 (by omega) (sb hT1 hB hBW) G1.out).mono ?_; rintro e w41 ⟨p41, q41, rfl, hp41, hq41⟩; have b41 := hp41.below; replace hp41 := hp41.back hBW; replace hq41 := hq41.back hBW; replace hBW := hBW.trans (b41.mono hBW.size); replace q00 := below_cell b41 q00; replace q01 := below_cell b41 q01; replace q02 := below_cell b41 q02; replace q10 := below_cell b41 q10; replace q11 := below_cell b41 q11; replace q12 := below_cell b41 q12; replace r00 := below_cell b41 r00; replace r01 := below_cell b41 r01; replace r02 := below_cell b41 r02; replace hR0 := below_row b41 hR0)
          | (go_at_call 33; (fail_if_success clear b42); refine (vqAdd_is s0 a0 n0 c0 X0 b0 m0 d0 Y0 (ng Z1) p41 (ln (am Z1)) (ln (am Z1)) (am Z1) q41 (ln V1) (ln V1) V1 Z V _ hc0 (by omega) (sb hS0 hB hBW) hd0 (by omega) (sb hT0 hB hBW) (Nat.le_refl _) (by omega) hp41.seg (Nat.le_refl _) (by omega) hq41.seg G2.out).mono ?_; rintro e w42 ⟨p42, q42, rfl, hp42, hq42⟩; have b42 := hp42.below; replace hp42 := hp42.back hBW; replace hq42 := hq42.back hBW; replace hBW := hBW.trans (b42.mono hBW.size); replace q00 := below_cell b42 q00; replace q01 := below_cell b42 q01; replace q02 := below_cell b42 q02; replace q10 := below_cell b42 q10; replace q11 := below_cell b42 q11; replace q12 := below_cell b42 q12; replace r00 := below_cell b42 r00; replace r01 := below_cell b42 r01; replace r02 := below_cell b42 r02; replace hR0 := below_row b42 hR0; replace hp41 := hp41.later b42; replace hq41 := hq41.later b42; have fz := fun o => hR0.frozen o))
    | fail
  have fz0 := fun o => hR0.frozen o
  go_wp2
  all_goals refine bodyPost_ret (v := Value.agg #[Value.bool (ng Z), Value.slice p42 (ln (am Z)) (ln (am Z)), Value.slice q42 (ln V) (ln V)]) (by rw [results_cell rfl]; go_simp) rfl ?_
  all_goals exact ⟨p42, q42, rfl, hp42.mid hB (((((Mid.refl _ _ _).set _ _ (by omega) (by omega) _).set _ _ (by omega) (by omega) _).set _ _ (by omega) (by omega) _)), hq42.mid hB (((((Mid.refl _ _ _).set _ _ (by omega) (by omega) _).set _ _ (by omega) (by omega) _).set _ _ (by omega) (by omega) _))⟩
set_option maxHeartbeats 4000000 in
set_option maxRecDepth 100000 in
theorem vqCmp_is (s0 : Bool) (a0 : Option Addr) (n0 c0 X0 : Nat) (b0 : Option Addr) (m0 d0 Y0 : Nat) (s1 : Bool) (a1 : Option Addr) (n1 c1 X1 : Nat) (b1 : Option Addr) (m1 d1 Y1 : Nat) (C : Int) (w : World) (hc0 : n0 ≤ c0) (hm0 : n0 ≤ 35184372088000) (hS0 : Seg w a0 X0 n0) (hd0 : m0 ≤ d0) (hk0 : m0 ≤ 35184372088000) (hT0 : Seg w b0 Y0 m0) (hc1 : n1 ≤ c1) (hm1 : n1 ≤ 35184372088000) (hS1 : Seg w a1 X1 n1) (hd1 : m1 ≤ d1) (hk1 : m1 ≤ 35184372088000) (hT1 : Seg w b1 Y1 m1) (hC : sgn (rn s0 X0 Y0 * (rd Y1 : Nat) - rn s1 X1 Y1 * (rd Y0 : Nat)) = C) :
    Calls Tryz.prog 15 #[Value.agg #[Value.bool s0, Value.slice a0 n0 c0, Value.slice b0 m0 d0], Value.agg #[Value.bool s1, Value.slice a1 n1 c1, Value.slice b1 m1 d1]] w fun e w' => e = .returned (.int .i64 C) ∧ Below w.heap.size w w' := by
  have hD : (((rd Y0 : Nat) : Int) * ((rd Y1 : Nat) : Int)) ≠ 0 := Int.mul_ne_zero (rd_ne Y0) (rd_ne Y1)
  obtain ⟨Z, V, hL⟩ := low_ex (rn s0 X0 Y0 * ((rd Y1 : Nat) : Int) + -(rn s1 X1 Y1) * ((rd Y0 : Nat) : Int)) _ hD
  have hl := hL.le
  have hDp : (0 : Int) < ((rd Y0 : Nat) : Int) * ((rd Y1 : Nat) : Int) := Int.mul_pos (by have := rd_pos Y0; omega) (by have := rd_pos Y1; omega)
  have hs : sgn (rn (ng Z) (am Z) V) = C := by
    rw [rn_nf hL.pos, hL.sgn hDp, ← hC, Int.neg_mul]
    rfl
  have lZ : ln (am Z) ≤ 70368744176020 := by
    have h1 := ln_mono hl.1
    have h2 := ln_mono (am_add (rn s0 X0 Y0 * ((rd Y1 : Nat) : Int)) (-(rn s1 X1 Y1) * ((rd Y0 : Nat) : Int)))
    rw [am_mul, am_mul, am_neg, am_nat, am_nat] at h2
    have p1 := ln_prod (Nat.lt_of_le_of_lt (rn_am s0 X0 Y0) hS0.1) (rd_lt hT1.1)
    have p2 := ln_prod (Nat.lt_of_le_of_lt (rn_am s1 X1 Y1) hS1.1) (rd_lt hT0.1)
    have h3 := ln_sum (ln_lt (am (rn s0 X0 Y0) * rd Y1)) (ln_lt (am (rn s1 X1 Y1) * rd Y0)) (k := 70368744176020) (by omega) (by omega)
    omega
  have lV : ln V ≤ 70368744176020 := by
    have h1 := ln_mono hl.2
    rw [am_mul, am_nat, am_nat] at h1
    have p1 := ln_prod (rd_lt hT0.1) (rd_lt hT1.1)
    omega
  have G1 := hide' hL
  have G2 := hide' hs
  clear hL hs hC hl hD hDp
  go_enter Tryz.func15, Tryz.ntmps15
  go_wp2_with fail
  obtain ⟨W, hW⟩ : ∃ W, ((w.alloc (.cells #[.bool s0, .slice a0 n0 c0, .slice b0 m0 d0] 27)).alloc (.cells #[.bool s1, .slice a1 n1 c1, .slice b1 m1 d1] 27)) = W := ⟨_, rfl⟩
  have q00 : W.cell? ⟨w.heap.size, 0, none⟩ = some (.bool s0) := by subst hW; go_simp
  have q01 : W.cell? ⟨w.heap.size, 1, none⟩ = some (.slice a0 n0 c0) := by subst hW; go_simp
  have q02 : W.cell? ⟨w.heap.size, 2, none⟩ = some (.slice b0 m0 d0) := by subst hW; go_simp
  have q10 : W.cell? ⟨w.heap.size + 1, 0, none⟩ = some (.bool s1) := by subst hW; go_simp
  have q11 : W.cell? ⟨w.heap.size + 1, 1, none⟩ = some (.slice a1 n1 c1) := by subst hW; go_simp
  have q12 : W.cell? ⟨w.heap.size + 1, 2, none⟩ = some (.slice b1 m1 d1) := by subst hW; go_simp
  have hB : Below w.heap.size w W := by subst hW; exact (((Below.refl _ _).alloc (by (try simp only [World.size_alloc]); omega) _).alloc (by (try simp only [World.size_alloc]); omega) _)
  have hz : W.heap.size = w.heap.size + 1 + 1 := by subst hW; simp only [World.size_alloc]
  rw [hW]
  clear hW
  have hBW : Below W.heap.size W W := Below.refl _ _
  refine (vqSub_is s0 a0 n0 c0 X0 b0 m0 d0 Y0 s1 a1 n1 c1 X1 b1 m1 d1 Y1 Z V _ hc0 (by omega) (sb hS0 hB hBW) hd0 (by omega) (sb hT0 hB hBW) hc1 (by omega) (sb hS1 hB hBW) hd1 (by omega) (sb hT1 hB hBW) G1.out).mono ?_
  rintro e w41 ⟨p41, q41, rfl, hp41, hq41⟩
  have b41 := hp41.below
  replace hp41 := hp41.back hBW
  replace hq41 := hq41.back hBW
  replace hBW := hBW.trans (b41.mono hBW.size)
  replace q00 := below_cell b41 q00
  replace q01 := below_cell b41 q01
  replace q02 := below_cell b41 q02
  replace q10 := below_cell b41 q10
  replace q11 := below_cell b41 q11
  replace q12 := below_cell b41 q12
  go_wp2_with fail
  refine (vqSign_is (ng Z) p41 (ln (am Z)) (ln (am Z)) (am Z) q41 (ln V) (ln V) V C _ (Nat.le_refl _) (by omega) hp41.seg (Nat.le_refl _) (by omega) hq41.seg G2.out).mono ?_
  rintro e w42 ⟨rfl, b42⟩
  replace hBW := hBW.trans (b42.mono hBW.size)
  replace q00 := below_cell b42 q00
  replace q01 := below_cell b42 q01
  replace q02 := below_cell b42 q02
  replace q10 := below_cell b42 q10
  replace q11 := below_cell b42 q11
  replace q12 := below_cell b42 q12
  replace hp41 := hp41.later b42
  replace hq41 := hq41.later b42
  go_wp2
  go_ret
  exact ⟨rfl, hB.trans (hBW.mono hB.size)⟩
open Go.ChangeShapes Go.WideShapes Go.ChangeAt Go.RowKit Go.Deep
structure RatV where
  s : Bool
  a : Option Addr
  n : Nat
  c : Nat
  X : Nat
  b : Option Addr
  m : Nat
  e : Nat
  Y : Nat
instance : Inhabited RatV := ⟨⟨false, none, 0, 0, 0, none, 0, 0, 0⟩⟩
def RatV.ok (W : World) (q : RatV) : Prop := Seg W q.a q.X q.n ∧ q.n ≤ q.c ∧ q.n ≤ 35184372087808 ∧ Seg W q.b q.Y q.m ∧ q.m ≤ q.e ∧ q.m ≤ 35184372087808
def RatV.lies (W : World) (b off : Nat) (q : RatV) : Prop :=
  W.cell? ⟨b, off, none⟩ = some (.bool q.s) ∧ W.cell? ⟨b, off + 1, none⟩ = some (.slice q.a q.n q.c) ∧ W.cell? ⟨b, off + 2, none⟩ = some (.slice q.b q.m q.e)
def lq (q : Nat → RatV) (n : Nat) : List (Int × Nat) := (List.range n).map fun i => (rn (q i).s (q i).X (q i).Y, rd (q i).Y)
def RatV.val (q : RatV) : Rat := Rat.divInt (rn q.s q.X q.Y) ((rd q.Y : Nat) : Int)
theorem low_of {A D : Int} {r : Rat} (hD : D ≠ 0) (h : r = Rat.divInt A D) : Low A D r.num r.den := by
  refine ⟨hD, r.den_pos, ?_, r.reduced⟩
  have hd : (r.den : Int) ≠ 0 := by have := r.den_pos; omega
  have e : Rat.divInt r.num r.den = Rat.divInt A D := by rw [Rat.num_divInt_den]; exact h
  exact (Rat.divInt_eq_divInt_iff hd hD).1 e
theorem RatV.val_low (q : RatV) : Low (rn q.s q.X q.Y) ((rd q.Y : Nat) : Int) q.val.num q.val.den := low_of (rd_ne _) rfl
theorem val_of (r : Rat) (a b : Option Addr) : (⟨ng r.num, a, ln (am r.num), ln (am r.num), am r.num, b, ln r.den, ln r.den, r.den⟩ : RatV).val = r := by
  unfold RatV.val
  show Rat.divInt (rn (ng r.num) (am r.num) r.den) ((rd r.den : Nat) : Int) = r
  rw [rn_nf r.den_pos, rd_nf r.den_pos, Rat.num_divInt_den]
abbrev Fo := List (Int × Rat)
def co (x : Int) : Fo → Rat
  | [] => 0
  | p :: l => (if p.1 = x then p.2 else 0) + co x l
def nrm (l : Fo) : Prop := l.Pairwise (fun a b => a.1 < b.1) ∧ ∀ p ∈ l, p.2 ≠ 0
theorem co_zero {x : Int} : ∀ {l : Fo}, (∀ p ∈ l, p.1 ≠ x) → co x l = 0
  | [], _ => rfl
  | p :: l, h => by
    simp only [co]
    rw [if_neg (h p List.mem_cons_self), co_zero fun q hq => h q (List.mem_cons_of_mem _ hq)]
    exact Rat.add_zero _
theorem nrm.tail {p : Int × Rat} {l : Fo} (h : nrm (p :: l)) : nrm l := ⟨(List.pairwise_cons.1 h.1).2, fun q hq => h.2 q (List.mem_cons_of_mem _ hq)⟩
theorem nrm.head {p : Int × Rat} {l : Fo} (h : nrm (p :: l)) : ∀ q ∈ l, p.1 < q.1 := (List.pairwise_cons.1 h.1).1
theorem nrm.nil : nrm [] := ⟨List.Pairwise.nil, fun p hp => absurd hp (by simp)⟩
theorem nrm.co_head {p : Int × Rat} {l : Fo} (h : nrm (p :: l)) : co p.1 (p :: l) = p.2 := by
  simp only [co, if_true]
  rw [co_zero fun q hq => by have := h.head q hq; omega]
  exact Rat.add_zero _
theorem nrm.below {p : Int × Rat} {l : Fo} {x : Int} (h : nrm (p :: l)) (hx : x < p.1) : co x (p :: l) = 0 :=
  co_zero fun q hq => by
    rcases List.mem_cons.1 hq with rfl | hq
    · omega
    · have := h.head q hq; omega
theorem nrm.uniq : ∀ {l m : Fo}, nrm l → nrm m → (∀ x, co x l = co x m) → l = m
  | [], [], _, _, _ => rfl
  | [], q :: m, _, hm, h => by
    have := h q.1
    rw [hm.co_head] at this
    exact absurd this.symm (hm.2 q List.mem_cons_self)
  | p :: l, [], hl, _, h => by
    have := h p.1
    rw [hl.co_head] at this
    exact absurd this (hl.2 p List.mem_cons_self)
  | p :: l, q :: m, hl, hm, h => by
    have e1 : p.1 = q.1 := by
      rcases Int.lt_trichotomy p.1 q.1 with h1 | h1 | h1
      · have := h p.1
        rw [hl.co_head, hm.below h1] at this
        exact absurd this (hl.2 p List.mem_cons_self)
      · exact h1
      · have := h q.1
        rw [hm.co_head, hl.below h1] at this
        exact absurd this.symm (hm.2 q List.mem_cons_self)
    have e2 : p.2 = q.2 := by
      have := h p.1
      rw [hl.co_head, e1, hm.co_head] at this
      exact this
    have e : p = q := Prod.ext e1 e2
    subst e
    rw [nrm.uniq hl.tail hm.tail fun x => by
      have := h x
      simp only [co] at this
      grind]
theorem nrm.cons {p : Int × Rat} {l : Fo} (h : nrm l) (h1 : ∀ q ∈ l, p.1 < q.1) (h2 : p.2 ≠ 0) : nrm (p :: l) :=
  ⟨List.pairwise_cons.2 ⟨h1, h.1⟩, fun q hq => by
    rcases List.mem_cons.1 hq with rfl | hq
    · exact h2
    · exact h.2 q hq⟩
def wt (r : Rat) : Nat := ln (am r.num) + ln r.den + 1
def wts : Fo → Nat
  | [] => 0
  | p :: l => wt p.2 + wts l
theorem co_le (x : Int) : ∀ (l : Fo), ∃ (A : Int) (D : Nat), 0 < D ∧ co x l = Rat.divInt A (D : Nat) ∧ am A ≤ BB ^ wts l ∧ D ≤ BB ^ wts l
  | [] => ⟨0, 1, Nat.one_pos, by rw [Rat.zero_divInt]; rfl, Nat.zero_le _, Nat.le_refl _⟩
  | p :: l => by
    obtain ⟨A, D, hD, e, h1, h2⟩ := co_le x l
    have hB : ∀ {i j : Nat}, i ≤ j → BB ^ i ≤ BB ^ j := fun h => pow_mono h
    simp only [co, wts]
    split
    · obtain ⟨r, hr⟩ : ∃ r, p.2 = r := ⟨_, rfl⟩
      rw [hr]
      have hd := r.den_pos
      refine ⟨r.num * (D : Nat) + A * (r.den : Nat), r.den * D, Nat.mul_pos hd hD, ?_, ?_⟩
      · rw [e]
        have := Rat.divInt_add_divInt r.num A (d₁ := (r.den : Int)) (d₂ := ((D : Nat) : Int)) (by omega) (by omega)
        rw [Rat.num_divInt_den] at this
        rw [this, Int.natCast_mul]
      · have k1 : am r.num ≤ BB ^ ln (am r.num) := Nat.le_of_lt (ln_lt _)
        have k2 : r.den ≤ BB ^ ln r.den := Nat.le_of_lt (ln_lt _)
        have p1 : r.den * D ≤ BB ^ (ln r.den + wts l) := by rw [Nat.pow_add]; exact Nat.mul_le_mul k2 h2
        have p2 : am (r.num * (D : Nat)) ≤ BB ^ (ln (am r.num) + wts l) := by rw [am_mul, Nat.pow_add]; exact Nat.mul_le_mul k1 h2
        have p3 : am (A * (r.den : Nat)) ≤ BB ^ (wts l + ln r.den) := by rw [am_mul, Nat.pow_add]; exact Nat.mul_le_mul h1 k2
        have q1 : BB ^ (ln r.den + wts l) ≤ BB ^ (ln (am r.num) + ln r.den + wts l) := hB (by omega)
        have q2 : BB ^ (ln (am r.num) + wts l) ≤ BB ^ (ln (am r.num) + ln r.den + wts l) := hB (by omega)
        have q3 : BB ^ (wts l + ln r.den) ≤ BB ^ (ln (am r.num) + ln r.den + wts l) := hB (by omega)
        have p6 : BB ^ (wt r + wts l) = BB ^ (ln (am r.num) + ln r.den + wts l) * BB := by rw [← Nat.pow_succ]; congr 1; unfold wt; omega
        have p7 : am (r.num * (D : Nat) + A * (r.den : Nat)) ≤ am (r.num * (D : Nat)) + am (A * (r.den : Nat)) := Int.natAbs_add_le _ _
        rw [p6]
        generalize BB ^ (ln (am r.num) + ln r.den + wts l) = T at *
        have p8 : T * 2 ≤ T * BB := Nat.mul_le_mul_left _ (by rw [BB_eq]; omega)
        constructor <;> omega
    · refine ⟨A, D, hD, by rw [e, Rat.zero_add], Nat.le_trans h1 (hB (by omega)), Nat.le_trans h2 (hB (by omega))⟩
def sz (N : Nat) (r : Rat) : Prop := ln (am r.num) ≤ N ∧ ln r.den ≤ N
theorem co_sz (x : Int) (l : Fo) : sz (wts l + 1) (co x l) := by
  obtain ⟨A, D, hD, e, h1, h2⟩ := co_le x l
  have hl : BB ^ wts l < BB ^ (wts l + 1) := by
    rw [Nat.pow_succ]
    have : 0 < BB ^ wts l := by rw [BB_eq]; exact Nat.pow_pos (by omega)
    have h3 : BB ^ wts l * 2 ≤ BB ^ wts l * BB := Nat.mul_le_mul_left _ (by rw [BB_eq]; omega)
    omega
  exact ln1 (low_of (by omega) e) (Nat.lt_of_le_of_lt h1 hl) (by show am ((D : Nat) : Int) < _; exact Nat.lt_of_le_of_lt h2 hl) (Nat.le_refl _) (Nat.le_refl _)
theorem sz.mono {N M : Nat} {r : Rat} (h : sz N r) (hM : N ≤ M) : sz M r := ⟨Nat.le_trans h.1 hM, Nat.le_trans h.2 hM⟩
set_option maxHeartbeats 4000000 in
set_option maxRecDepth 100000 in
theorem qSub_is (s0 : Bool) (a0 : Option Addr) (n0 c0 X0 : Nat) (b0 : Option Addr) (m0 d0 Y0 : Nat) (s1 : Bool) (a1 : Option Addr) (n1 c1 X1 : Nat) (b1 : Option Addr) (m1 d1 Y1 : Nat) (Z : Int) (V : Nat) (w : World) (hc0 : n0 ≤ c0) (hm0 : n0 ≤ 35184372088000) (hS0 : Seg w a0 X0 n0) (hd0 : m0 ≤ d0) (hk0 : m0 ≤ 35184372088000) (hT0 : Seg w b0 Y0 m0) (hc1 : n1 ≤ c1) (hm1 : n1 ≤ 35184372088000) (hS1 : Seg w a1 X1 n1) (hd1 : m1 ≤ d1) (hk1 : m1 ≤ 35184372088000) (hT1 : Seg w b1 Y1 m1) (hL : Low (rn s0 X0 Y0 * (rd Y1 : Nat) + -(rn s1 X1 Y1) * (rd Y0 : Nat)) ((rd Y0 : Nat) * (rd Y1 : Nat)) Z V) :
    Calls Tryz.prog 89 #[Value.agg #[Value.bool s0, Value.slice a0 n0 c0, Value.slice b0 m0 d0], Value.agg #[Value.bool s1, Value.slice a1 n1 c1, Value.slice b1 m1 d1]] w fun e w' => ∃ p q, e = .returned (.agg #[.bool (ng Z), .slice p (ln (am Z)) (ln (am Z)), .slice q (ln V) (ln V)]) ∧ New w w' p (am Z) (ln (am Z)) ∧ New w w' q V (ln V) := by
  have HL := hide' hL
  clear hL
  go_enter Tryz.func89, Tryz.ntmps89
  go_wp2_with fail
  obtain ⟨W, hW⟩ : ∃ W, (((w.alloc (.cells #[.bool s0, .slice a0 n0 c0, .slice b0 m0 d0] 27)).alloc (.cells #[.bool s1, .slice a1 n1 c1, .slice b1 m1 d1] 27)).alloc (.cells #[.bool false, .slice none 0 0, .slice none 0 0] 27)) = W := ⟨_, rfl⟩
  have q00 : W.cell? ⟨w.heap.size, 0, none⟩ = some (.bool s0) := by subst hW; go_simp
  have q01 : W.cell? ⟨w.heap.size, 1, none⟩ = some (.slice a0 n0 c0) := by subst hW; go_simp
  have q02 : W.cell? ⟨w.heap.size, 2, none⟩ = some (.slice b0 m0 d0) := by subst hW; go_simp
  have q10 : W.cell? ⟨w.heap.size + 1, 0, none⟩ = some (.bool s1) := by subst hW; go_simp
  have q11 : W.cell? ⟨w.heap.size + 1, 1, none⟩ = some (.slice a1 n1 c1) := by subst hW; go_simp
  have q12 : W.cell? ⟨w.heap.size + 1, 2, none⟩ = some (.slice b1 m1 d1) := by subst hW; go_simp
  have r00 : W.cell? ⟨w.heap.size + 1 + 1, 0, none⟩ = some (.bool false) := by subst hW; go_simp
  have r01 : W.cell? ⟨w.heap.size + 1 + 1, 1, none⟩ = some (.slice none 0 0) := by subst hW; go_simp
  have r02 : W.cell? ⟨w.heap.size + 1 + 1, 2, none⟩ = some (.slice none 0 0) := by subst hW; go_simp
  have hB : Below w.heap.size w W := by subst hW; exact ((((Below.refl _ _).alloc (by (try simp only [World.size_alloc]); omega) _).alloc (by (try simp only [World.size_alloc]); omega) _).alloc (by (try simp only [World.size_alloc]); omega) _)
  have hR0 : Row W (w.heap.size + 1 + 1) := by
    have := row_new (((w.alloc (.cells #[.bool s0, .slice a0 n0 c0, .slice b0 m0 d0] 27)).alloc (.cells #[.bool s1, .slice a1 n1 c1, .slice b1 m1 d1] 27))) #[.bool false, .slice none 0 0, .slice none 0 0] 27
    try simp only [World.size_alloc] at this
    subst hW; exact this
  have hz : W.heap.size = w.heap.size + 1 + 1 + 1 := by subst hW; simp only [World.size_alloc]
  rw [hW]
  clear hW
  have hBW : Below W.heap.size W W := Below.refl _ _
  replace hBW := hBW.drew
  first
    | go_region_held3 (fun w' => w'.cell? ⟨w.heap.size, 0, none⟩ = some (.bool s0) ∧ w'.cell? ⟨w.heap.size, 1, none⟩ = some (.slice a0 n0 c0) ∧ w'.cell? ⟨w.heap.size, 2, none⟩ = some (.slice b0 m0 d0) ∧ w'.cell? ⟨w.heap.size + 1, 0, none⟩ = some (.bool s1) ∧ w'.cell? ⟨w.heap.size + 1, 1, none⟩ = some (.slice a1 n1 c1) ∧ w'.cell? ⟨w.heap.size + 1, 2, none⟩ = some (.slice b1 m1 d1) ∧ Below w.heap.size w w')
        (first | exact ⟨q00, q01, q02, q10, q11, q12, hB.trans (hBW.mono hB.size)⟩ | exact kp6 b11 (by assumption) | exact kp6 b12 (by assumption) | exact kp6 b13 (by assumption) | exact kp6 b14 (by assumption) | exact kp6 (below_alloc _) (by assumption) | exact kp6 (below_alloc _) ⟨q00, q01, q02, q10, q11, q12, hB.trans (hBW.mono hB.size)⟩ | exact kpT6_3 (by assumption) (by omega) (by omega) (by omega) (by omega) (by omega) (by omega) (by omega))
        (first
          | (go_at_call 22; go_at_call_of 22 (Value.agg #[Value.bool s0, Value.slice a0 n0 c0, Value.slice b0 m0 d0]); (fail_if_success clear b11); refine (read_is s0 a0 n0 c0 X0 b0 m0 d0 Y0 35184372088000 _ hc0 hm0 (sb hS0 hB hBW) hd0 hk0 (sb hT0 hB hBW) (by omega) (by omega)).mono ?_; rintro e w11 ⟨zs11, zp11, zn11, zc11, zX11, zq11, zm11, zd11, rfl, ga11, gb11, gc11, gd11, kS11, kT11, ge11, bb11⟩; have b11 := bb11; replace hBW := hBW.trans (b11.mono hBW.size); replace q00 := below_cell b11 q00; replace q01 := below_cell b11 q01; replace q02 := below_cell b11 q02; replace q10 := below_cell b11 q10; replace q11 := below_cell b11 q11; replace q12 := below_cell b11 q12; replace r00 := below_cell b11 r00; replace r01 := below_cell b11 r01; replace r02 := below_cell b11 r02; replace hR0 := below_row b11 hR0)
          | (go_at_call 22; go_at_call_of 22 (Value.agg #[Value.bool s1, Value.slice a1 n1 c1, Value.slice b1 m1 d1]); (fail_if_success clear b12); refine (read_is s1 a1 n1 c1 X1 b1 m1 d1 Y1 35184372088000 _ hc1 hm1 (sb hS1 hB hBW) hd1 hk1 (sb hT1 hB hBW) (by omega) (by omega)).mono ?_; rintro e w12 ⟨zs12, zp12, zn12, zc12, zX12, zq12, zm12, zd12, rfl, ga12, gb12, gc12, gd12, kS12, kT12, ge12, bb12⟩; have b12 := bb12; replace hBW := hBW.trans (b12.mono hBW.size); replace q00 := below_cell b12 q00; replace q01 := below_cell b12 q01; replace q02 := below_cell b12 q02; replace q10 := below_cell b12 q10; replace q11 := below_cell b12 q11; replace q12 := below_cell b12 q12; replace r00 := below_cell b12 r00; replace r01 := below_cell b12 r01; replace r02 := below_cell b12 r02; replace hR0 := below_row b12 hR0; replace kS11 := kS11.later b12; replace kT11 := kT11.later b12)
          | (go_at_call 29; refine (opposite_is zs12 zp12 zn12 zc12 false zq12 zm12 zd12 _).mono ?_; rintro e w13 ⟨rfl, b13⟩; replace hBW := hBW.trans (b13.mono hBW.size); replace q00 := below_cell b13 q00; replace q01 := below_cell b13 q01; replace q02 := below_cell b13 q02; replace q10 := below_cell b13 q10; replace q11 := below_cell b13 q11; replace q12 := below_cell b13 q12; replace r00 := below_cell b13 r00; replace r01 := below_cell b13 r01; replace r02 := below_cell b13 r02; replace hR0 := below_row b13 hR0; replace kS11 := kS11.later b13; replace kT11 := kT11.later b13; replace kS12 := kS12.later b13; replace kT12 := kT12.later b13)
          | (go_at_call 105; (fail_if_success clear b14); refine (qsum_is zs11 zp11 zn11 zc11 zX11 zq11 zm11 zd11 (rd Y0) (!zs12) zp12 zn12 zc12 zX12 zq12 zm12 zd12 (rd Y1) _ _ Z V _ ga11 gb11 kS11 gc11 gd11 kT11 ga12 gb12 kS12 gc12 gd12 kT12 ge11 (by rw [sg_not, ge12]) HL.out).mono ?_; rintro e w14 ⟨p14, q14, rfl, hp14, hq14⟩; have b14 := hp14.below; replace hp14 := hp14.back hBW; replace hq14 := hq14.back hBW; replace hBW := hBW.trans (b14.mono hBW.size); replace q00 := below_cell b14 q00; replace q01 := below_cell b14 q01; replace q02 := below_cell b14 q02; replace q10 := below_cell b14 q10; replace q11 := below_cell b14 q11; replace q12 := below_cell b14 q12; replace r00 := below_cell b14 r00; replace r01 := below_cell b14 r01; replace r02 := below_cell b14 r02; replace hR0 := below_row b14 hR0; replace kS11 := kS11.later b14; replace kT11 := kT11.later b14; replace kS12 := kS12.later b14; replace kT12 := kT12.later b14; have fz := fun o => hR0.frozen o))
    | fail
  have fz0 := fun o => hR0.frozen o
  go_wp2
  all_goals refine bodyPost_ret (v := Value.agg #[Value.bool (ng Z), Value.slice p14 (ln (am Z)) (ln (am Z)), Value.slice q14 (ln V) (ln V)]) (by rw [results_cell rfl]; go_simp) rfl ?_
  all_goals exact ⟨p14, q14, rfl, hp14.mid hB (((((Mid.refl _ _ _).set _ _ (by omega) (by omega) _).set _ _ (by omega) (by omega) _).set _ _ (by omega) (by omega) _)), hq14.mid hB (((((Mid.refl _ _ _).set _ _ (by omega) (by omega) _).set _ _ (by omega) (by omega) _).set _ _ (by omega) (by omega) _))⟩
theorem RatV.ok.on {w w' : World} {q : RatV} (h : q.ok w) (hb : Below w.heap.size w w') : q.ok w' := ⟨h.1.later hb, h.2.1, h.2.2.1, h.2.2.2.1.later hb, h.2.2.2.2.1, h.2.2.2.2.2⟩
def twR (a : RatV) (p q : Option Addr) : RatV := ⟨a.s, p, a.n, a.n, a.X, q, a.m, a.m, a.Y⟩
def nR (r : Rat) (p q : Option Addr) : RatV := ⟨ng r.num, p, ln (am r.num), ln (am r.num), am r.num, q, ln r.den, ln r.den, r.den⟩
theorem nR_val (r : Rat) (p q : Option Addr) : (nR r p q).val = r := val_of r p q
def TA (w : World) (a : RatV) (e : Ending) (w' : World) : Prop := ∃ p q, e = .returned (.agg #[.bool a.s, .slice p a.n a.n, .slice q a.m a.m]) ∧ Below w.heap.size w w' ∧ (twR a p q).ok w'
def QA (w : World) (r : Rat) (e : Ending) (w' : World) : Prop := ∃ p q, e = .returned (.agg #[.bool (ng r.num), .slice p (ln (am r.num)) (ln (am r.num)), .slice q (ln r.den) (ln r.den)]) ∧ Below w.heap.size w w' ∧ (nR r p q).ok w'
theorem szV {w : World} {q : RatV} (h : q.ok w) {N : Nat} (h1 : q.n ≤ N) (h2 : q.m + 1 ≤ N) : sz N q.val := by
  have l1 := Nat.lt_of_le_of_lt (rn_am q.s q.X q.Y) h.1.1
  have l2 := rd_lt h.2.2.2.1.1
  exact ln1 q.val_low l1 (by rw [am_nat]; exact l2) h1 h2
theorem sz_addY {r t : Rat} {N M : Nat} (h : sz N r) (k : sz M t) : sz (2 * N + 2 * M + 3) (r + t) := by
  have e : co 0 [(0, r), (0, t)] = r + t := by simp [co]; grind
  rw [← e]
  refine (co_sz 0 _).mono ?_
  simp only [wts, wt]
  have := h.1; have := h.2; have := k.1; have := k.2
  omega
theorem sz_negY {r : Rat} {N : Nat} (h : sz N r) : sz N (-r) := ⟨by rw [Rat.neg_num, am_neg]; exact h.1, by rw [Rat.neg_den]; exact h.2⟩
theorem ok_nR {w w' : World} {r : Rat} {p q : Option Addr} (hs : sz 100000000 r) (h1 : New w w' p (am r.num) (ln (am r.num))) (h2 : New w w' q r.den (ln r.den)) : (nR r p q).ok w' :=
  ⟨h1.seg, Nat.le_refl _, Nat.le_trans hs.1 (by omega), h2.seg, Nat.le_refl _, Nat.le_trans hs.2 (by omega)⟩
def sR (r : Rat) : Int := sgn r.num
theorem sR_divInt {A : Int} {D : Int} (h : 0 < D) : sR (Rat.divInt A D) = sgn A := by
  have hl := low_of (A := A) (D := D) (Int.ne_of_gt h) rfl
  have e := hl.eq
  have p := hl.pos
  unfold sR
  have h1 : sgn (A * ((Rat.divInt A D).den : Int)) = sgn ((Rat.divInt A D).num * D) := by rw [e]
  rw [sgn_mul_pos (by omega), sgn_mul_pos h] at h1
  exact h1.symm
theorem sR_sub (p q : RatV) : sgn (rn p.s p.X p.Y * (rd q.Y : Nat) - rn q.s q.X q.Y * (rd p.Y : Nat)) = sR (p.val - q.val) := by
  have e : p.val - q.val = Rat.divInt (rn p.s p.X p.Y * (rd q.Y : Nat) - rn q.s q.X q.Y * (rd p.Y : Nat)) ((rd p.Y : Nat) * (rd q.Y : Nat)) := by
    unfold RatV.val
    rw [Rat.divInt_sub_divInt _ _ (rd_ne _) (rd_ne _)]
  have p1 := rd_pos p.Y
  have p2 := rd_pos q.Y
  rw [e, sR_divInt (Int.mul_pos (by omega) (by omega))]
theorem low_subY (p q : RatV) : Low (rn p.s p.X p.Y * (rd q.Y : Nat) + -(rn q.s q.X q.Y) * (rd p.Y : Nat)) ((rd p.Y : Nat) * (rd q.Y : Nat)) (p.val - q.val).num (p.val - q.val).den :=
  low_of (Int.mul_ne_zero (rd_ne _) (rd_ne _)) (by
    unfold RatV.val
    rw [Rat.divInt_sub_divInt _ _ (rd_ne _) (rd_ne _), Int.neg_mul, Int.sub_eq_add_neg])
theorem twinQ (A : RatV) (w : World) (hA : A.ok w) : Calls Tryz.prog 8 #[.agg #[.bool A.s, .slice A.a A.n A.c, .slice A.b A.m A.e]] w (TA w A) := by
  have h1 := hA.2.2.1
  have h2 := hA.2.2.2.2.2
  refine (ltwin_is A.s A.a A.n A.c A.X A.b A.m A.e A.Y w hA.2.1 (by omega) hA.1 hA.2.2.2.2.1 (by omega) hA.2.2.2.1).mono ?_
  rintro e w1 ⟨p, q, rfl, n1, n2⟩
  exact ⟨p, q, rfl, n1.below, n1.seg, Nat.le_refl _, by show A.n ≤ _; omega, n2.seg, Nat.le_refl _, by show A.m ≤ _; omega⟩
theorem subQ (A B : RatV) (S : Rat) (w : World) (hA : A.ok w) (hB : B.ok w) (hn : A.n ≤ 100000000 ∧ A.m ≤ 100000000 ∧ B.n ≤ 100000000 ∧ B.m ≤ 100000000) (hS : A.val - B.val = S) (hz : sz 100000000 S) : Calls Tryz.prog 89 #[.agg #[.bool A.s, .slice A.a A.n A.c, .slice A.b A.m A.e], .agg #[.bool B.s, .slice B.a B.n B.c, .slice B.b B.m B.e]] w (QA w S) := by
  subst hS
  refine (qSub_is A.s A.a A.n A.c A.X A.b A.m A.e A.Y B.s B.a B.n B.c B.X B.b B.m B.e B.Y _ _ w hA.2.1 (by omega) hA.1 hA.2.2.2.2.1 (by omega) hA.2.2.2.1 hB.2.1 (by omega) hB.1 hB.2.2.2.2.1 (by omega) hB.2.2.2.1 (low_subY A B)).mono ?_
  rintro e w1 ⟨p, q, rfl, n1, n2⟩
  exact ⟨p, q, rfl, n1.below, ok_nR hz n1 n2⟩
theorem cmpQ (A B : RatV) (w : World) (hA : A.ok w) (hB : B.ok w) (hn : A.n ≤ 100000000 ∧ A.m ≤ 100000000 ∧ B.n ≤ 100000000 ∧ B.m ≤ 100000000) (C : Int) (hS : sR (A.val - B.val) = C) : Calls Tryz.prog 13 #[.agg #[.bool A.s, .slice A.a A.n A.c, .slice A.b A.m A.e], .agg #[.bool B.s, .slice B.a B.n B.c, .slice B.b B.m B.e]] w fun e w1 => e = .returned (.int .i64 C) ∧ Below w.heap.size w w1 :=
  qCmp_is A.s A.a A.n A.c A.X A.b A.m A.e A.Y B.s B.a B.n B.c B.X B.b B.m B.e B.Y C w hA.2.1 (by omega) hA.1 hA.2.2.2.2.1 (by omega) hA.2.2.2.1 hB.2.1 (by omega) hB.1 hB.2.2.2.2.1 (by omega) hB.2.2.2.1 ((sR_sub A B).trans hS)
theorem seg_setT {w : World} {p : Option Addr} {X n c o : Nat} {u z : Value} (h : Seg w p X n) (hc : w.cell? ⟨c, o, none⟩ = some z) (hz : ∀ i, z ≠ .int .u32 i) : Seg (w.setCell ⟨c, o, none⟩ u) p X n := by
  refine ⟨h.1, fun hn => ?_⟩
  obtain ⟨b, off, rfl, hb, hcell⟩ := h.2 hn
  refine ⟨b, off, rfl, by simpa [World.setCell] using hb, fun i hi => ?_⟩
  have h1 := hcell i hi
  rw [World.cell?_setCell_other _ _ _ _ (fun e => ?_)]
  · exact h1
  · rw [← e, hc] at h1
    simp only [Option.some.injEq] at h1
    exact hz _ h1
def Thr (w : World) (c : Nat) (u0 u1 u2 : Value) : Prop :=
  (w.cell? ⟨c, 0, none⟩ = some u0 ∧ w.cell? ⟨c, 1, none⟩ = some u1 ∧ w.cell? ⟨c, 2, none⟩ = some u2) ∧ Row w c
theorem Thr.later {w w' : World} {c : Nat} {u0 u1 u2 : Value} (h : Thr w c u0 u1 u2) (hb : Below w.heap.size w w') : Thr w' c u0 u1 u2 :=
  ⟨⟨below_cell hb h.1.1, below_cell hb h.1.2.1, below_cell hb h.1.2.2⟩, below_row hb h.2⟩
abbrev set3 (w : World) (c : Nat) (u0 u1 u2 : Value) : World := ((w.setCell ⟨c, 0, none⟩ u0).setCell ⟨c, 1, none⟩ u1).setCell ⟨c, 2, none⟩ u2
theorem Thr.put {w : World} {c : Nat} {u0 u1 u2 z0 z1 z2 : Value} (h : Thr w c z0 z1 z2) : Thr (set3 w c u0 u1 u2) c u0 u1 u2 :=
  ⟨set3_same h.1.1 h.1.2.1 h.1.2.2, ((h.2.setCell _ _).setCell _ _).setCell _ _⟩
theorem Thr.far {w : World} {c r : Nat} {u0 u1 u2 z0 z1 z2 : Value} (h : Thr w r z0 z1 z2) (hne : c ≠ r) : Thr (set3 w c u0 u1 u2) r z0 z1 z2 :=
  ⟨⟨by rw [set3_far hne]; exact h.1.1, by rw [set3_far hne]; exact h.1.2.1, by rw [set3_far hne]; exact h.1.2.2⟩, ((h.2.setCell _ _).setCell _ _).setCell _ _⟩
theorem Thr.seg {w : World} {c : Nat} {u0 u1 u2 z0 z1 z2 : Value} (h : Thr w c z0 z1 z2) (k0 : ∀ i, z0 ≠ .int .u32 i) (k1 : ∀ i, z1 ≠ .int .u32 i) (k2 : ∀ i, z2 ≠ .int .u32 i) {p : Option Addr} {X n : Nat} (hS : Seg w p X n) : Seg (set3 w c u0 u1 u2) p X n := by
  refine seg_setT (z := z2) (seg_setT (z := z1) (seg_setT (z := z0) hS h.1.1 k0) ?_ k1) ?_ k2
  · rw [World.cell?_setCell_other _ _ _ _ (fun e => by simp at e)]; exact h.1.2.1
  · rw [World.cell?_setCell_other _ _ _ _ (fun e => by simp at e), World.cell?_setCell_other _ _ _ _ (fun e => by simp at e)]; exact h.1.2.2
structure Fl (A D Z G : Int) : Prop where
  eq : Z * D + G = A
  ge : 0 ≤ G
  lt : G < D
theorem Fl.am {A D Z G : Int} (h : Fl A D Z G) (hD : 0 < D) : am Z ≤ am A + 1 := by
  have h1 := h.eq
  have h2 := h.ge
  have h3 := h.lt
  unfold Proofs.YtejlnodillnoaaaGreatDoor.am
  rcases Int.lt_or_le Z 0 with k | k
  · have e1 : Z * D ≤ Z * 1 := Int.mul_le_mul_of_nonpos_left (by omega) (by omega)
    have e2 : (Z + 1) * D ≤ (Z + 1) * 1 := Int.mul_le_mul_of_nonpos_left (by omega) (by omega)
    rw [Int.add_mul] at e2
    omega
  · have e1 : Z * 1 ≤ Z * D := Int.mul_le_mul_of_nonneg_left (by omega) k
    omega
theorem Fl.same {A D Z G A' D' Z' G' : Int} (h : Fl A D Z G) (hD : 0 < D) (h' : Fl A' D' Z' G') (hD' : 0 < D') (e : A' * D = A * D') : Z' = Z := by
  have h1 := h.eq
  have h2 := h'.eq
  have a1 := h.ge
  have a2 := h.lt
  have b1 := h'.ge
  have b2 := h'.lt
  -- both are within 1 of the same number
  have e2 : (Z' - Z) * (D * D') = G * D' - G' * D := by
    rw [← h1, ← h2] at e
    grind
  have c1 : 0 ≤ G * D' := Int.mul_nonneg a1 (by omega)
  have c2 : 0 ≤ G' * D := Int.mul_nonneg b1 (by omega)
  have c3 : G * D' < D * D' := Int.mul_lt_mul_of_pos_right a2 hD'
  have c4 : G' * D < D' * D := Int.mul_lt_mul_of_pos_right b2 hD
  have c5 : D' * D = D * D' := Int.mul_comm _ _
  have hp : 0 < D * D' := Int.mul_pos hD hD'
  rcases Int.lt_trichotomy (Z' - Z) 0 with k | k | k
  · have : (Z' - Z) * (D * D') ≤ (-1) * (D * D') := Int.mul_le_mul_of_nonneg_right (by omega) (by omega)
    omega
  · omega
  · have : 1 * (D * D') ≤ (Z' - Z) * (D * D') := Int.mul_le_mul_of_nonneg_right (by omega) (by omega)
    omega
theorem vsubQ (A B : RatV) (S : Rat) (w : World) (hA : A.ok w) (hB : B.ok w) (hn : A.n ≤ 100000000 ∧ A.m ≤ 100000000 ∧ B.n ≤ 100000000 ∧ B.m ≤ 100000000) (hS : A.val - B.val = S) (hz : sz 100000000 S) : Calls Tryz.prog 36 #[.agg #[.bool A.s, .slice A.a A.n A.c, .slice A.b A.m A.e], .agg #[.bool B.s, .slice B.a B.n B.c, .slice B.b B.m B.e]] w (QA w S) := by
  subst hS
  refine (vqSub_is A.s A.a A.n A.c A.X A.b A.m A.e A.Y B.s B.a B.n B.c B.X B.b B.m B.e B.Y _ _ w hA.2.1 (by omega) hA.1 hA.2.2.2.2.1 (by omega) hA.2.2.2.1 hB.2.1 (by omega) hB.1 hB.2.2.2.2.1 (by omega) hB.2.2.2.1 (low_subY A B)).mono ?_
  rintro e w1 ⟨p, q, rfl, n1, n2⟩
  exact ⟨p, q, rfl, n1.below, ok_nR hz n1 n2⟩
theorem vcmpQ (A B : RatV) (w : World) (hA : A.ok w) (hB : B.ok w) (hn : A.n ≤ 100000000 ∧ A.m ≤ 100000000 ∧ B.n ≤ 100000000 ∧ B.m ≤ 100000000) (C : Int) (hS : sR (A.val - B.val) = C) : Calls Tryz.prog 15 #[.agg #[.bool A.s, .slice A.a A.n A.c, .slice A.b A.m A.e], .agg #[.bool B.s, .slice B.a B.n B.c, .slice B.b B.m B.e]] w fun e w1 => e = .returned (.int .i64 C) ∧ Below w.heap.size w w1 :=
  vqCmp_is A.s A.a A.n A.c A.X A.b A.m A.e A.Y B.s B.a B.n B.c B.X B.b B.m B.e B.Y C w hA.2.1 (by omega) hA.1 hA.2.2.2.2.1 (by omega) hA.2.2.2.1 hB.2.1 (by omega) hB.1 hB.2.2.2.2.1 (by omega) hB.2.2.2.1 ((sR_sub A B).trans hS)
theorem vnormQ (A : RatV) (S : Rat) (w : World) (hA : A.ok w) (hS : A.val = S) (hz : sz 100000000 S) : Calls Tryz.prog 14 #[.agg #[.bool A.s, .slice A.a A.n A.c, .slice A.b A.m A.e]] w (QA w S) := by
  subst hS
  have h1 := hA.2.2.1
  have h2 := hA.2.2.2.2.2
  refine (vqNorm_is A.s A.a A.n A.c A.X A.b A.m A.e A.Y _ _ w (by omega) hA.1 (by omega) hA.2.2.2.1 A.val_low).mono ?_
  rintro e w1 ⟨p, q, rfl, n1, n2⟩
  exact ⟨p, q, rfl, n1.below, ok_nR hz n1 n2⟩
def absR (r : Rat) : Rat := Rat.divInt (am r.num : Nat) (r.den : Int)
theorem absR_val (A : RatV) : absR A.val = Rat.divInt ((am (rn A.s A.X A.Y) : Nat) : Int) ((rd A.Y : Nat) : Int) := by
  have h := A.val_low
  unfold absR
  have hd := A.val.den_pos
  rw [Rat.divInt_eq_divInt_iff (by omega) (rd_ne _)]
  have e := h.eq
  have e2 : am (A.val.num * ((rd A.Y : Nat) : Int)) = am (rn A.s A.X A.Y * (A.val.den : Int)) := by rw [e]
  rw [am_mul, am_mul, am_nat, am_nat] at e2
  exact_mod_cast e2
theorem vabsQ (A : RatV) (S : Rat) (w : World) (hA : A.ok w) (hS : absR A.val = S) (hz : sz 100000000 S) (hn : A.n ≤ 100000000 ∧ A.m ≤ 100000000) : Calls Tryz.prog 61 #[.agg #[.bool A.s, .slice A.a A.n A.c, .slice A.b A.m A.e]] w (QA w S) := by
  subst hS
  refine (vqAbs_is A.s A.a A.n A.c A.X A.b A.m A.e A.Y _ _ w hA.2.1 (by omega) hA.1 hA.2.2.2.2.1 (by omega) hA.2.2.2.1 (low_of (rd_ne _) (absR_val A))).mono ?_
  rintro e w1 ⟨p, q, rfl, n1, n2⟩
  exact ⟨p, q, rfl, n1.below, ok_nR hz n1 n2⟩
end Go.Proofs.YtejlnodillnoaaaGreatDoor
