/-
  RatioQuotients.
-/
import Derived.Test.YtkdmciiighjffaaWQC
import Derived.Test.YtkdmciiighjffaaWQD
import Derived.Test.YtkdmciiighjffaaWQA
import Derived.Test.YtkdmciiighjffaaOpenQ
namespace Go.Proofs.Ytkdmciiighjffaa.ratioQuotients
open Go.ChangeShapes Go.WideShapes Go.ChangeAt Go.RowKit Go.Proofs.Ytkdmciiighjffaa
set_option linter.unusedVariables false

theorem seg_a (w : World) (o : Obj) (t : TypeId) (x : Int) {X : Nat} (e : x = (X : Nat)) (h : X < 4294967296) : Seg ((w.alloc (.cells #[.int .u32 x] t)).alloc o) (some ⟨w.heap.size, 0, none⟩) X 1 :=
  (single_new w X t x h e).seg.later (below_alloc o)
theorem seg_b (w : World) (o : Obj) (t : TypeId) (x : Int) {X : Nat} (e : x = (X : Nat)) (h : X < 4294967296) : Seg ((w.alloc o).alloc (.cells #[.int .u32 x] t)) (some ⟨w.heap.size + 1, 0, none⟩) X 1 := by
  have := (single_new (w.alloc o) X t x h e).seg
  rwa [World.size_alloc] at this
theorem low_half : Low (rn false 1 2) ((rd 2 : Nat) : Int) 1 2 := by
  rw [rn_of (by omega), rd_of (by omega)]
  exact ⟨by decide, by omega, by decide, by decide⟩
theorem low_36 : Low (rn (ng 3) (am 3) 1 * ((rd 1 : Nat) : Int)) (((rd 1 : Nat) : Int) * rn (ng 6) (am 6) 1) 1 2 := by
  rw [rn_nf (by omega), rn_nf (by omega), rd_nf (by omega)]
  exact ⟨by decide, by omega, by decide, by decide⟩

set_option maxHeartbeats 8000000 in
set_option maxRecDepth 100000 in
theorem walk_zero (s0 : Bool) (a0 : Option Addr) (n0 c0 X0 : Nat) (b0 : Option Addr) (m0 d0 Y0 : Nat) (s1 : Bool) (a1 : Option Addr) (n1 c1 X1 : Nat) (b1 : Option Addr) (m1 d1 Y1 : Nat) (w : World) (hc0 : n0 ≤ c0) (hm0 : n0 ≤ 35184372087808) (hS0 : Seg w a0 X0 n0) (hd0 : m0 ≤ d0) (hk0 : m0 ≤ 35184372087808) (hT0 : Seg w b0 Y0 m0) (hc1 : n1 ≤ c1) (hm1 : n1 ≤ 35184372087808) (hS1 : Seg w a1 X1 n1) (hd1 : m1 ≤ d1) (hk1 : m1 ≤ 35184372087808) (hT1 : Seg w b1 Y1 m1) (h0 : rn s1 X1 Y1 = 0) :
    Calls Try.prog 4 #[Value.agg #[Value.bool s0, Value.slice a0 n0 c0, Value.slice b0 m0 d0], Value.agg #[Value.bool s1, Value.slice a1 n1 c1, Value.slice b1 m1 d1]] w fun e w' => e = .returned (.bool true) ∧ Below w.heap.size w w' := by
  have H0 := hide' h0
  clear h0
  have l3 : ln (am 3) ≤ 2 := ln_le_of_lt (by rw [BB2]; decide)
  have l6 : ln (am 6) ≤ 2 := ln_le_of_lt (by rw [BB2]; decide)
  have lo : ln 1 ≤ 2 := by rw [ln_one]; omega
  have lt : ln 2 ≤ 2 := ln_le_of_lt (by rw [BB2]; decide)
  obtain ⟨T3, hT3⟩ : ∃ T3 : Int, 3 = T3 := ⟨_, rfl⟩
  obtain ⟨T6, hT6⟩ : ∃ T6 : Int, 6 = T6 := ⟨_, rfl⟩
  obtain ⟨O1, hO1⟩ : ∃ O1 : Nat, 1 = O1 := ⟨_, rfl⟩
  obtain ⟨J1, hJ1⟩ : ∃ J1 : Int, 1 = J1 := ⟨_, rfl⟩
  obtain ⟨J2, hJ2⟩ : ∃ J2 : Nat, 2 = J2 := ⟨_, rfl⟩
  have HW3 : ∀ w', Calls Try.prog 24 #[.int .i64 3] w' fun e w'' => ∃ p q, e = .returned (.agg #[.bool (ng T3), .slice p (ln (am T3)) (ln (am T3)), .slice q (ln O1) (ln O1)]) ∧ New w' w'' p (am T3) (ln (am T3)) ∧ New w' w'' q O1 (ln O1) := fun w' => by subst hT3 hO1; exact qWhole_is 3 w' (by omega) (by omega)
  have HW6 : ∀ w', Calls Try.prog 24 #[.int .i64 6] w' fun e w'' => ∃ p q, e = .returned (.agg #[.bool (ng T6), .slice p (ln (am T6)) (ln (am T6)), .slice q (ln O1) (ln O1)]) ∧ New w' w'' p (am T6) (ln (am T6)) ∧ New w' w'' q O1 (ln O1) := fun w' => by subst hT6 hO1; exact qWhole_is 6 w' (by omega) (by omega)
  have HDV : ∀ w' p q p2 q2, Seg w' p (am T3) (ln (am T3)) → Seg w' q O1 (ln O1) → Seg w' p2 (am T6) (ln (am T6)) → Seg w' q2 O1 (ln O1) → Calls Try.prog 22 #[.agg #[.bool (ng T3), .slice p (ln (am T3)) (ln (am T3)), .slice q (ln O1) (ln O1)], .agg #[.bool (ng T6), .slice p2 (ln (am T6)) (ln (am T6)), .slice q2 (ln O1) (ln O1)]] w' fun e w'' => ∃ p q, e = .returned (.tuple #[.agg #[.bool (ng J1), .slice p (ln (am J1)) (ln (am J1)), .slice q (ln J2) (ln J2)], .int .i64 0]) ∧ New w' w'' p (am J1) (ln (am J1)) ∧ New w' w'' q J2 (ln J2) := fun w' p q p2 q2 k1 k2 k3 k4 => by
    subst hT3 hT6 hO1 hJ1 hJ2
    exact qDiv_is (ng 3) p (ln (am 3)) (ln (am 3)) (am 3) q (ln 1) (ln 1) 1 (ng 6) p2 (ln (am 6)) (ln (am 6)) (am 6) q2 (ln 1) (ln 1) 1 1 2 w' (Nat.le_refl _) (by omega) k1 (Nat.le_refl _) (by omega) k2 (Nat.le_refl _) (by omega) k3 (Nat.le_refl _) (by omega) k4 low_36
  have HNM : ∀ w' p q, Seg w' p 1 1 → Seg w' q 2 1 → Calls Try.prog 25 #[.agg #[.bool false, .slice p 1 1, .slice q 1 1]] w' fun e w'' => ∃ p q, e = .returned (.agg #[.bool (ng J1), .slice p (ln (am J1)) (ln (am J1)), .slice q (ln J2) (ln J2)]) ∧ New w' w'' p (am J1) (ln (am J1)) ∧ New w' w'' q J2 (ln J2) := fun w' p q k1 k2 => by
    subst hJ1 hJ2
    exact vqNorm_is false p 1 1 1 q 1 1 2 2 1 w' (by omega) k1 (by omega) k2 low_half
  have lJ1 : ln (am J1) ≤ 2 := by rw [← hJ1]; exact ln_le_of_lt (by rw [BB2]; decide)
  have lJ2 : ln J2 ≤ 2 := by rw [← hJ2]; exact lt
  have G3 := hide' HW3
  have G6 := hide' HW6
  have GD := hide' HDV
  have GN := hide' HNM
  clear HW3 HW6 HDV HNM hT3 hT6 hO1 hJ1 hJ2 l3 l6 lo lt
  go_enter Try.func4, Try.ntmps4
  go_wp2_with fail
  obtain ⟨W, hW⟩ : ∃ W, ((w.alloc (.cells #[.bool s0, .slice a0 n0 c0, .slice b0 m0 d0] 27)).alloc (.cells #[.bool s1, .slice a1 n1 c1, .slice b1 m1 d1] 27)) = W := ⟨_, rfl⟩
  have q00 : W.cell? ⟨w.heap.size, 0, none⟩ = some (.bool s0) := by subst hW; go_simp
  have q01 : W.cell? ⟨w.heap.size, 1, none⟩ = some (.slice a0 n0 c0) := by subst hW; go_simp
  have q02 : W.cell? ⟨w.heap.size, 2, none⟩ = some (.slice b0 m0 d0) := by subst hW; go_simp
  have q10 : W.cell? ⟨w.heap.size + 1, 0, none⟩ = some (.bool s1) := by subst hW; go_simp
  have q11 : W.cell? ⟨w.heap.size + 1, 1, none⟩ = some (.slice a1 n1 c1) := by subst hW; go_simp
  have q12 : W.cell? ⟨w.heap.size + 1, 2, none⟩ = some (.slice b1 m1 d1) := by subst hW; go_simp
  have hB : Below w.heap.size w W := by subst hW; exact (((Below.refl _ _).alloc (by (try simp only [World.size_alloc]); omega) _).alloc (by (try simp only [World.size_alloc]); omega) _)
  have hz : W.heap.size = w.heap.size + 1 + 1 := by subst hW; simp only [World.size_alloc]
  rw [hW]
  clear hW
  have hBW : Below W.heap.size W W := Below.refl _ _
  refine (ltwin_is s1 a1 n1 c1 X1 b1 m1 d1 Y1 _ hc1 (by omega) (sb hS1 hB hBW) hd1 (by omega) (sb hT1 hB hBW)).mono ?_
  rintro e w41 ⟨p41, q41, rfl, hp41, hq41⟩
  have b41 := hp41.below
  replace hp41 := hp41.back hBW
  replace hq41 := hq41.back hBW
  replace hBW := hBW.trans (b41.mono hBW.size)
  replace q00 := below_cell b41 q00
  replace q01 := below_cell b41 q01
  replace q02 := below_cell b41 q02
  replace q10 := below_cell b41 q10
  replace q11 := below_cell b41 q11
  replace q12 := below_cell b41 q12
  go_wp2_with fail
  refine (qInv_zero s1 p41 n1 n1 X1 q41 m1 m1 Y1 _ (Nat.le_refl _) (by omega) hp41.seg (Nat.le_refl _) (by omega) hq41.seg H0.out).mono ?_
  rintro e w42 ⟨rfl, b42⟩
  replace hBW := hBW.trans (b42.mono hBW.size)
  replace q00 := below_cell b42 q00
  replace q01 := below_cell b42 q01
  replace q02 := below_cell b42 q02
  replace q10 := below_cell b42 q10
  replace q11 := below_cell b42 q11
  replace q12 := below_cell b42 q12
  replace hp41 := hp41.later b42
  replace hq41 := hq41.later b42
  have hsz42 := hBW.size
  have l4200 : ((w42.alloc (.cells #[.bool false, .slice none 0 0, .slice none 0 0] 27))).cell? ⟨w42.heap.size, 0, none⟩ = some (.bool false) := by go_simp
  have l4201 : ((w42.alloc (.cells #[.bool false, .slice none 0 0, .slice none 0 0] 27))).cell? ⟨w42.heap.size, 1, none⟩ = some (.slice none 0 0) := by go_simp
  have l4202 : ((w42.alloc (.cells #[.bool false, .slice none 0 0, .slice none 0 0] 27))).cell? ⟨w42.heap.size, 2, none⟩ = some (.slice none 0 0) := by go_simp
  have cb42 : Below w42.heap.size w42 ((w42.alloc (.cells #[.bool false, .slice none 0 0, .slice none 0 0] 27))) := ((Below.refl _ _).alloc (by (try simp only [World.size_alloc]); omega) _)
  replace hBW := hBW.trans (cb42.mono hBW.size)
  replace q00 := below_cell cb42 q00
  replace q01 := below_cell cb42 q01
  replace q02 := below_cell cb42 q02
  replace q10 := below_cell cb42 q10
  replace q11 := below_cell cb42 q11
  replace q12 := below_cell cb42 q12
  replace hp41 := hp41.later cb42
  replace hq41 := hq41.later cb42
  have hL420 : Row ((w42.alloc (.cells #[.bool false, .slice none 0 0, .slice none 0 0] 27))) (w42.heap.size) := by
    have := row_new (w42) #[.bool false, .slice none 0 0, .slice none 0 0] 27
    try simp only [World.size_alloc] at this
    exact this
  go_wp2_with fail
  generalize (w42.alloc (.cells #[.bool false, .slice none 0 0, .slice none 0 0] 27)) = w42x at q00 q01 q02 q10 q11 q12 l4200 l4201 l4202 hL420 hp41 hq41 hBW cb42 ⊢
  clear cb42
  refine (vqInv_zero s1 a1 n1 c1 X1 b1 m1 d1 Y1 _ hc1 (by omega) (sb hS1 hB hBW) hd1 (by omega) (sb hT1 hB hBW) H0.out).mono ?_
  rintro e w43 ⟨rfl, b43⟩
  replace hBW := hBW.trans (b43.mono hBW.size)
  replace q00 := below_cell b43 q00
  replace q01 := below_cell b43 q01
  replace q02 := below_cell b43 q02
  replace q10 := below_cell b43 q10
  replace q11 := below_cell b43 q11
  replace q12 := below_cell b43 q12
  replace l4200 := below_cell b43 l4200
  replace l4201 := below_cell b43 l4201
  replace l4202 := below_cell b43 l4202
  replace hL420 := below_row b43 hL420
  replace hp41 := hp41.later b43
  replace hq41 := hq41.later b43
  have hsz43 := hBW.size
  have hlt43hL420 := hL420.lt
  have l4300 : ((w43.alloc (.cells #[.bool false, .slice none 0 0, .slice none 0 0] 27))).cell? ⟨w43.heap.size, 0, none⟩ = some (.bool false) := by go_simp
  have l4301 : ((w43.alloc (.cells #[.bool false, .slice none 0 0, .slice none 0 0] 27))).cell? ⟨w43.heap.size, 1, none⟩ = some (.slice none 0 0) := by go_simp
  have l4302 : ((w43.alloc (.cells #[.bool false, .slice none 0 0, .slice none 0 0] 27))).cell? ⟨w43.heap.size, 2, none⟩ = some (.slice none 0 0) := by go_simp
  have cb43 : Below w43.heap.size w43 ((w43.alloc (.cells #[.bool false, .slice none 0 0, .slice none 0 0] 27))) := ((Below.refl _ _).alloc (by (try simp only [World.size_alloc]); omega) _)
  replace hBW := hBW.trans (cb43.mono hBW.size)
  replace q00 := below_cell cb43 q00
  replace q01 := below_cell cb43 q01
  replace q02 := below_cell cb43 q02
  replace q10 := below_cell cb43 q10
  replace q11 := below_cell cb43 q11
  replace q12 := below_cell cb43 q12
  replace l4200 := below_cell cb43 l4200
  replace l4201 := below_cell cb43 l4201
  replace l4202 := below_cell cb43 l4202
  replace hL420 := below_row cb43 hL420
  replace hp41 := hp41.later cb43
  replace hq41 := hq41.later cb43
  have hL430 : Row ((w43.alloc (.cells #[.bool false, .slice none 0 0, .slice none 0 0] 27))) (w43.heap.size) := by
    have := row_new (w43) #[.bool false, .slice none 0 0, .slice none 0 0] 27
    try simp only [World.size_alloc] at this
    exact this
  go_wp2_with fail
  generalize (w43.alloc (.cells #[.bool false, .slice none 0 0, .slice none 0 0] 27)) = w43x at q00 q01 q02 q10 q11 q12 l4200 l4201 l4202 l4300 l4301 l4302 hL420 hL430 hp41 hq41 hBW cb43 ⊢
  clear cb43
  have hsB := hBW.size
  replace hB := hB.trans (hBW.mono hB.size)
  have hltBhL420 := hL420.lt
  have hltBhL430 := hL430.lt
  clear hBW
  have hBW : Below w43x.heap.size w43x w43x := Below.refl _ _
  have khp41 := hp41.seg
  clear hp41
  have khq41 := hq41.seg
  clear hq41
  refine (none_is _).mono ?_
  rintro e w44 ⟨rfl, b44⟩
  replace hBW := hBW.trans (b44.mono hBW.size)
  replace q00 := below_cell b44 q00
  replace q01 := below_cell b44 q01
  replace q02 := below_cell b44 q02
  replace q10 := below_cell b44 q10
  replace q11 := below_cell b44 q11
  replace q12 := below_cell b44 q12
  replace l4200 := below_cell b44 l4200
  replace l4201 := below_cell b44 l4201
  replace l4202 := below_cell b44 l4202
  replace l4300 := below_cell b44 l4300
  replace l4301 := below_cell b44 l4301
  replace l4302 := below_cell b44 l4302
  replace hL420 := below_row b44 hL420
  replace hL430 := below_row b44 hL430
  replace khp41 := khp41.later b44
  replace khq41 := khq41.later b44
  clear khp41 khq41
  go_wp2_with fail
  replace hBW := hBW.drew
  first
    | go_region_held3 (fun w' => w'.cell? ⟨w.heap.size, 0, none⟩ = some (.bool s0) ∧ w'.cell? ⟨w.heap.size, 1, none⟩ = some (.slice a0 n0 c0) ∧ w'.cell? ⟨w.heap.size, 2, none⟩ = some (.slice b0 m0 d0) ∧ w'.cell? ⟨w.heap.size + 1, 0, none⟩ = some (.bool s1) ∧ w'.cell? ⟨w.heap.size + 1, 1, none⟩ = some (.slice a1 n1 c1) ∧ w'.cell? ⟨w.heap.size + 1, 2, none⟩ = some (.slice b1 m1 d1) ∧ Below w.heap.size w w')
        (first | exact ⟨q00, q01, q02, q10, q11, q12, hB.trans (hBW.mono hB.size)⟩ | exact kp6 b45 (by assumption) | exact kp6 b46 (by assumption) | exact kp6 b47 (by assumption) | exact kp6 (below_alloc _) (by assumption) | exact kp6 (below_alloc _) ⟨q00, q01, q02, q10, q11, q12, hB.trans (hBW.mono hB.size)⟩ | exact kpT6_3 (by assumption) (by omega) (by omega) (by omega) (by omega) (by omega) (by omega) (by omega))
        (first
          | (go_at_call 6; go_at_call_of 6 (Value.agg #[Value.bool s0, Value.slice a0 n0 c0, Value.slice b0 m0 d0]); (fail_if_success clear b45); refine (ltwin_is s0 a0 n0 c0 X0 b0 m0 d0 Y0 _ hc0 (by omega) (sb hS0 hB hBW) hd0 (by omega) (sb hT0 hB hBW)).mono ?_; rintro e w45 ⟨p45, q45, rfl, hp45, hq45⟩; have b45 := hp45.below; replace hp45 := hp45.back hBW; replace hq45 := hq45.back hBW; replace hBW := hBW.trans (b45.mono hBW.size); replace q00 := below_cell b45 q00; replace q01 := below_cell b45 q01; replace q02 := below_cell b45 q02; replace q10 := below_cell b45 q10; replace q11 := below_cell b45 q11; replace q12 := below_cell b45 q12; replace l4200 := below_cell b45 l4200; replace l4201 := below_cell b45 l4201; replace l4202 := below_cell b45 l4202; replace l4300 := below_cell b45 l4300; replace l4301 := below_cell b45 l4301; replace l4302 := below_cell b45 l4302; replace hL420 := below_row b45 hL420; replace hL430 := below_row b45 hL430)
          | (go_at_call 6; go_at_call_of 6 (Value.agg #[Value.bool s1, Value.slice a1 n1 c1, Value.slice b1 m1 d1]); (fail_if_success clear b46); refine (ltwin_is s1 a1 n1 c1 X1 b1 m1 d1 Y1 _ hc1 (by omega) (sb hS1 hB hBW) hd1 (by omega) (sb hT1 hB hBW)).mono ?_; rintro e w46 ⟨p46, q46, rfl, hp46, hq46⟩; have b46 := hp46.below; replace hp46 := hp46.back hBW; replace hq46 := hq46.back hBW; replace hBW := hBW.trans (b46.mono hBW.size); replace q00 := below_cell b46 q00; replace q01 := below_cell b46 q01; replace q02 := below_cell b46 q02; replace q10 := below_cell b46 q10; replace q11 := below_cell b46 q11; replace q12 := below_cell b46 q12; replace l4200 := below_cell b46 l4200; replace l4201 := below_cell b46 l4201; replace l4202 := below_cell b46 l4202; replace l4300 := below_cell b46 l4300; replace l4301 := below_cell b46 l4301; replace l4302 := below_cell b46 l4302; replace hL420 := below_row b46 hL420; replace hL430 := below_row b46 hL430; replace hp45 := hp45.later b46; replace hq45 := hq45.later b46)
          | (go_at_call 22; refine (qDiv_zero s0 p45 n0 n0 X0 q45 m0 m0 Y0 s1 p46 n1 n1 X1 q46 m1 m1 Y1 _ (Nat.le_refl _) (by omega) hp45.seg (Nat.le_refl _) (by omega) hq45.seg (Nat.le_refl _) (by omega) hp46.seg (Nat.le_refl _) (by omega) hq46.seg H0.out).mono ?_; rintro e w47 ⟨rfl, b47⟩; replace hBW := hBW.trans (b47.mono hBW.size); replace q00 := below_cell b47 q00; replace q01 := below_cell b47 q01; replace q02 := below_cell b47 q02; replace q10 := below_cell b47 q10; replace q11 := below_cell b47 q11; replace q12 := below_cell b47 q12; replace l4200 := below_cell b47 l4200; replace l4201 := below_cell b47 l4201; replace l4202 := below_cell b47 l4202; replace l4300 := below_cell b47 l4300; replace l4301 := below_cell b47 l4301; replace l4302 := below_cell b47 l4302; replace hL420 := below_row b47 hL420; replace hL430 := below_row b47 hL430; replace hp45 := hp45.later b47; replace hq45 := hq45.later b47; replace hp46 := hp46.later b47; replace hq46 := hq46.later b47; have fz := fun o => hL420.frozen o))
    | fail
  clear hp45 hq45 hp46 hq46
  have hsB := hBW.size
  have hM : Mid w.heap.size w43x.heap.size w47 (((w47.setCell ⟨w42.heap.size, 0, none⟩ (.bool false)).setCell ⟨w42.heap.size, 1, none⟩ (.slice none 0 0)).setCell ⟨w42.heap.size, 2, none⟩ (.slice none 0 0)) := ((((Mid.refl _ _ _).set _ _ (by omega) (by omega) _).set _ _ (by omega) (by omega) _).set _ _ (by omega) (by omega) _)
  have eM := set3_same (w := w47) (c := w42.heap.size) (u0 := .bool false) (u1 := .slice none 0 0) (u2 := .slice none 0 0) l4200 l4201 l4202
  have q00_ : ((((w47.setCell ⟨w42.heap.size, 0, none⟩ (.bool false)).setCell ⟨w42.heap.size, 1, none⟩ (.slice none 0 0)).setCell ⟨w42.heap.size, 2, none⟩ (.slice none 0 0))).cell? ⟨w.heap.size, 0, none⟩ = some (.bool s0) := (set3_far (by omega)).trans q00
  have q01_ : ((((w47.setCell ⟨w42.heap.size, 0, none⟩ (.bool false)).setCell ⟨w42.heap.size, 1, none⟩ (.slice none 0 0)).setCell ⟨w42.heap.size, 2, none⟩ (.slice none 0 0))).cell? ⟨w.heap.size, 1, none⟩ = some (.slice a0 n0 c0) := (set3_far (by omega)).trans q01
  have q02_ : ((((w47.setCell ⟨w42.heap.size, 0, none⟩ (.bool false)).setCell ⟨w42.heap.size, 1, none⟩ (.slice none 0 0)).setCell ⟨w42.heap.size, 2, none⟩ (.slice none 0 0))).cell? ⟨w.heap.size, 2, none⟩ = some (.slice b0 m0 d0) := (set3_far (by omega)).trans q02
  have q10_ : ((((w47.setCell ⟨w42.heap.size, 0, none⟩ (.bool false)).setCell ⟨w42.heap.size, 1, none⟩ (.slice none 0 0)).setCell ⟨w42.heap.size, 2, none⟩ (.slice none 0 0))).cell? ⟨w.heap.size + 1, 0, none⟩ = some (.bool s1) := (set3_far (by omega)).trans q10
  have q11_ : ((((w47.setCell ⟨w42.heap.size, 0, none⟩ (.bool false)).setCell ⟨w42.heap.size, 1, none⟩ (.slice none 0 0)).setCell ⟨w42.heap.size, 2, none⟩ (.slice none 0 0))).cell? ⟨w.heap.size + 1, 1, none⟩ = some (.slice a1 n1 c1) := (set3_far (by omega)).trans q11
  have q12_ : ((((w47.setCell ⟨w42.heap.size, 0, none⟩ (.bool false)).setCell ⟨w42.heap.size, 1, none⟩ (.slice none 0 0)).setCell ⟨w42.heap.size, 2, none⟩ (.slice none 0 0))).cell? ⟨w.heap.size + 1, 2, none⟩ = some (.slice b1 m1 d1) := (set3_far (by omega)).trans q12
  have l4200_ : ((((w47.setCell ⟨w42.heap.size, 0, none⟩ (.bool false)).setCell ⟨w42.heap.size, 1, none⟩ (.slice none 0 0)).setCell ⟨w42.heap.size, 2, none⟩ (.slice none 0 0))).cell? ⟨w42.heap.size, 0, none⟩ = some (.bool false) := eM.1
  have l4201_ : ((((w47.setCell ⟨w42.heap.size, 0, none⟩ (.bool false)).setCell ⟨w42.heap.size, 1, none⟩ (.slice none 0 0)).setCell ⟨w42.heap.size, 2, none⟩ (.slice none 0 0))).cell? ⟨w42.heap.size, 1, none⟩ = some (.slice none 0 0) := eM.2.1
  have l4202_ : ((((w47.setCell ⟨w42.heap.size, 0, none⟩ (.bool false)).setCell ⟨w42.heap.size, 1, none⟩ (.slice none 0 0)).setCell ⟨w42.heap.size, 2, none⟩ (.slice none 0 0))).cell? ⟨w42.heap.size, 2, none⟩ = some (.slice none 0 0) := eM.2.2
  have l4300_ : ((((w47.setCell ⟨w42.heap.size, 0, none⟩ (.bool false)).setCell ⟨w42.heap.size, 1, none⟩ (.slice none 0 0)).setCell ⟨w42.heap.size, 2, none⟩ (.slice none 0 0))).cell? ⟨w43.heap.size, 0, none⟩ = some (.bool false) := (set3_far (by omega)).trans l4300
  have l4301_ : ((((w47.setCell ⟨w42.heap.size, 0, none⟩ (.bool false)).setCell ⟨w42.heap.size, 1, none⟩ (.slice none 0 0)).setCell ⟨w42.heap.size, 2, none⟩ (.slice none 0 0))).cell? ⟨w43.heap.size, 1, none⟩ = some (.slice none 0 0) := (set3_far (by omega)).trans l4301
  have l4302_ : ((((w47.setCell ⟨w42.heap.size, 0, none⟩ (.bool false)).setCell ⟨w42.heap.size, 1, none⟩ (.slice none 0 0)).setCell ⟨w42.heap.size, 2, none⟩ (.slice none 0 0))).cell? ⟨w43.heap.size, 2, none⟩ = some (.slice none 0 0) := (set3_far (by omega)).trans l4302
  have hL420_ := (((hL420.setCell ⟨w42.heap.size, 0, none⟩ (.bool false)).setCell ⟨w42.heap.size, 1, none⟩ (.slice none 0 0)).setCell ⟨w42.heap.size, 2, none⟩ (.slice none 0 0))
  have fzhL420 := fun o => hL420.frozen o
  have hL430_ := (((hL430.setCell ⟨w42.heap.size, 0, none⟩ (.bool false)).setCell ⟨w42.heap.size, 1, none⟩ (.slice none 0 0)).setCell ⟨w42.heap.size, 2, none⟩ (.slice none 0 0))
  have fzhL430 := fun o => hL430.frozen o
  have hBn := (hB.trans (hBW.mono hB.size)).trans (hM.below (Nat.le_trans hB.size hBW.size))
  have hsM := hM.size
  clear hM eM
  go_wp2_with fail
  clear q00 q01 q02 q10 q11 q12 l4200 l4201 l4202 l4300 l4301 l4302 hL420 hL430 fzhL420 fzhL430 hB hBW
  generalize (((w47.setCell ⟨w42.heap.size, 0, none⟩ (.bool false)).setCell ⟨w42.heap.size, 1, none⟩ (.slice none 0 0)).setCell ⟨w42.heap.size, 2, none⟩ (.slice none 0 0)) = w47y at q00_ q01_ q02_ q10_ q11_ q12_ l4200_ l4201_ l4202_ l4300_ l4301_ l4302_ hL420_ hL430_ hBn hsM ⊢
  have q00 := q00_
  clear q00_
  have q01 := q01_
  clear q01_
  have q02 := q02_
  clear q02_
  have q10 := q10_
  clear q10_
  have q11 := q11_
  clear q11_
  have q12 := q12_
  clear q12_
  have l4200 := l4200_
  clear l4200_
  have l4201 := l4201_
  clear l4201_
  have l4202 := l4202_
  clear l4202_
  have l4300 := l4300_
  clear l4300_
  have l4301 := l4301_
  clear l4301_
  have l4302 := l4302_
  clear l4302_
  have hL420 := hL420_
  clear hL420_
  have hL430 := hL430_
  clear hL430_
  have hB := hBn
  clear hBn
  have hBW : Below w47y.heap.size w47y w47y := Below.refl _ _
  refine (vqDiv_zero s0 a0 n0 c0 X0 b0 m0 d0 Y0 s1 a1 n1 c1 X1 b1 m1 d1 Y1 _ hc0 (by omega) (sb hS0 hB hBW) hd0 (by omega) (sb hT0 hB hBW) hc1 (by omega) (sb hS1 hB hBW) hd1 (by omega) (sb hT1 hB hBW) H0.out).mono ?_
  rintro e w48 ⟨rfl, b48⟩
  replace hBW := hBW.trans (b48.mono hBW.size)
  replace q00 := below_cell b48 q00
  replace q01 := below_cell b48 q01
  replace q02 := below_cell b48 q02
  replace q10 := below_cell b48 q10
  replace q11 := below_cell b48 q11
  replace q12 := below_cell b48 q12
  replace l4200 := below_cell b48 l4200
  replace l4201 := below_cell b48 l4201
  replace l4202 := below_cell b48 l4202
  replace l4300 := below_cell b48 l4300
  replace l4301 := below_cell b48 l4301
  replace l4302 := below_cell b48 l4302
  replace hL420 := below_row b48 hL420
  replace hL430 := below_row b48 hL430
  have hsB := hBW.size
  have hM : Mid w.heap.size w47y.heap.size w48 (((w48.setCell ⟨w43.heap.size, 0, none⟩ (.bool false)).setCell ⟨w43.heap.size, 1, none⟩ (.slice none 0 0)).setCell ⟨w43.heap.size, 2, none⟩ (.slice none 0 0)) := ((((Mid.refl _ _ _).set _ _ (by omega) (by omega) _).set _ _ (by omega) (by omega) _).set _ _ (by omega) (by omega) _)
  have eM := set3_same (w := w48) (c := w43.heap.size) (u0 := .bool false) (u1 := .slice none 0 0) (u2 := .slice none 0 0) l4300 l4301 l4302
  have q00_ : ((((w48.setCell ⟨w43.heap.size, 0, none⟩ (.bool false)).setCell ⟨w43.heap.size, 1, none⟩ (.slice none 0 0)).setCell ⟨w43.heap.size, 2, none⟩ (.slice none 0 0))).cell? ⟨w.heap.size, 0, none⟩ = some (.bool s0) := (set3_far (by omega)).trans q00
  have q01_ : ((((w48.setCell ⟨w43.heap.size, 0, none⟩ (.bool false)).setCell ⟨w43.heap.size, 1, none⟩ (.slice none 0 0)).setCell ⟨w43.heap.size, 2, none⟩ (.slice none 0 0))).cell? ⟨w.heap.size, 1, none⟩ = some (.slice a0 n0 c0) := (set3_far (by omega)).trans q01
  have q02_ : ((((w48.setCell ⟨w43.heap.size, 0, none⟩ (.bool false)).setCell ⟨w43.heap.size, 1, none⟩ (.slice none 0 0)).setCell ⟨w43.heap.size, 2, none⟩ (.slice none 0 0))).cell? ⟨w.heap.size, 2, none⟩ = some (.slice b0 m0 d0) := (set3_far (by omega)).trans q02
  have q10_ : ((((w48.setCell ⟨w43.heap.size, 0, none⟩ (.bool false)).setCell ⟨w43.heap.size, 1, none⟩ (.slice none 0 0)).setCell ⟨w43.heap.size, 2, none⟩ (.slice none 0 0))).cell? ⟨w.heap.size + 1, 0, none⟩ = some (.bool s1) := (set3_far (by omega)).trans q10
  have q11_ : ((((w48.setCell ⟨w43.heap.size, 0, none⟩ (.bool false)).setCell ⟨w43.heap.size, 1, none⟩ (.slice none 0 0)).setCell ⟨w43.heap.size, 2, none⟩ (.slice none 0 0))).cell? ⟨w.heap.size + 1, 1, none⟩ = some (.slice a1 n1 c1) := (set3_far (by omega)).trans q11
  have q12_ : ((((w48.setCell ⟨w43.heap.size, 0, none⟩ (.bool false)).setCell ⟨w43.heap.size, 1, none⟩ (.slice none 0 0)).setCell ⟨w43.heap.size, 2, none⟩ (.slice none 0 0))).cell? ⟨w.heap.size + 1, 2, none⟩ = some (.slice b1 m1 d1) := (set3_far (by omega)).trans q12
  have l4200_ : ((((w48.setCell ⟨w43.heap.size, 0, none⟩ (.bool false)).setCell ⟨w43.heap.size, 1, none⟩ (.slice none 0 0)).setCell ⟨w43.heap.size, 2, none⟩ (.slice none 0 0))).cell? ⟨w42.heap.size, 0, none⟩ = some (.bool false) := (set3_far (by omega)).trans l4200
  have l4201_ : ((((w48.setCell ⟨w43.heap.size, 0, none⟩ (.bool false)).setCell ⟨w43.heap.size, 1, none⟩ (.slice none 0 0)).setCell ⟨w43.heap.size, 2, none⟩ (.slice none 0 0))).cell? ⟨w42.heap.size, 1, none⟩ = some (.slice none 0 0) := (set3_far (by omega)).trans l4201
  have l4202_ : ((((w48.setCell ⟨w43.heap.size, 0, none⟩ (.bool false)).setCell ⟨w43.heap.size, 1, none⟩ (.slice none 0 0)).setCell ⟨w43.heap.size, 2, none⟩ (.slice none 0 0))).cell? ⟨w42.heap.size, 2, none⟩ = some (.slice none 0 0) := (set3_far (by omega)).trans l4202
  have l4300_ : ((((w48.setCell ⟨w43.heap.size, 0, none⟩ (.bool false)).setCell ⟨w43.heap.size, 1, none⟩ (.slice none 0 0)).setCell ⟨w43.heap.size, 2, none⟩ (.slice none 0 0))).cell? ⟨w43.heap.size, 0, none⟩ = some (.bool false) := eM.1
  have l4301_ : ((((w48.setCell ⟨w43.heap.size, 0, none⟩ (.bool false)).setCell ⟨w43.heap.size, 1, none⟩ (.slice none 0 0)).setCell ⟨w43.heap.size, 2, none⟩ (.slice none 0 0))).cell? ⟨w43.heap.size, 1, none⟩ = some (.slice none 0 0) := eM.2.1
  have l4302_ : ((((w48.setCell ⟨w43.heap.size, 0, none⟩ (.bool false)).setCell ⟨w43.heap.size, 1, none⟩ (.slice none 0 0)).setCell ⟨w43.heap.size, 2, none⟩ (.slice none 0 0))).cell? ⟨w43.heap.size, 2, none⟩ = some (.slice none 0 0) := eM.2.2
  have hL420_ := (((hL420.setCell ⟨w43.heap.size, 0, none⟩ (.bool false)).setCell ⟨w43.heap.size, 1, none⟩ (.slice none 0 0)).setCell ⟨w43.heap.size, 2, none⟩ (.slice none 0 0))
  have fzhL420 := fun o => hL420.frozen o
  have hL430_ := (((hL430.setCell ⟨w43.heap.size, 0, none⟩ (.bool false)).setCell ⟨w43.heap.size, 1, none⟩ (.slice none 0 0)).setCell ⟨w43.heap.size, 2, none⟩ (.slice none 0 0))
  have fzhL430 := fun o => hL430.frozen o
  have hBn := (hB.trans (hBW.mono hB.size)).trans (hM.below (Nat.le_trans hB.size hBW.size))
  have hsM := hM.size
  clear hM eM
  go_wp2_with fail
  clear q00 q01 q02 q10 q11 q12 l4200 l4201 l4202 l4300 l4301 l4302 hL420 hL430 fzhL420 fzhL430 hB hBW
  generalize (((w48.setCell ⟨w43.heap.size, 0, none⟩ (.bool false)).setCell ⟨w43.heap.size, 1, none⟩ (.slice none 0 0)).setCell ⟨w43.heap.size, 2, none⟩ (.slice none 0 0)) = w48y at q00_ q01_ q02_ q10_ q11_ q12_ l4200_ l4201_ l4202_ l4300_ l4301_ l4302_ hL420_ hL430_ hBn hsM ⊢
  have q00 := q00_
  clear q00_
  have q01 := q01_
  clear q01_
  have q02 := q02_
  clear q02_
  have q10 := q10_
  clear q10_
  have q11 := q11_
  clear q11_
  have q12 := q12_
  clear q12_
  have l4200 := l4200_
  clear l4200_
  have l4201 := l4201_
  clear l4201_
  have l4202 := l4202_
  clear l4202_
  have l4300 := l4300_
  clear l4300_
  have l4301 := l4301_
  clear l4301_
  have l4302 := l4302_
  clear l4302_
  have hL420 := hL420_
  clear hL420_
  have hL430 := hL430_
  clear hL430_
  have hB := hBn
  clear hBn
  have hBW : Below w48y.heap.size w48y w48y := Below.refl _ _
  refine (none_is _).mono ?_
  rintro e w49 ⟨rfl, b49⟩
  replace hBW := hBW.trans (b49.mono hBW.size)
  replace q00 := below_cell b49 q00
  replace q01 := below_cell b49 q01
  replace q02 := below_cell b49 q02
  replace q10 := below_cell b49 q10
  replace q11 := below_cell b49 q11
  replace q12 := below_cell b49 q12
  replace l4200 := below_cell b49 l4200
  replace l4201 := below_cell b49 l4201
  replace l4202 := below_cell b49 l4202
  replace l4300 := below_cell b49 l4300
  replace l4301 := below_cell b49 l4301
  replace l4302 := below_cell b49 l4302
  replace hL420 := below_row b49 hL420
  replace hL430 := below_row b49 hL430
  go_wp2_with fail
  refine (G3.out _).mono ?_
  rintro e w50 ⟨p50, q50, rfl, hp50, hq50⟩
  have b50 := hp50.below
  replace hp50 := hp50.back hBW
  replace hq50 := hq50.back hBW
  replace hBW := hBW.trans (b50.mono hBW.size)
  replace q00 := below_cell b50 q00
  replace q01 := below_cell b50 q01
  replace q02 := below_cell b50 q02
  replace q10 := below_cell b50 q10
  replace q11 := below_cell b50 q11
  replace q12 := below_cell b50 q12
  replace l4200 := below_cell b50 l4200
  replace l4201 := below_cell b50 l4201
  replace l4202 := below_cell b50 l4202
  replace l4300 := below_cell b50 l4300
  replace l4301 := below_cell b50 l4301
  replace l4302 := below_cell b50 l4302
  replace hL420 := below_row b50 hL420
  replace hL430 := below_row b50 hL430
  go_wp2_with fail
  refine (G6.out _).mono ?_
  rintro e w51 ⟨p51, q51, rfl, hp51, hq51⟩
  have b51 := hp51.below
  replace hp51 := hp51.back hBW
  replace hq51 := hq51.back hBW
  replace hBW := hBW.trans (b51.mono hBW.size)
  replace q00 := below_cell b51 q00
  replace q01 := below_cell b51 q01
  replace q02 := below_cell b51 q02
  replace q10 := below_cell b51 q10
  replace q11 := below_cell b51 q11
  replace q12 := below_cell b51 q12
  replace l4200 := below_cell b51 l4200
  replace l4201 := below_cell b51 l4201
  replace l4202 := below_cell b51 l4202
  replace l4300 := below_cell b51 l4300
  replace l4301 := below_cell b51 l4301
  replace l4302 := below_cell b51 l4302
  replace hL420 := below_row b51 hL420
  replace hL430 := below_row b51 hL430
  replace hp50 := hp50.later b51
  replace hq50 := hq50.later b51
  go_wp2_with fail
  refine (GD.out _ p50 q50 p51 q51 hp50.seg hq50.seg hp51.seg hq51.seg).mono ?_
  rintro e w52 ⟨p52, q52, rfl, hp52, hq52⟩
  have b52 := hp52.below
  replace hp52 := hp52.back hBW
  replace hq52 := hq52.back hBW
  replace hBW := hBW.trans (b52.mono hBW.size)
  replace q00 := below_cell b52 q00
  replace q01 := below_cell b52 q01
  replace q02 := below_cell b52 q02
  replace q10 := below_cell b52 q10
  replace q11 := below_cell b52 q11
  replace q12 := below_cell b52 q12
  replace l4200 := below_cell b52 l4200
  replace l4201 := below_cell b52 l4201
  replace l4202 := below_cell b52 l4202
  replace l4300 := below_cell b52 l4300
  replace l4301 := below_cell b52 l4301
  replace l4302 := below_cell b52 l4302
  replace hL420 := below_row b52 hL420
  replace hL430 := below_row b52 hL430
  replace hp50 := hp50.later b52
  replace hq50 := hq50.later b52
  replace hp51 := hp51.later b52
  replace hq51 := hq51.later b52
  clear hp50 hq50 hp51 hq51
  have hsB := hBW.size
  have hM : Mid w.heap.size w48y.heap.size w52 (((w52.setCell ⟨w42.heap.size, 0, none⟩ (.bool (ng J1))).setCell ⟨w42.heap.size, 1, none⟩ (.slice p52 (ln (am J1)) (ln (am J1)))).setCell ⟨w42.heap.size, 2, none⟩ (.slice q52 (ln J2) (ln J2))) := ((((Mid.refl _ _ _).set _ _ (by omega) (by omega) _).set _ _ (by omega) (by omega) _).set _ _ (by omega) (by omega) _)
  have eM := set3_same (w := w52) (c := w42.heap.size) (u0 := .bool (ng J1)) (u1 := .slice p52 (ln (am J1)) (ln (am J1))) (u2 := .slice q52 (ln J2) (ln J2)) l4200 l4201 l4202
  have q00_ : ((((w52.setCell ⟨w42.heap.size, 0, none⟩ (.bool (ng J1))).setCell ⟨w42.heap.size, 1, none⟩ (.slice p52 (ln (am J1)) (ln (am J1)))).setCell ⟨w42.heap.size, 2, none⟩ (.slice q52 (ln J2) (ln J2)))).cell? ⟨w.heap.size, 0, none⟩ = some (.bool s0) := (set3_far (by omega)).trans q00
  have q01_ : ((((w52.setCell ⟨w42.heap.size, 0, none⟩ (.bool (ng J1))).setCell ⟨w42.heap.size, 1, none⟩ (.slice p52 (ln (am J1)) (ln (am J1)))).setCell ⟨w42.heap.size, 2, none⟩ (.slice q52 (ln J2) (ln J2)))).cell? ⟨w.heap.size, 1, none⟩ = some (.slice a0 n0 c0) := (set3_far (by omega)).trans q01
  have q02_ : ((((w52.setCell ⟨w42.heap.size, 0, none⟩ (.bool (ng J1))).setCell ⟨w42.heap.size, 1, none⟩ (.slice p52 (ln (am J1)) (ln (am J1)))).setCell ⟨w42.heap.size, 2, none⟩ (.slice q52 (ln J2) (ln J2)))).cell? ⟨w.heap.size, 2, none⟩ = some (.slice b0 m0 d0) := (set3_far (by omega)).trans q02
  have q10_ : ((((w52.setCell ⟨w42.heap.size, 0, none⟩ (.bool (ng J1))).setCell ⟨w42.heap.size, 1, none⟩ (.slice p52 (ln (am J1)) (ln (am J1)))).setCell ⟨w42.heap.size, 2, none⟩ (.slice q52 (ln J2) (ln J2)))).cell? ⟨w.heap.size + 1, 0, none⟩ = some (.bool s1) := (set3_far (by omega)).trans q10
  have q11_ : ((((w52.setCell ⟨w42.heap.size, 0, none⟩ (.bool (ng J1))).setCell ⟨w42.heap.size, 1, none⟩ (.slice p52 (ln (am J1)) (ln (am J1)))).setCell ⟨w42.heap.size, 2, none⟩ (.slice q52 (ln J2) (ln J2)))).cell? ⟨w.heap.size + 1, 1, none⟩ = some (.slice a1 n1 c1) := (set3_far (by omega)).trans q11
  have q12_ : ((((w52.setCell ⟨w42.heap.size, 0, none⟩ (.bool (ng J1))).setCell ⟨w42.heap.size, 1, none⟩ (.slice p52 (ln (am J1)) (ln (am J1)))).setCell ⟨w42.heap.size, 2, none⟩ (.slice q52 (ln J2) (ln J2)))).cell? ⟨w.heap.size + 1, 2, none⟩ = some (.slice b1 m1 d1) := (set3_far (by omega)).trans q12
  have l4200_ : ((((w52.setCell ⟨w42.heap.size, 0, none⟩ (.bool (ng J1))).setCell ⟨w42.heap.size, 1, none⟩ (.slice p52 (ln (am J1)) (ln (am J1)))).setCell ⟨w42.heap.size, 2, none⟩ (.slice q52 (ln J2) (ln J2)))).cell? ⟨w42.heap.size, 0, none⟩ = some (.bool (ng J1)) := eM.1
  have l4201_ : ((((w52.setCell ⟨w42.heap.size, 0, none⟩ (.bool (ng J1))).setCell ⟨w42.heap.size, 1, none⟩ (.slice p52 (ln (am J1)) (ln (am J1)))).setCell ⟨w42.heap.size, 2, none⟩ (.slice q52 (ln J2) (ln J2)))).cell? ⟨w42.heap.size, 1, none⟩ = some (.slice p52 (ln (am J1)) (ln (am J1))) := eM.2.1
  have l4202_ : ((((w52.setCell ⟨w42.heap.size, 0, none⟩ (.bool (ng J1))).setCell ⟨w42.heap.size, 1, none⟩ (.slice p52 (ln (am J1)) (ln (am J1)))).setCell ⟨w42.heap.size, 2, none⟩ (.slice q52 (ln J2) (ln J2)))).cell? ⟨w42.heap.size, 2, none⟩ = some (.slice q52 (ln J2) (ln J2)) := eM.2.2
  have l4300_ : ((((w52.setCell ⟨w42.heap.size, 0, none⟩ (.bool (ng J1))).setCell ⟨w42.heap.size, 1, none⟩ (.slice p52 (ln (am J1)) (ln (am J1)))).setCell ⟨w42.heap.size, 2, none⟩ (.slice q52 (ln J2) (ln J2)))).cell? ⟨w43.heap.size, 0, none⟩ = some (.bool false) := (set3_far (by omega)).trans l4300
  have l4301_ : ((((w52.setCell ⟨w42.heap.size, 0, none⟩ (.bool (ng J1))).setCell ⟨w42.heap.size, 1, none⟩ (.slice p52 (ln (am J1)) (ln (am J1)))).setCell ⟨w42.heap.size, 2, none⟩ (.slice q52 (ln J2) (ln J2)))).cell? ⟨w43.heap.size, 1, none⟩ = some (.slice none 0 0) := (set3_far (by omega)).trans l4301
  have l4302_ : ((((w52.setCell ⟨w42.heap.size, 0, none⟩ (.bool (ng J1))).setCell ⟨w42.heap.size, 1, none⟩ (.slice p52 (ln (am J1)) (ln (am J1)))).setCell ⟨w42.heap.size, 2, none⟩ (.slice q52 (ln J2) (ln J2)))).cell? ⟨w43.heap.size, 2, none⟩ = some (.slice none 0 0) := (set3_far (by omega)).trans l4302
  have hL420_ := (((hL420.setCell ⟨w42.heap.size, 0, none⟩ (.bool (ng J1))).setCell ⟨w42.heap.size, 1, none⟩ (.slice p52 (ln (am J1)) (ln (am J1)))).setCell ⟨w42.heap.size, 2, none⟩ (.slice q52 (ln J2) (ln J2)))
  have fzhL420 := fun o => hL420.frozen o
  have hL430_ := (((hL430.setCell ⟨w42.heap.size, 0, none⟩ (.bool (ng J1))).setCell ⟨w42.heap.size, 1, none⟩ (.slice p52 (ln (am J1)) (ln (am J1)))).setCell ⟨w42.heap.size, 2, none⟩ (.slice q52 (ln J2) (ln J2)))
  have fzhL430 := fun o => hL430.frozen o
  have khp52 := (hp52.mid hB hM).seg
  clear hp52
  have khq52 := (hq52.mid hB hM).seg
  clear hq52
  have hBn := (hB.trans (hBW.mono hB.size)).trans (hM.below (Nat.le_trans hB.size hBW.size))
  have hsM := hM.size
  clear hM eM
  go_wp2_with fail
  clear q00 q01 q02 q10 q11 q12 l4200 l4201 l4202 l4300 l4301 l4302 hL420 hL430 fzhL420 fzhL430 hB hBW
  generalize (((w52.setCell ⟨w42.heap.size, 0, none⟩ (.bool (ng J1))).setCell ⟨w42.heap.size, 1, none⟩ (.slice p52 (ln (am J1)) (ln (am J1)))).setCell ⟨w42.heap.size, 2, none⟩ (.slice q52 (ln J2) (ln J2))) = w52y at q00_ q01_ q02_ q10_ q11_ q12_ l4200_ l4201_ l4202_ l4300_ l4301_ l4302_ hL420_ hL430_ khp52 khq52 hBn hsM ⊢
  have q00 := q00_
  clear q00_
  have q01 := q01_
  clear q01_
  have q02 := q02_
  clear q02_
  have q10 := q10_
  clear q10_
  have q11 := q11_
  clear q11_
  have q12 := q12_
  clear q12_
  have l4200 := l4200_
  clear l4200_
  have l4201 := l4201_
  clear l4201_
  have l4202 := l4202_
  clear l4202_
  have l4300 := l4300_
  clear l4300_
  have l4301 := l4301_
  clear l4301_
  have l4302 := l4302_
  clear l4302_
  have hL420 := hL420_
  clear hL420_
  have hL430 := hL430_
  clear hL430_
  have hB := hBn
  clear hBn
  have hBW : Below w52y.heap.size w52y w52y := Below.refl _ _
  replace hBW := hBW.drew
  replace khp52 := khp52.drew
  replace khq52 := khq52.drew
  first
    | go_region_held3 (fun w' => w'.cell? ⟨w42.heap.size, 0, none⟩ = some (.bool (ng J1)) ∧ w'.cell? ⟨w42.heap.size, 1, none⟩ = some (.slice p52 (ln (am J1)) (ln (am J1))) ∧ w'.cell? ⟨w42.heap.size, 2, none⟩ = some (.slice q52 (ln J2) (ln J2)) ∧ Below w.heap.size w w')
        (first | exact ⟨l4200, l4201, l4202, hB.trans (hBW.mono hB.size)⟩ | exact kp3 b53 (by assumption) | exact kp3 b54 (by assumption) | exact kp3 (below_alloc _) (by assumption))
        (first
          | (go_at_call 25; refine Calls.mono (GN.out _ _ _ (by first | exact seg_a _ _ _ _ rfl (by omega) | exact seg_b _ _ _ _ rfl (by omega)) (by first | exact seg_a _ _ _ _ rfl (by omega) | exact seg_b _ _ _ _ rfl (by omega))) ?_; rintro e w53 ⟨p53, q53, rfl, hp53, hq53⟩; have b53 := hp53.below; (try replace b53 := un_drew b53); replace b53 := below_al b53; (try replace b53 := un_drew b53); replace b53 := below_al b53; have kp53 := hp53.seg; have kq53 := hq53.seg; clear hp53 hq53; replace hBW := hBW.trans (b53.mono hBW.size); replace q00 := below_cell b53 q00; replace q01 := below_cell b53 q01; replace q02 := below_cell b53 q02; replace q10 := below_cell b53 q10; replace q11 := below_cell b53 q11; replace q12 := below_cell b53 q12; replace l4200 := below_cell b53 l4200; replace l4201 := below_cell b53 l4201; replace l4202 := below_cell b53 l4202; replace l4300 := below_cell b53 l4300; replace l4301 := below_cell b53 l4301; replace l4302 := below_cell b53 l4302; replace hL420 := below_row b53 hL420; replace hL430 := below_row b53 hL430; replace khp52 := khp52.later b53; replace khq52 := khq52.later b53)
          | (go_at_call 8; refine (sameQ_is J1 J2 p52 q52 p53 q53 _ (by omega) (by omega) khp52 khq52 kp53 kq53).mono ?_; rintro e w54 ⟨rfl, b54⟩; replace hBW := hBW.trans (b54.mono hBW.size); replace q00 := below_cell b54 q00; replace q01 := below_cell b54 q01; replace q02 := below_cell b54 q02; replace q10 := below_cell b54 q10; replace q11 := below_cell b54 q11; replace q12 := below_cell b54 q12; replace l4200 := below_cell b54 l4200; replace l4201 := below_cell b54 l4201; replace l4202 := below_cell b54 l4202; replace l4300 := below_cell b54 l4300; replace l4301 := below_cell b54 l4301; replace l4302 := below_cell b54 l4302; replace hL420 := below_row b54 hL420; replace hL430 := below_row b54 hL430; replace khp52 := khp52.later b54; replace khq52 := khq52.later b54; replace kp53 := kp53.later b54; replace kq53 := kq53.later b54))
    | fail
  all_goals go_wp2
  all_goals go_ret
  all_goals exact ⟨rfl, hB.trans (hBW.mono hB.size)⟩

set_option maxHeartbeats 8000000 in
set_option maxRecDepth 100000 in
theorem walk_is (s0 : Bool) (a0 : Option Addr) (n0 c0 X0 : Nat) (b0 : Option Addr) (m0 d0 Y0 : Nat) (s1 : Bool) (a1 : Option Addr) (n1 c1 X1 : Nat) (b1 : Option Addr) (m1 d1 Y1 : Nat) (w : World) (hc0 : n0 ≤ c0) (hm0 : n0 ≤ 35184372087808) (hS0 : Seg w a0 X0 n0) (hd0 : m0 ≤ d0) (hk0 : m0 ≤ 35184372087808) (hT0 : Seg w b0 Y0 m0) (hc1 : n1 ≤ c1) (hm1 : n1 ≤ 35184372087808) (hS1 : Seg w a1 X1 n1) (hd1 : m1 ≤ d1) (hk1 : m1 ≤ 35184372087808) (hT1 : Seg w b1 Y1 m1) (hne : rn s1 X1 Y1 ≠ 0) :
    Calls Try.prog 4 #[Value.agg #[Value.bool s0, Value.slice a0 n0 c0, Value.slice b0 m0 d0], Value.agg #[Value.bool s1, Value.slice a1 n1 c1, Value.slice b1 m1 d1]] w fun e w' => e = .returned (.bool true) ∧ Below w.heap.size w w' := by
  obtain ⟨Z1, V1, h1⟩ := low_ex ((rd Y1 : Nat) : Int) (rn s1 X1 Y1) hne
  obtain ⟨Z2, V2, h2⟩ := low_ex (rn s0 X0 Y0 * ((rd Y1 : Nat) : Int)) (((rd Y0 : Nat) : Int) * rn s1 X1 Y1) (Int.mul_ne_zero (rd_ne Y0) hne)
  have l0 := Nat.lt_of_le_of_lt (rn_am s0 X0 Y0) hS0.1
  have l1 := Nat.lt_of_le_of_lt (rn_am s1 X1 Y1) hS1.1
  have k0 := rd_lt hT0.1
  have k1 := rd_lt hT1.1
  obtain ⟨e10, e11⟩ := ln1 h1 (by rw [am_nat]; exact k1) l1 (k := 70368744175700) (by omega) (by omega)
  obtain ⟨e20, e21⟩ := ln1 h2 (lt_prod l0 (by rw [am_nat]; exact k1)) (lt_prod (by rw [am_nat]; exact k0) l1) (k := 70368744175700) (by omega) (by omega)
  have G1 := hide' h1
  have G2 := hide' h2
  clear h1 h2 l0 l1 k0 k1 hne
  have l3 : ln (am 3) ≤ 2 := ln_le_of_lt (by rw [BB2]; decide)
  have l6 : ln (am 6) ≤ 2 := ln_le_of_lt (by rw [BB2]; decide)
  have lo : ln 1 ≤ 2 := by rw [ln_one]; omega
  have lt : ln 2 ≤ 2 := ln_le_of_lt (by rw [BB2]; decide)
  obtain ⟨T3, hT3⟩ : ∃ T3 : Int, 3 = T3 := ⟨_, rfl⟩
  obtain ⟨T6, hT6⟩ : ∃ T6 : Int, 6 = T6 := ⟨_, rfl⟩
  obtain ⟨O1, hO1⟩ : ∃ O1 : Nat, 1 = O1 := ⟨_, rfl⟩
  obtain ⟨J1, hJ1⟩ : ∃ J1 : Int, 1 = J1 := ⟨_, rfl⟩
  obtain ⟨J2, hJ2⟩ : ∃ J2 : Nat, 2 = J2 := ⟨_, rfl⟩
  have HW3 : ∀ w', Calls Try.prog 24 #[.int .i64 3] w' fun e w'' => ∃ p q, e = .returned (.agg #[.bool (ng T3), .slice p (ln (am T3)) (ln (am T3)), .slice q (ln O1) (ln O1)]) ∧ New w' w'' p (am T3) (ln (am T3)) ∧ New w' w'' q O1 (ln O1) := fun w' => by subst hT3 hO1; exact qWhole_is 3 w' (by omega) (by omega)
  have HW6 : ∀ w', Calls Try.prog 24 #[.int .i64 6] w' fun e w'' => ∃ p q, e = .returned (.agg #[.bool (ng T6), .slice p (ln (am T6)) (ln (am T6)), .slice q (ln O1) (ln O1)]) ∧ New w' w'' p (am T6) (ln (am T6)) ∧ New w' w'' q O1 (ln O1) := fun w' => by subst hT6 hO1; exact qWhole_is 6 w' (by omega) (by omega)
  have HDV : ∀ w' p q p2 q2, Seg w' p (am T3) (ln (am T3)) → Seg w' q O1 (ln O1) → Seg w' p2 (am T6) (ln (am T6)) → Seg w' q2 O1 (ln O1) → Calls Try.prog 22 #[.agg #[.bool (ng T3), .slice p (ln (am T3)) (ln (am T3)), .slice q (ln O1) (ln O1)], .agg #[.bool (ng T6), .slice p2 (ln (am T6)) (ln (am T6)), .slice q2 (ln O1) (ln O1)]] w' fun e w'' => ∃ p q, e = .returned (.tuple #[.agg #[.bool (ng J1), .slice p (ln (am J1)) (ln (am J1)), .slice q (ln J2) (ln J2)], .int .i64 0]) ∧ New w' w'' p (am J1) (ln (am J1)) ∧ New w' w'' q J2 (ln J2) := fun w' p q p2 q2 k1 k2 k3 k4 => by
    subst hT3 hT6 hO1 hJ1 hJ2
    exact qDiv_is (ng 3) p (ln (am 3)) (ln (am 3)) (am 3) q (ln 1) (ln 1) 1 (ng 6) p2 (ln (am 6)) (ln (am 6)) (am 6) q2 (ln 1) (ln 1) 1 1 2 w' (Nat.le_refl _) (by omega) k1 (Nat.le_refl _) (by omega) k2 (Nat.le_refl _) (by omega) k3 (Nat.le_refl _) (by omega) k4 low_36
  have HNM : ∀ w' p q, Seg w' p 1 1 → Seg w' q 2 1 → Calls Try.prog 25 #[.agg #[.bool false, .slice p 1 1, .slice q 1 1]] w' fun e w'' => ∃ p q, e = .returned (.agg #[.bool (ng J1), .slice p (ln (am J1)) (ln (am J1)), .slice q (ln J2) (ln J2)]) ∧ New w' w'' p (am J1) (ln (am J1)) ∧ New w' w'' q J2 (ln J2) := fun w' p q k1 k2 => by
    subst hJ1 hJ2
    exact vqNorm_is false p 1 1 1 q 1 1 2 2 1 w' (by omega) k1 (by omega) k2 low_half
  have lJ1 : ln (am J1) ≤ 2 := by rw [← hJ1]; exact ln_le_of_lt (by rw [BB2]; decide)
  have lJ2 : ln J2 ≤ 2 := by rw [← hJ2]; exact lt
  have G3 := hide' HW3
  have G6 := hide' HW6
  have GD := hide' HDV
  have GN := hide' HNM
  clear HW3 HW6 HDV HNM hT3 hT6 hO1 hJ1 hJ2 l3 l6 lo lt
  go_enter Try.func4, Try.ntmps4
  go_wp2_with fail
  obtain ⟨W, hW⟩ : ∃ W, ((w.alloc (.cells #[.bool s0, .slice a0 n0 c0, .slice b0 m0 d0] 27)).alloc (.cells #[.bool s1, .slice a1 n1 c1, .slice b1 m1 d1] 27)) = W := ⟨_, rfl⟩
  have q00 : W.cell? ⟨w.heap.size, 0, none⟩ = some (.bool s0) := by subst hW; go_simp
  have q01 : W.cell? ⟨w.heap.size, 1, none⟩ = some (.slice a0 n0 c0) := by subst hW; go_simp
  have q02 : W.cell? ⟨w.heap.size, 2, none⟩ = some (.slice b0 m0 d0) := by subst hW; go_simp
  have q10 : W.cell? ⟨w.heap.size + 1, 0, none⟩ = some (.bool s1) := by subst hW; go_simp
  have q11 : W.cell? ⟨w.heap.size + 1, 1, none⟩ = some (.slice a1 n1 c1) := by subst hW; go_simp
  have q12 : W.cell? ⟨w.heap.size + 1, 2, none⟩ = some (.slice b1 m1 d1) := by subst hW; go_simp
  have hB : Below w.heap.size w W := by subst hW; exact (((Below.refl _ _).alloc (by (try simp only [World.size_alloc]); omega) _).alloc (by (try simp only [World.size_alloc]); omega) _)
  have hz : W.heap.size = w.heap.size + 1 + 1 := by subst hW; simp only [World.size_alloc]
  rw [hW]
  clear hW
  have hBW : Below W.heap.size W W := Below.refl _ _
  refine (ltwin_is s1 a1 n1 c1 X1 b1 m1 d1 Y1 _ hc1 (by omega) (sb hS1 hB hBW) hd1 (by omega) (sb hT1 hB hBW)).mono ?_
  rintro e w41 ⟨p41, q41, rfl, hp41, hq41⟩
  have b41 := hp41.below
  replace hp41 := hp41.back hBW
  replace hq41 := hq41.back hBW
  replace hBW := hBW.trans (b41.mono hBW.size)
  replace q00 := below_cell b41 q00
  replace q01 := below_cell b41 q01
  replace q02 := below_cell b41 q02
  replace q10 := below_cell b41 q10
  replace q11 := below_cell b41 q11
  replace q12 := below_cell b41 q12
  go_wp2_with fail
  refine (qInv_is s1 p41 n1 n1 X1 q41 m1 m1 Y1 Z1 V1 _ (Nat.le_refl _) (by omega) hp41.seg (Nat.le_refl _) (by omega) hq41.seg G1.out).mono ?_
  rintro e w42 ⟨p42, q42, rfl, hp42, hq42⟩
  have b42 := hp42.below
  replace hp42 := hp42.back hBW
  replace hq42 := hq42.back hBW
  replace hBW := hBW.trans (b42.mono hBW.size)
  replace q00 := below_cell b42 q00
  replace q01 := below_cell b42 q01
  replace q02 := below_cell b42 q02
  replace q10 := below_cell b42 q10
  replace q11 := below_cell b42 q11
  replace q12 := below_cell b42 q12
  replace hp41 := hp41.later b42
  replace hq41 := hq41.later b42
  have hsz42 := hBW.size
  have l4200 : ((w42.alloc (.cells #[.bool (ng Z1), .slice p42 (ln (am Z1)) (ln (am Z1)), .slice q42 (ln V1) (ln V1)] 27))).cell? ⟨w42.heap.size, 0, none⟩ = some (.bool (ng Z1)) := by go_simp
  have l4201 : ((w42.alloc (.cells #[.bool (ng Z1), .slice p42 (ln (am Z1)) (ln (am Z1)), .slice q42 (ln V1) (ln V1)] 27))).cell? ⟨w42.heap.size, 1, none⟩ = some (.slice p42 (ln (am Z1)) (ln (am Z1))) := by go_simp
  have l4202 : ((w42.alloc (.cells #[.bool (ng Z1), .slice p42 (ln (am Z1)) (ln (am Z1)), .slice q42 (ln V1) (ln V1)] 27))).cell? ⟨w42.heap.size, 2, none⟩ = some (.slice q42 (ln V1) (ln V1)) := by go_simp
  have cb42 : Below w42.heap.size w42 ((w42.alloc (.cells #[.bool (ng Z1), .slice p42 (ln (am Z1)) (ln (am Z1)), .slice q42 (ln V1) (ln V1)] 27))) := ((Below.refl _ _).alloc (by (try simp only [World.size_alloc]); omega) _)
  replace hBW := hBW.trans (cb42.mono hBW.size)
  replace q00 := below_cell cb42 q00
  replace q01 := below_cell cb42 q01
  replace q02 := below_cell cb42 q02
  replace q10 := below_cell cb42 q10
  replace q11 := below_cell cb42 q11
  replace q12 := below_cell cb42 q12
  replace hp41 := hp41.later cb42
  replace hq41 := hq41.later cb42
  replace hp42 := hp42.later cb42
  replace hq42 := hq42.later cb42
  have hL420 : Row ((w42.alloc (.cells #[.bool (ng Z1), .slice p42 (ln (am Z1)) (ln (am Z1)), .slice q42 (ln V1) (ln V1)] 27))) (w42.heap.size) := by
    have := row_new (w42) #[.bool (ng Z1), .slice p42 (ln (am Z1)) (ln (am Z1)), .slice q42 (ln V1) (ln V1)] 27
    try simp only [World.size_alloc] at this
    exact this
  go_wp2_with fail
  generalize (w42.alloc (.cells #[.bool (ng Z1), .slice p42 (ln (am Z1)) (ln (am Z1)), .slice q42 (ln V1) (ln V1)] 27)) = w42x at q00 q01 q02 q10 q11 q12 l4200 l4201 l4202 hL420 hp41 hq41 hp42 hq42 hBW cb42 ⊢
  clear cb42
  refine (vqInv_is s1 a1 n1 c1 X1 b1 m1 d1 Y1 Z1 V1 _ hc1 (by omega) (sb hS1 hB hBW) hd1 (by omega) (sb hT1 hB hBW) G1.out).mono ?_
  rintro e w43 ⟨p43, q43, rfl, hp43, hq43⟩
  have b43 := hp43.below
  replace hp43 := hp43.back hBW
  replace hq43 := hq43.back hBW
  replace hBW := hBW.trans (b43.mono hBW.size)
  replace q00 := below_cell b43 q00
  replace q01 := below_cell b43 q01
  replace q02 := below_cell b43 q02
  replace q10 := below_cell b43 q10
  replace q11 := below_cell b43 q11
  replace q12 := below_cell b43 q12
  replace l4200 := below_cell b43 l4200
  replace l4201 := below_cell b43 l4201
  replace l4202 := below_cell b43 l4202
  replace hL420 := below_row b43 hL420
  replace hp41 := hp41.later b43
  replace hq41 := hq41.later b43
  replace hp42 := hp42.later b43
  replace hq42 := hq42.later b43
  have hsz43 := hBW.size
  have hlt43hL420 := hL420.lt
  have l4300 : ((w43.alloc (.cells #[.bool (ng Z1), .slice p43 (ln (am Z1)) (ln (am Z1)), .slice q43 (ln V1) (ln V1)] 27))).cell? ⟨w43.heap.size, 0, none⟩ = some (.bool (ng Z1)) := by go_simp
  have l4301 : ((w43.alloc (.cells #[.bool (ng Z1), .slice p43 (ln (am Z1)) (ln (am Z1)), .slice q43 (ln V1) (ln V1)] 27))).cell? ⟨w43.heap.size, 1, none⟩ = some (.slice p43 (ln (am Z1)) (ln (am Z1))) := by go_simp
  have l4302 : ((w43.alloc (.cells #[.bool (ng Z1), .slice p43 (ln (am Z1)) (ln (am Z1)), .slice q43 (ln V1) (ln V1)] 27))).cell? ⟨w43.heap.size, 2, none⟩ = some (.slice q43 (ln V1) (ln V1)) := by go_simp
  have cb43 : Below w43.heap.size w43 ((w43.alloc (.cells #[.bool (ng Z1), .slice p43 (ln (am Z1)) (ln (am Z1)), .slice q43 (ln V1) (ln V1)] 27))) := ((Below.refl _ _).alloc (by (try simp only [World.size_alloc]); omega) _)
  replace hBW := hBW.trans (cb43.mono hBW.size)
  replace q00 := below_cell cb43 q00
  replace q01 := below_cell cb43 q01
  replace q02 := below_cell cb43 q02
  replace q10 := below_cell cb43 q10
  replace q11 := below_cell cb43 q11
  replace q12 := below_cell cb43 q12
  replace l4200 := below_cell cb43 l4200
  replace l4201 := below_cell cb43 l4201
  replace l4202 := below_cell cb43 l4202
  replace hL420 := below_row cb43 hL420
  replace hp41 := hp41.later cb43
  replace hq41 := hq41.later cb43
  replace hp42 := hp42.later cb43
  replace hq42 := hq42.later cb43
  replace hp43 := hp43.later cb43
  replace hq43 := hq43.later cb43
  have hL430 : Row ((w43.alloc (.cells #[.bool (ng Z1), .slice p43 (ln (am Z1)) (ln (am Z1)), .slice q43 (ln V1) (ln V1)] 27))) (w43.heap.size) := by
    have := row_new (w43) #[.bool (ng Z1), .slice p43 (ln (am Z1)) (ln (am Z1)), .slice q43 (ln V1) (ln V1)] 27
    try simp only [World.size_alloc] at this
    exact this
  go_wp2_with fail
  generalize (w43.alloc (.cells #[.bool (ng Z1), .slice p43 (ln (am Z1)) (ln (am Z1)), .slice q43 (ln V1) (ln V1)] 27)) = w43x at q00 q01 q02 q10 q11 q12 l4200 l4201 l4202 l4300 l4301 l4302 hL420 hL430 hp41 hq41 hp42 hq42 hp43 hq43 hBW cb43 ⊢
  clear cb43
  have hsB := hBW.size
  replace hB := hB.trans (hBW.mono hB.size)
  have hltBhL420 := hL420.lt
  have hltBhL430 := hL430.lt
  clear hBW
  have hBW : Below w43x.heap.size w43x w43x := Below.refl _ _
  have khp41 := hp41.seg
  clear hp41
  have khq41 := hq41.seg
  clear hq41
  have khp42 := hp42.seg
  clear hp42
  have khq42 := hq42.seg
  clear hq42
  have khp43 := hp43.seg
  clear hp43
  have khq43 := hq43.seg
  clear hq43
  refine (sameQ_is Z1 V1 p42 q42 p43 q43 _ (by omega) (by omega) khp42 khq42 khp43 khq43).mono ?_
  rintro e w44 ⟨rfl, b44⟩
  replace hBW := hBW.trans (b44.mono hBW.size)
  replace q00 := below_cell b44 q00
  replace q01 := below_cell b44 q01
  replace q02 := below_cell b44 q02
  replace q10 := below_cell b44 q10
  replace q11 := below_cell b44 q11
  replace q12 := below_cell b44 q12
  replace l4200 := below_cell b44 l4200
  replace l4201 := below_cell b44 l4201
  replace l4202 := below_cell b44 l4202
  replace l4300 := below_cell b44 l4300
  replace l4301 := below_cell b44 l4301
  replace l4302 := below_cell b44 l4302
  replace hL420 := below_row b44 hL420
  replace hL430 := below_row b44 hL430
  replace khp41 := khp41.later b44
  replace khq41 := khq41.later b44
  replace khp42 := khp42.later b44
  replace khq42 := khq42.later b44
  replace khp43 := khp43.later b44
  replace khq43 := khq43.later b44
  clear khp41 khq41 khp42 khq42 khp43 khq43
  go_wp2_with fail
  replace hBW := hBW.drew
  first
    | go_region_held3 (fun w' => w'.cell? ⟨w.heap.size, 0, none⟩ = some (.bool s0) ∧ w'.cell? ⟨w.heap.size, 1, none⟩ = some (.slice a0 n0 c0) ∧ w'.cell? ⟨w.heap.size, 2, none⟩ = some (.slice b0 m0 d0) ∧ w'.cell? ⟨w.heap.size + 1, 0, none⟩ = some (.bool s1) ∧ w'.cell? ⟨w.heap.size + 1, 1, none⟩ = some (.slice a1 n1 c1) ∧ w'.cell? ⟨w.heap.size + 1, 2, none⟩ = some (.slice b1 m1 d1) ∧ Below w.heap.size w w')
        (first | exact ⟨q00, q01, q02, q10, q11, q12, hB.trans (hBW.mono hB.size)⟩ | exact kp6 b45 (by assumption) | exact kp6 b46 (by assumption) | exact kp6 b47 (by assumption) | exact kp6 (below_alloc _) (by assumption) | exact kp6 (below_alloc _) ⟨q00, q01, q02, q10, q11, q12, hB.trans (hBW.mono hB.size)⟩ | exact kpT6_3 (by assumption) (by omega) (by omega) (by omega) (by omega) (by omega) (by omega) (by omega))
        (first
          | (go_at_call 6; go_at_call_of 6 (Value.agg #[Value.bool s0, Value.slice a0 n0 c0, Value.slice b0 m0 d0]); (fail_if_success clear b45); refine (ltwin_is s0 a0 n0 c0 X0 b0 m0 d0 Y0 _ hc0 (by omega) (sb hS0 hB hBW) hd0 (by omega) (sb hT0 hB hBW)).mono ?_; rintro e w45 ⟨p45, q45, rfl, hp45, hq45⟩; have b45 := hp45.below; replace hp45 := hp45.back hBW; replace hq45 := hq45.back hBW; replace hBW := hBW.trans (b45.mono hBW.size); replace q00 := below_cell b45 q00; replace q01 := below_cell b45 q01; replace q02 := below_cell b45 q02; replace q10 := below_cell b45 q10; replace q11 := below_cell b45 q11; replace q12 := below_cell b45 q12; replace l4200 := below_cell b45 l4200; replace l4201 := below_cell b45 l4201; replace l4202 := below_cell b45 l4202; replace l4300 := below_cell b45 l4300; replace l4301 := below_cell b45 l4301; replace l4302 := below_cell b45 l4302; replace hL420 := below_row b45 hL420; replace hL430 := below_row b45 hL430)
          | (go_at_call 6; go_at_call_of 6 (Value.agg #[Value.bool s1, Value.slice a1 n1 c1, Value.slice b1 m1 d1]); (fail_if_success clear b46); refine (ltwin_is s1 a1 n1 c1 X1 b1 m1 d1 Y1 _ hc1 (by omega) (sb hS1 hB hBW) hd1 (by omega) (sb hT1 hB hBW)).mono ?_; rintro e w46 ⟨p46, q46, rfl, hp46, hq46⟩; have b46 := hp46.below; replace hp46 := hp46.back hBW; replace hq46 := hq46.back hBW; replace hBW := hBW.trans (b46.mono hBW.size); replace q00 := below_cell b46 q00; replace q01 := below_cell b46 q01; replace q02 := below_cell b46 q02; replace q10 := below_cell b46 q10; replace q11 := below_cell b46 q11; replace q12 := below_cell b46 q12; replace l4200 := below_cell b46 l4200; replace l4201 := below_cell b46 l4201; replace l4202 := below_cell b46 l4202; replace l4300 := below_cell b46 l4300; replace l4301 := below_cell b46 l4301; replace l4302 := below_cell b46 l4302; replace hL420 := below_row b46 hL420; replace hL430 := below_row b46 hL430; replace hp45 := hp45.later b46; replace hq45 := hq45.later b46)
          | (go_at_call 22; (fail_if_success clear b47); refine (qDiv_is s0 p45 n0 n0 X0 q45 m0 m0 Y0 s1 p46 n1 n1 X1 q46 m1 m1 Y1 Z2 V2 _ (Nat.le_refl _) (by omega) hp45.seg (Nat.le_refl _) (by omega) hq45.seg (Nat.le_refl _) (by omega) hp46.seg (Nat.le_refl _) (by omega) hq46.seg G2.out).mono ?_; rintro e w47 ⟨p47, q47, rfl, hp47, hq47⟩; have b47 := hp47.below; replace hp47 := hp47.back hBW; replace hq47 := hq47.back hBW; replace hBW := hBW.trans (b47.mono hBW.size); replace q00 := below_cell b47 q00; replace q01 := below_cell b47 q01; replace q02 := below_cell b47 q02; replace q10 := below_cell b47 q10; replace q11 := below_cell b47 q11; replace q12 := below_cell b47 q12; replace l4200 := below_cell b47 l4200; replace l4201 := below_cell b47 l4201; replace l4202 := below_cell b47 l4202; replace l4300 := below_cell b47 l4300; replace l4301 := below_cell b47 l4301; replace l4302 := below_cell b47 l4302; replace hL420 := below_row b47 hL420; replace hL430 := below_row b47 hL430; replace hp45 := hp45.later b47; replace hq45 := hq45.later b47; replace hp46 := hp46.later b47; replace hq46 := hq46.later b47; have fz := fun o => hL420.frozen o))
    | fail
  clear hp45 hq45 hp46 hq46
  have hsB := hBW.size
  have hM : Mid w.heap.size w43x.heap.size w47 (((w47.setCell ⟨w42.heap.size, 0, none⟩ (.bool (ng Z2))).setCell ⟨w42.heap.size, 1, none⟩ (.slice p47 (ln (am Z2)) (ln (am Z2)))).setCell ⟨w42.heap.size, 2, none⟩ (.slice q47 (ln V2) (ln V2))) := ((((Mid.refl _ _ _).set _ _ (by omega) (by omega) _).set _ _ (by omega) (by omega) _).set _ _ (by omega) (by omega) _)
  have eM := set3_same (w := w47) (c := w42.heap.size) (u0 := .bool (ng Z2)) (u1 := .slice p47 (ln (am Z2)) (ln (am Z2))) (u2 := .slice q47 (ln V2) (ln V2)) l4200 l4201 l4202
  have q00_ : ((((w47.setCell ⟨w42.heap.size, 0, none⟩ (.bool (ng Z2))).setCell ⟨w42.heap.size, 1, none⟩ (.slice p47 (ln (am Z2)) (ln (am Z2)))).setCell ⟨w42.heap.size, 2, none⟩ (.slice q47 (ln V2) (ln V2)))).cell? ⟨w.heap.size, 0, none⟩ = some (.bool s0) := (set3_far (by omega)).trans q00
  have q01_ : ((((w47.setCell ⟨w42.heap.size, 0, none⟩ (.bool (ng Z2))).setCell ⟨w42.heap.size, 1, none⟩ (.slice p47 (ln (am Z2)) (ln (am Z2)))).setCell ⟨w42.heap.size, 2, none⟩ (.slice q47 (ln V2) (ln V2)))).cell? ⟨w.heap.size, 1, none⟩ = some (.slice a0 n0 c0) := (set3_far (by omega)).trans q01
  have q02_ : ((((w47.setCell ⟨w42.heap.size, 0, none⟩ (.bool (ng Z2))).setCell ⟨w42.heap.size, 1, none⟩ (.slice p47 (ln (am Z2)) (ln (am Z2)))).setCell ⟨w42.heap.size, 2, none⟩ (.slice q47 (ln V2) (ln V2)))).cell? ⟨w.heap.size, 2, none⟩ = some (.slice b0 m0 d0) := (set3_far (by omega)).trans q02
  have q10_ : ((((w47.setCell ⟨w42.heap.size, 0, none⟩ (.bool (ng Z2))).setCell ⟨w42.heap.size, 1, none⟩ (.slice p47 (ln (am Z2)) (ln (am Z2)))).setCell ⟨w42.heap.size, 2, none⟩ (.slice q47 (ln V2) (ln V2)))).cell? ⟨w.heap.size + 1, 0, none⟩ = some (.bool s1) := (set3_far (by omega)).trans q10
  have q11_ : ((((w47.setCell ⟨w42.heap.size, 0, none⟩ (.bool (ng Z2))).setCell ⟨w42.heap.size, 1, none⟩ (.slice p47 (ln (am Z2)) (ln (am Z2)))).setCell ⟨w42.heap.size, 2, none⟩ (.slice q47 (ln V2) (ln V2)))).cell? ⟨w.heap.size + 1, 1, none⟩ = some (.slice a1 n1 c1) := (set3_far (by omega)).trans q11
  have q12_ : ((((w47.setCell ⟨w42.heap.size, 0, none⟩ (.bool (ng Z2))).setCell ⟨w42.heap.size, 1, none⟩ (.slice p47 (ln (am Z2)) (ln (am Z2)))).setCell ⟨w42.heap.size, 2, none⟩ (.slice q47 (ln V2) (ln V2)))).cell? ⟨w.heap.size + 1, 2, none⟩ = some (.slice b1 m1 d1) := (set3_far (by omega)).trans q12
  have l4200_ : ((((w47.setCell ⟨w42.heap.size, 0, none⟩ (.bool (ng Z2))).setCell ⟨w42.heap.size, 1, none⟩ (.slice p47 (ln (am Z2)) (ln (am Z2)))).setCell ⟨w42.heap.size, 2, none⟩ (.slice q47 (ln V2) (ln V2)))).cell? ⟨w42.heap.size, 0, none⟩ = some (.bool (ng Z2)) := eM.1
  have l4201_ : ((((w47.setCell ⟨w42.heap.size, 0, none⟩ (.bool (ng Z2))).setCell ⟨w42.heap.size, 1, none⟩ (.slice p47 (ln (am Z2)) (ln (am Z2)))).setCell ⟨w42.heap.size, 2, none⟩ (.slice q47 (ln V2) (ln V2)))).cell? ⟨w42.heap.size, 1, none⟩ = some (.slice p47 (ln (am Z2)) (ln (am Z2))) := eM.2.1
  have l4202_ : ((((w47.setCell ⟨w42.heap.size, 0, none⟩ (.bool (ng Z2))).setCell ⟨w42.heap.size, 1, none⟩ (.slice p47 (ln (am Z2)) (ln (am Z2)))).setCell ⟨w42.heap.size, 2, none⟩ (.slice q47 (ln V2) (ln V2)))).cell? ⟨w42.heap.size, 2, none⟩ = some (.slice q47 (ln V2) (ln V2)) := eM.2.2
  have l4300_ : ((((w47.setCell ⟨w42.heap.size, 0, none⟩ (.bool (ng Z2))).setCell ⟨w42.heap.size, 1, none⟩ (.slice p47 (ln (am Z2)) (ln (am Z2)))).setCell ⟨w42.heap.size, 2, none⟩ (.slice q47 (ln V2) (ln V2)))).cell? ⟨w43.heap.size, 0, none⟩ = some (.bool (ng Z1)) := (set3_far (by omega)).trans l4300
  have l4301_ : ((((w47.setCell ⟨w42.heap.size, 0, none⟩ (.bool (ng Z2))).setCell ⟨w42.heap.size, 1, none⟩ (.slice p47 (ln (am Z2)) (ln (am Z2)))).setCell ⟨w42.heap.size, 2, none⟩ (.slice q47 (ln V2) (ln V2)))).cell? ⟨w43.heap.size, 1, none⟩ = some (.slice p43 (ln (am Z1)) (ln (am Z1))) := (set3_far (by omega)).trans l4301
  have l4302_ : ((((w47.setCell ⟨w42.heap.size, 0, none⟩ (.bool (ng Z2))).setCell ⟨w42.heap.size, 1, none⟩ (.slice p47 (ln (am Z2)) (ln (am Z2)))).setCell ⟨w42.heap.size, 2, none⟩ (.slice q47 (ln V2) (ln V2)))).cell? ⟨w43.heap.size, 2, none⟩ = some (.slice q43 (ln V1) (ln V1)) := (set3_far (by omega)).trans l4302
  have hL420_ := (((hL420.setCell ⟨w42.heap.size, 0, none⟩ (.bool (ng Z2))).setCell ⟨w42.heap.size, 1, none⟩ (.slice p47 (ln (am Z2)) (ln (am Z2)))).setCell ⟨w42.heap.size, 2, none⟩ (.slice q47 (ln V2) (ln V2)))
  have fzhL420 := fun o => hL420.frozen o
  have hL430_ := (((hL430.setCell ⟨w42.heap.size, 0, none⟩ (.bool (ng Z2))).setCell ⟨w42.heap.size, 1, none⟩ (.slice p47 (ln (am Z2)) (ln (am Z2)))).setCell ⟨w42.heap.size, 2, none⟩ (.slice q47 (ln V2) (ln V2)))
  have fzhL430 := fun o => hL430.frozen o
  have khp47 := (hp47.mid hB hM).seg
  clear hp47
  have khq47 := (hq47.mid hB hM).seg
  clear hq47
  have hBn := (hB.trans (hBW.mono hB.size)).trans (hM.below (Nat.le_trans hB.size hBW.size))
  have hsM := hM.size
  clear hM eM
  go_wp2_with fail
  clear q00 q01 q02 q10 q11 q12 l4200 l4201 l4202 l4300 l4301 l4302 hL420 hL430 fzhL420 fzhL430 hB hBW
  generalize (((w47.setCell ⟨w42.heap.size, 0, none⟩ (.bool (ng Z2))).setCell ⟨w42.heap.size, 1, none⟩ (.slice p47 (ln (am Z2)) (ln (am Z2)))).setCell ⟨w42.heap.size, 2, none⟩ (.slice q47 (ln V2) (ln V2))) = w47y at q00_ q01_ q02_ q10_ q11_ q12_ l4200_ l4201_ l4202_ l4300_ l4301_ l4302_ hL420_ hL430_ khp47 khq47 hBn hsM ⊢
  have q00 := q00_
  clear q00_
  have q01 := q01_
  clear q01_
  have q02 := q02_
  clear q02_
  have q10 := q10_
  clear q10_
  have q11 := q11_
  clear q11_
  have q12 := q12_
  clear q12_
  have l4200 := l4200_
  clear l4200_
  have l4201 := l4201_
  clear l4201_
  have l4202 := l4202_
  clear l4202_
  have l4300 := l4300_
  clear l4300_
  have l4301 := l4301_
  clear l4301_
  have l4302 := l4302_
  clear l4302_
  have hL420 := hL420_
  clear hL420_
  have hL430 := hL430_
  clear hL430_
  have hB := hBn
  clear hBn
  have hBW : Below w47y.heap.size w47y w47y := Below.refl _ _
  refine (vqDiv_is s0 a0 n0 c0 X0 b0 m0 d0 Y0 s1 a1 n1 c1 X1 b1 m1 d1 Y1 Z2 V2 _ hc0 (by omega) (sb hS0 hB hBW) hd0 (by omega) (sb hT0 hB hBW) hc1 (by omega) (sb hS1 hB hBW) hd1 (by omega) (sb hT1 hB hBW) G2.out).mono ?_
  rintro e w48 ⟨p48, q48, rfl, hp48, hq48⟩
  have b48 := hp48.below
  replace hp48 := hp48.back hBW
  replace hq48 := hq48.back hBW
  replace hBW := hBW.trans (b48.mono hBW.size)
  replace q00 := below_cell b48 q00
  replace q01 := below_cell b48 q01
  replace q02 := below_cell b48 q02
  replace q10 := below_cell b48 q10
  replace q11 := below_cell b48 q11
  replace q12 := below_cell b48 q12
  replace l4200 := below_cell b48 l4200
  replace l4201 := below_cell b48 l4201
  replace l4202 := below_cell b48 l4202
  replace l4300 := below_cell b48 l4300
  replace l4301 := below_cell b48 l4301
  replace l4302 := below_cell b48 l4302
  replace hL420 := below_row b48 hL420
  replace hL430 := below_row b48 hL430
  replace khp47 := khp47.later b48
  replace khq47 := khq47.later b48
  have hsB := hBW.size
  have hM : Mid w.heap.size w47y.heap.size w48 (((w48.setCell ⟨w43.heap.size, 0, none⟩ (.bool (ng Z2))).setCell ⟨w43.heap.size, 1, none⟩ (.slice p48 (ln (am Z2)) (ln (am Z2)))).setCell ⟨w43.heap.size, 2, none⟩ (.slice q48 (ln V2) (ln V2))) := ((((Mid.refl _ _ _).set _ _ (by omega) (by omega) _).set _ _ (by omega) (by omega) _).set _ _ (by omega) (by omega) _)
  have eM := set3_same (w := w48) (c := w43.heap.size) (u0 := .bool (ng Z2)) (u1 := .slice p48 (ln (am Z2)) (ln (am Z2))) (u2 := .slice q48 (ln V2) (ln V2)) l4300 l4301 l4302
  have q00_ : ((((w48.setCell ⟨w43.heap.size, 0, none⟩ (.bool (ng Z2))).setCell ⟨w43.heap.size, 1, none⟩ (.slice p48 (ln (am Z2)) (ln (am Z2)))).setCell ⟨w43.heap.size, 2, none⟩ (.slice q48 (ln V2) (ln V2)))).cell? ⟨w.heap.size, 0, none⟩ = some (.bool s0) := (set3_far (by omega)).trans q00
  have q01_ : ((((w48.setCell ⟨w43.heap.size, 0, none⟩ (.bool (ng Z2))).setCell ⟨w43.heap.size, 1, none⟩ (.slice p48 (ln (am Z2)) (ln (am Z2)))).setCell ⟨w43.heap.size, 2, none⟩ (.slice q48 (ln V2) (ln V2)))).cell? ⟨w.heap.size, 1, none⟩ = some (.slice a0 n0 c0) := (set3_far (by omega)).trans q01
  have q02_ : ((((w48.setCell ⟨w43.heap.size, 0, none⟩ (.bool (ng Z2))).setCell ⟨w43.heap.size, 1, none⟩ (.slice p48 (ln (am Z2)) (ln (am Z2)))).setCell ⟨w43.heap.size, 2, none⟩ (.slice q48 (ln V2) (ln V2)))).cell? ⟨w.heap.size, 2, none⟩ = some (.slice b0 m0 d0) := (set3_far (by omega)).trans q02
  have q10_ : ((((w48.setCell ⟨w43.heap.size, 0, none⟩ (.bool (ng Z2))).setCell ⟨w43.heap.size, 1, none⟩ (.slice p48 (ln (am Z2)) (ln (am Z2)))).setCell ⟨w43.heap.size, 2, none⟩ (.slice q48 (ln V2) (ln V2)))).cell? ⟨w.heap.size + 1, 0, none⟩ = some (.bool s1) := (set3_far (by omega)).trans q10
  have q11_ : ((((w48.setCell ⟨w43.heap.size, 0, none⟩ (.bool (ng Z2))).setCell ⟨w43.heap.size, 1, none⟩ (.slice p48 (ln (am Z2)) (ln (am Z2)))).setCell ⟨w43.heap.size, 2, none⟩ (.slice q48 (ln V2) (ln V2)))).cell? ⟨w.heap.size + 1, 1, none⟩ = some (.slice a1 n1 c1) := (set3_far (by omega)).trans q11
  have q12_ : ((((w48.setCell ⟨w43.heap.size, 0, none⟩ (.bool (ng Z2))).setCell ⟨w43.heap.size, 1, none⟩ (.slice p48 (ln (am Z2)) (ln (am Z2)))).setCell ⟨w43.heap.size, 2, none⟩ (.slice q48 (ln V2) (ln V2)))).cell? ⟨w.heap.size + 1, 2, none⟩ = some (.slice b1 m1 d1) := (set3_far (by omega)).trans q12
  have l4200_ : ((((w48.setCell ⟨w43.heap.size, 0, none⟩ (.bool (ng Z2))).setCell ⟨w43.heap.size, 1, none⟩ (.slice p48 (ln (am Z2)) (ln (am Z2)))).setCell ⟨w43.heap.size, 2, none⟩ (.slice q48 (ln V2) (ln V2)))).cell? ⟨w42.heap.size, 0, none⟩ = some (.bool (ng Z2)) := (set3_far (by omega)).trans l4200
  have l4201_ : ((((w48.setCell ⟨w43.heap.size, 0, none⟩ (.bool (ng Z2))).setCell ⟨w43.heap.size, 1, none⟩ (.slice p48 (ln (am Z2)) (ln (am Z2)))).setCell ⟨w43.heap.size, 2, none⟩ (.slice q48 (ln V2) (ln V2)))).cell? ⟨w42.heap.size, 1, none⟩ = some (.slice p47 (ln (am Z2)) (ln (am Z2))) := (set3_far (by omega)).trans l4201
  have l4202_ : ((((w48.setCell ⟨w43.heap.size, 0, none⟩ (.bool (ng Z2))).setCell ⟨w43.heap.size, 1, none⟩ (.slice p48 (ln (am Z2)) (ln (am Z2)))).setCell ⟨w43.heap.size, 2, none⟩ (.slice q48 (ln V2) (ln V2)))).cell? ⟨w42.heap.size, 2, none⟩ = some (.slice q47 (ln V2) (ln V2)) := (set3_far (by omega)).trans l4202
  have l4300_ : ((((w48.setCell ⟨w43.heap.size, 0, none⟩ (.bool (ng Z2))).setCell ⟨w43.heap.size, 1, none⟩ (.slice p48 (ln (am Z2)) (ln (am Z2)))).setCell ⟨w43.heap.size, 2, none⟩ (.slice q48 (ln V2) (ln V2)))).cell? ⟨w43.heap.size, 0, none⟩ = some (.bool (ng Z2)) := eM.1
  have l4301_ : ((((w48.setCell ⟨w43.heap.size, 0, none⟩ (.bool (ng Z2))).setCell ⟨w43.heap.size, 1, none⟩ (.slice p48 (ln (am Z2)) (ln (am Z2)))).setCell ⟨w43.heap.size, 2, none⟩ (.slice q48 (ln V2) (ln V2)))).cell? ⟨w43.heap.size, 1, none⟩ = some (.slice p48 (ln (am Z2)) (ln (am Z2))) := eM.2.1
  have l4302_ : ((((w48.setCell ⟨w43.heap.size, 0, none⟩ (.bool (ng Z2))).setCell ⟨w43.heap.size, 1, none⟩ (.slice p48 (ln (am Z2)) (ln (am Z2)))).setCell ⟨w43.heap.size, 2, none⟩ (.slice q48 (ln V2) (ln V2)))).cell? ⟨w43.heap.size, 2, none⟩ = some (.slice q48 (ln V2) (ln V2)) := eM.2.2
  have hL420_ := (((hL420.setCell ⟨w43.heap.size, 0, none⟩ (.bool (ng Z2))).setCell ⟨w43.heap.size, 1, none⟩ (.slice p48 (ln (am Z2)) (ln (am Z2)))).setCell ⟨w43.heap.size, 2, none⟩ (.slice q48 (ln V2) (ln V2)))
  have fzhL420 := fun o => hL420.frozen o
  have hL430_ := (((hL430.setCell ⟨w43.heap.size, 0, none⟩ (.bool (ng Z2))).setCell ⟨w43.heap.size, 1, none⟩ (.slice p48 (ln (am Z2)) (ln (am Z2)))).setCell ⟨w43.heap.size, 2, none⟩ (.slice q48 (ln V2) (ln V2)))
  have fzhL430 := fun o => hL430.frozen o
  replace khp47 := khp47.set3 (u0 := .bool (ng Z2)) (u1 := .slice p48 (ln (am Z2)) (ln (am Z2))) (u2 := .slice q48 (ln V2) (ln V2)) l4300 l4301 l4302
  replace khq47 := khq47.set3 (u0 := .bool (ng Z2)) (u1 := .slice p48 (ln (am Z2)) (ln (am Z2))) (u2 := .slice q48 (ln V2) (ln V2)) l4300 l4301 l4302
  have khp48 := (hp48.mid hB hM).seg
  clear hp48
  have khq48 := (hq48.mid hB hM).seg
  clear hq48
  have hBn := (hB.trans (hBW.mono hB.size)).trans (hM.below (Nat.le_trans hB.size hBW.size))
  have hsM := hM.size
  clear hM eM
  go_wp2_with fail
  clear q00 q01 q02 q10 q11 q12 l4200 l4201 l4202 l4300 l4301 l4302 hL420 hL430 fzhL420 fzhL430 hB hBW
  generalize (((w48.setCell ⟨w43.heap.size, 0, none⟩ (.bool (ng Z2))).setCell ⟨w43.heap.size, 1, none⟩ (.slice p48 (ln (am Z2)) (ln (am Z2)))).setCell ⟨w43.heap.size, 2, none⟩ (.slice q48 (ln V2) (ln V2))) = w48y at q00_ q01_ q02_ q10_ q11_ q12_ l4200_ l4201_ l4202_ l4300_ l4301_ l4302_ hL420_ hL430_ khp47 khq47 khp48 khq48 hBn hsM ⊢
  have q00 := q00_
  clear q00_
  have q01 := q01_
  clear q01_
  have q02 := q02_
  clear q02_
  have q10 := q10_
  clear q10_
  have q11 := q11_
  clear q11_
  have q12 := q12_
  clear q12_
  have l4200 := l4200_
  clear l4200_
  have l4201 := l4201_
  clear l4201_
  have l4202 := l4202_
  clear l4202_
  have l4300 := l4300_
  clear l4300_
  have l4301 := l4301_
  clear l4301_
  have l4302 := l4302_
  clear l4302_
  have hL420 := hL420_
  clear hL420_
  have hL430 := hL430_
  clear hL430_
  have hB := hBn
  clear hBn
  have hBW : Below w48y.heap.size w48y w48y := Below.refl _ _
  refine (sameQ_is Z2 V2 p47 q47 p48 q48 _ (by omega) (by omega) khp47 khq47 khp48 khq48).mono ?_
  rintro e w49 ⟨rfl, b49⟩
  replace hBW := hBW.trans (b49.mono hBW.size)
  replace q00 := below_cell b49 q00
  replace q01 := below_cell b49 q01
  replace q02 := below_cell b49 q02
  replace q10 := below_cell b49 q10
  replace q11 := below_cell b49 q11
  replace q12 := below_cell b49 q12
  replace l4200 := below_cell b49 l4200
  replace l4201 := below_cell b49 l4201
  replace l4202 := below_cell b49 l4202
  replace l4300 := below_cell b49 l4300
  replace l4301 := below_cell b49 l4301
  replace l4302 := below_cell b49 l4302
  replace hL420 := below_row b49 hL420
  replace hL430 := below_row b49 hL430
  replace khp47 := khp47.later b49
  replace khq47 := khq47.later b49
  replace khp48 := khp48.later b49
  replace khq48 := khq48.later b49
  clear khp47 khq47 khp48 khq48
  go_wp2_with fail
  refine (G3.out _).mono ?_
  rintro e w50 ⟨p50, q50, rfl, hp50, hq50⟩
  have b50 := hp50.below
  replace hp50 := hp50.back hBW
  replace hq50 := hq50.back hBW
  replace hBW := hBW.trans (b50.mono hBW.size)
  replace q00 := below_cell b50 q00
  replace q01 := below_cell b50 q01
  replace q02 := below_cell b50 q02
  replace q10 := below_cell b50 q10
  replace q11 := below_cell b50 q11
  replace q12 := below_cell b50 q12
  replace l4200 := below_cell b50 l4200
  replace l4201 := below_cell b50 l4201
  replace l4202 := below_cell b50 l4202
  replace l4300 := below_cell b50 l4300
  replace l4301 := below_cell b50 l4301
  replace l4302 := below_cell b50 l4302
  replace hL420 := below_row b50 hL420
  replace hL430 := below_row b50 hL430
  go_wp2_with fail
  refine (G6.out _).mono ?_
  rintro e w51 ⟨p51, q51, rfl, hp51, hq51⟩
  have b51 := hp51.below
  replace hp51 := hp51.back hBW
  replace hq51 := hq51.back hBW
  replace hBW := hBW.trans (b51.mono hBW.size)
  replace q00 := below_cell b51 q00
  replace q01 := below_cell b51 q01
  replace q02 := below_cell b51 q02
  replace q10 := below_cell b51 q10
  replace q11 := below_cell b51 q11
  replace q12 := below_cell b51 q12
  replace l4200 := below_cell b51 l4200
  replace l4201 := below_cell b51 l4201
  replace l4202 := below_cell b51 l4202
  replace l4300 := below_cell b51 l4300
  replace l4301 := below_cell b51 l4301
  replace l4302 := below_cell b51 l4302
  replace hL420 := below_row b51 hL420
  replace hL430 := below_row b51 hL430
  replace hp50 := hp50.later b51
  replace hq50 := hq50.later b51
  go_wp2_with fail
  refine (GD.out _ p50 q50 p51 q51 hp50.seg hq50.seg hp51.seg hq51.seg).mono ?_
  rintro e w52 ⟨p52, q52, rfl, hp52, hq52⟩
  have b52 := hp52.below
  replace hp52 := hp52.back hBW
  replace hq52 := hq52.back hBW
  replace hBW := hBW.trans (b52.mono hBW.size)
  replace q00 := below_cell b52 q00
  replace q01 := below_cell b52 q01
  replace q02 := below_cell b52 q02
  replace q10 := below_cell b52 q10
  replace q11 := below_cell b52 q11
  replace q12 := below_cell b52 q12
  replace l4200 := below_cell b52 l4200
  replace l4201 := below_cell b52 l4201
  replace l4202 := below_cell b52 l4202
  replace l4300 := below_cell b52 l4300
  replace l4301 := below_cell b52 l4301
  replace l4302 := below_cell b52 l4302
  replace hL420 := below_row b52 hL420
  replace hL430 := below_row b52 hL430
  replace hp50 := hp50.later b52
  replace hq50 := hq50.later b52
  replace hp51 := hp51.later b52
  replace hq51 := hq51.later b52
  clear hp50 hq50 hp51 hq51
  have hsB := hBW.size
  have hM : Mid w.heap.size w48y.heap.size w52 (((w52.setCell ⟨w42.heap.size, 0, none⟩ (.bool (ng J1))).setCell ⟨w42.heap.size, 1, none⟩ (.slice p52 (ln (am J1)) (ln (am J1)))).setCell ⟨w42.heap.size, 2, none⟩ (.slice q52 (ln J2) (ln J2))) := ((((Mid.refl _ _ _).set _ _ (by omega) (by omega) _).set _ _ (by omega) (by omega) _).set _ _ (by omega) (by omega) _)
  have eM := set3_same (w := w52) (c := w42.heap.size) (u0 := .bool (ng J1)) (u1 := .slice p52 (ln (am J1)) (ln (am J1))) (u2 := .slice q52 (ln J2) (ln J2)) l4200 l4201 l4202
  have q00_ : ((((w52.setCell ⟨w42.heap.size, 0, none⟩ (.bool (ng J1))).setCell ⟨w42.heap.size, 1, none⟩ (.slice p52 (ln (am J1)) (ln (am J1)))).setCell ⟨w42.heap.size, 2, none⟩ (.slice q52 (ln J2) (ln J2)))).cell? ⟨w.heap.size, 0, none⟩ = some (.bool s0) := (set3_far (by omega)).trans q00
  have q01_ : ((((w52.setCell ⟨w42.heap.size, 0, none⟩ (.bool (ng J1))).setCell ⟨w42.heap.size, 1, none⟩ (.slice p52 (ln (am J1)) (ln (am J1)))).setCell ⟨w42.heap.size, 2, none⟩ (.slice q52 (ln J2) (ln J2)))).cell? ⟨w.heap.size, 1, none⟩ = some (.slice a0 n0 c0) := (set3_far (by omega)).trans q01
  have q02_ : ((((w52.setCell ⟨w42.heap.size, 0, none⟩ (.bool (ng J1))).setCell ⟨w42.heap.size, 1, none⟩ (.slice p52 (ln (am J1)) (ln (am J1)))).setCell ⟨w42.heap.size, 2, none⟩ (.slice q52 (ln J2) (ln J2)))).cell? ⟨w.heap.size, 2, none⟩ = some (.slice b0 m0 d0) := (set3_far (by omega)).trans q02
  have q10_ : ((((w52.setCell ⟨w42.heap.size, 0, none⟩ (.bool (ng J1))).setCell ⟨w42.heap.size, 1, none⟩ (.slice p52 (ln (am J1)) (ln (am J1)))).setCell ⟨w42.heap.size, 2, none⟩ (.slice q52 (ln J2) (ln J2)))).cell? ⟨w.heap.size + 1, 0, none⟩ = some (.bool s1) := (set3_far (by omega)).trans q10
  have q11_ : ((((w52.setCell ⟨w42.heap.size, 0, none⟩ (.bool (ng J1))).setCell ⟨w42.heap.size, 1, none⟩ (.slice p52 (ln (am J1)) (ln (am J1)))).setCell ⟨w42.heap.size, 2, none⟩ (.slice q52 (ln J2) (ln J2)))).cell? ⟨w.heap.size + 1, 1, none⟩ = some (.slice a1 n1 c1) := (set3_far (by omega)).trans q11
  have q12_ : ((((w52.setCell ⟨w42.heap.size, 0, none⟩ (.bool (ng J1))).setCell ⟨w42.heap.size, 1, none⟩ (.slice p52 (ln (am J1)) (ln (am J1)))).setCell ⟨w42.heap.size, 2, none⟩ (.slice q52 (ln J2) (ln J2)))).cell? ⟨w.heap.size + 1, 2, none⟩ = some (.slice b1 m1 d1) := (set3_far (by omega)).trans q12
  have l4200_ : ((((w52.setCell ⟨w42.heap.size, 0, none⟩ (.bool (ng J1))).setCell ⟨w42.heap.size, 1, none⟩ (.slice p52 (ln (am J1)) (ln (am J1)))).setCell ⟨w42.heap.size, 2, none⟩ (.slice q52 (ln J2) (ln J2)))).cell? ⟨w42.heap.size, 0, none⟩ = some (.bool (ng J1)) := eM.1
  have l4201_ : ((((w52.setCell ⟨w42.heap.size, 0, none⟩ (.bool (ng J1))).setCell ⟨w42.heap.size, 1, none⟩ (.slice p52 (ln (am J1)) (ln (am J1)))).setCell ⟨w42.heap.size, 2, none⟩ (.slice q52 (ln J2) (ln J2)))).cell? ⟨w42.heap.size, 1, none⟩ = some (.slice p52 (ln (am J1)) (ln (am J1))) := eM.2.1
  have l4202_ : ((((w52.setCell ⟨w42.heap.size, 0, none⟩ (.bool (ng J1))).setCell ⟨w42.heap.size, 1, none⟩ (.slice p52 (ln (am J1)) (ln (am J1)))).setCell ⟨w42.heap.size, 2, none⟩ (.slice q52 (ln J2) (ln J2)))).cell? ⟨w42.heap.size, 2, none⟩ = some (.slice q52 (ln J2) (ln J2)) := eM.2.2
  have l4300_ : ((((w52.setCell ⟨w42.heap.size, 0, none⟩ (.bool (ng J1))).setCell ⟨w42.heap.size, 1, none⟩ (.slice p52 (ln (am J1)) (ln (am J1)))).setCell ⟨w42.heap.size, 2, none⟩ (.slice q52 (ln J2) (ln J2)))).cell? ⟨w43.heap.size, 0, none⟩ = some (.bool (ng Z2)) := (set3_far (by omega)).trans l4300
  have l4301_ : ((((w52.setCell ⟨w42.heap.size, 0, none⟩ (.bool (ng J1))).setCell ⟨w42.heap.size, 1, none⟩ (.slice p52 (ln (am J1)) (ln (am J1)))).setCell ⟨w42.heap.size, 2, none⟩ (.slice q52 (ln J2) (ln J2)))).cell? ⟨w43.heap.size, 1, none⟩ = some (.slice p48 (ln (am Z2)) (ln (am Z2))) := (set3_far (by omega)).trans l4301
  have l4302_ : ((((w52.setCell ⟨w42.heap.size, 0, none⟩ (.bool (ng J1))).setCell ⟨w42.heap.size, 1, none⟩ (.slice p52 (ln (am J1)) (ln (am J1)))).setCell ⟨w42.heap.size, 2, none⟩ (.slice q52 (ln J2) (ln J2)))).cell? ⟨w43.heap.size, 2, none⟩ = some (.slice q48 (ln V2) (ln V2)) := (set3_far (by omega)).trans l4302
  have hL420_ := (((hL420.setCell ⟨w42.heap.size, 0, none⟩ (.bool (ng J1))).setCell ⟨w42.heap.size, 1, none⟩ (.slice p52 (ln (am J1)) (ln (am J1)))).setCell ⟨w42.heap.size, 2, none⟩ (.slice q52 (ln J2) (ln J2)))
  have fzhL420 := fun o => hL420.frozen o
  have hL430_ := (((hL430.setCell ⟨w42.heap.size, 0, none⟩ (.bool (ng J1))).setCell ⟨w42.heap.size, 1, none⟩ (.slice p52 (ln (am J1)) (ln (am J1)))).setCell ⟨w42.heap.size, 2, none⟩ (.slice q52 (ln J2) (ln J2)))
  have fzhL430 := fun o => hL430.frozen o
  have khp52 := (hp52.mid hB hM).seg
  clear hp52
  have khq52 := (hq52.mid hB hM).seg
  clear hq52
  have hBn := (hB.trans (hBW.mono hB.size)).trans (hM.below (Nat.le_trans hB.size hBW.size))
  have hsM := hM.size
  clear hM eM
  go_wp2_with fail
  clear q00 q01 q02 q10 q11 q12 l4200 l4201 l4202 l4300 l4301 l4302 hL420 hL430 fzhL420 fzhL430 hB hBW
  generalize (((w52.setCell ⟨w42.heap.size, 0, none⟩ (.bool (ng J1))).setCell ⟨w42.heap.size, 1, none⟩ (.slice p52 (ln (am J1)) (ln (am J1)))).setCell ⟨w42.heap.size, 2, none⟩ (.slice q52 (ln J2) (ln J2))) = w52y at q00_ q01_ q02_ q10_ q11_ q12_ l4200_ l4201_ l4202_ l4300_ l4301_ l4302_ hL420_ hL430_ khp52 khq52 hBn hsM ⊢
  have q00 := q00_
  clear q00_
  have q01 := q01_
  clear q01_
  have q02 := q02_
  clear q02_
  have q10 := q10_
  clear q10_
  have q11 := q11_
  clear q11_
  have q12 := q12_
  clear q12_
  have l4200 := l4200_
  clear l4200_
  have l4201 := l4201_
  clear l4201_
  have l4202 := l4202_
  clear l4202_
  have l4300 := l4300_
  clear l4300_
  have l4301 := l4301_
  clear l4301_
  have l4302 := l4302_
  clear l4302_
  have hL420 := hL420_
  clear hL420_
  have hL430 := hL430_
  clear hL430_
  have hB := hBn
  clear hBn
  have hBW : Below w52y.heap.size w52y w52y := Below.refl _ _
  replace hBW := hBW.drew
  replace khp52 := khp52.drew
  replace khq52 := khq52.drew
  first
    | go_region_held3 (fun w' => w'.cell? ⟨w42.heap.size, 0, none⟩ = some (.bool (ng J1)) ∧ w'.cell? ⟨w42.heap.size, 1, none⟩ = some (.slice p52 (ln (am J1)) (ln (am J1))) ∧ w'.cell? ⟨w42.heap.size, 2, none⟩ = some (.slice q52 (ln J2) (ln J2)) ∧ Below w.heap.size w w')
        (first | exact ⟨l4200, l4201, l4202, hB.trans (hBW.mono hB.size)⟩ | exact kp3 b53 (by assumption) | exact kp3 b54 (by assumption) | exact kp3 (below_alloc _) (by assumption))
        (first
          | (go_at_call 25; refine Calls.mono (GN.out _ _ _ (by first | exact seg_a _ _ _ _ rfl (by omega) | exact seg_b _ _ _ _ rfl (by omega)) (by first | exact seg_a _ _ _ _ rfl (by omega) | exact seg_b _ _ _ _ rfl (by omega))) ?_; rintro e w53 ⟨p53, q53, rfl, hp53, hq53⟩; have b53 := hp53.below; (try replace b53 := un_drew b53); replace b53 := below_al b53; (try replace b53 := un_drew b53); replace b53 := below_al b53; have kp53 := hp53.seg; have kq53 := hq53.seg; clear hp53 hq53; replace hBW := hBW.trans (b53.mono hBW.size); replace q00 := below_cell b53 q00; replace q01 := below_cell b53 q01; replace q02 := below_cell b53 q02; replace q10 := below_cell b53 q10; replace q11 := below_cell b53 q11; replace q12 := below_cell b53 q12; replace l4200 := below_cell b53 l4200; replace l4201 := below_cell b53 l4201; replace l4202 := below_cell b53 l4202; replace l4300 := below_cell b53 l4300; replace l4301 := below_cell b53 l4301; replace l4302 := below_cell b53 l4302; replace hL420 := below_row b53 hL420; replace hL430 := below_row b53 hL430; replace khp52 := khp52.later b53; replace khq52 := khq52.later b53)
          | (go_at_call 8; refine (sameQ_is J1 J2 p52 q52 p53 q53 _ (by omega) (by omega) khp52 khq52 kp53 kq53).mono ?_; rintro e w54 ⟨rfl, b54⟩; replace hBW := hBW.trans (b54.mono hBW.size); replace q00 := below_cell b54 q00; replace q01 := below_cell b54 q01; replace q02 := below_cell b54 q02; replace q10 := below_cell b54 q10; replace q11 := below_cell b54 q11; replace q12 := below_cell b54 q12; replace l4200 := below_cell b54 l4200; replace l4201 := below_cell b54 l4201; replace l4202 := below_cell b54 l4202; replace l4300 := below_cell b54 l4300; replace l4301 := below_cell b54 l4301; replace l4302 := below_cell b54 l4302; replace hL420 := below_row b54 hL420; replace hL430 := below_row b54 hL430; replace khp52 := khp52.later b54; replace khq52 := khq52.later b54; replace kp53 := kp53.later b54; replace kq53 := kq53.later b54))
    | fail
  all_goals go_wp2
  all_goals go_ret
  all_goals exact ⟨rfl, hB.trans (hBW.mono hB.size)⟩

theorem walk (s0 : Bool) (a0 : Option Addr) (n0 c0 X0 : Nat) (b0 : Option Addr) (m0 d0 Y0 : Nat) (s1 : Bool) (a1 : Option Addr) (n1 c1 X1 : Nat) (b1 : Option Addr) (m1 d1 Y1 : Nat) (w : World) (hc0 : n0 ≤ c0) (hm0 : n0 ≤ 35184372087808) (hS0 : Seg w a0 X0 n0) (hd0 : m0 ≤ d0) (hk0 : m0 ≤ 35184372087808) (hT0 : Seg w b0 Y0 m0) (hc1 : n1 ≤ c1) (hm1 : n1 ≤ 35184372087808) (hS1 : Seg w a1 X1 n1) (hd1 : m1 ≤ d1) (hk1 : m1 ≤ 35184372087808) (hT1 : Seg w b1 Y1 m1) :
    Calls Try.prog 4 #[Value.agg #[Value.bool s0, Value.slice a0 n0 c0, Value.slice b0 m0 d0], Value.agg #[Value.bool s1, Value.slice a1 n1 c1, Value.slice b1 m1 d1]] w fun e w' => e = .returned (.bool true) ∧ Below w.heap.size w w' := by
  by_cases h : rn s1 X1 Y1 = 0
  · exact walk_zero s0 a0 n0 c0 X0 b0 m0 d0 Y0 s1 a1 n1 c1 X1 b1 m1 d1 Y1 w hc0 hm0 hS0 hd0 hk0 hT0 hc1 hm1 hS1 hd1 hk1 hT1 h
  · exact walk_is s0 a0 n0 c0 X0 b0 m0 d0 Y0 s1 a1 n1 c1 X1 b1 m1 d1 Y1 w hc0 hm0 hS0 hd0 hk0 hT0 hc1 hm1 hS1 hd1 hk1 hT1 h

set_option maxRecDepth 100000 in
theorem contract (H : Type) (enc : TypeId × Value → H) (W : World) (base : Nat) (args : Array Value) (ds gs : List (DataW H)) (before : List MemPlace)
    (hval : ∀ (j : Nat) t v, Try.f4.params[j]? = some t → args[j]? = some v → Value.okWide Try.prog W .any base t v)
    (hW : DataW.Whole enc Try.prog Try.f4.params.toList Rows.ratioQuotientsSpec.vars false W args.toList ds gs before)
    (hsz : (DataW.weightsEach Try.prog (Try.f4.params.toList ++ Rows.ratioQuotientsSpec.plain.varTypes Try.prog) (ds ++ gs)).all (· ≤ reachBytes) = true) :
    Calls Try.prog 4 args W fun e W' => ∃ v, e = .returned v ∧ Rows.ratioQuotientsSpec.post enc Try.prog Try.f4 false true false false W args v W' := by
  have hW' := hW
  obtain ⟨p, q, hA0, hV, rfl, hfz, hnd⟩ := hW
  have hA : DataW.TrodAll enc Try.prog W 0 (fun _ => true) true Try.f4.params.toList args.toList ds p := hA0
  rw [Try.params4] at hA hval hsz
  obtain ⟨v0, vs0, d0, ds0, p0, q0, hargs, rfl, rfl, h0, r0⟩ := trodAll_cons hA
  obtain ⟨v1, vs1, d1, ds1, p1, q1, rfl, rfl, rfl, h1, r1⟩ := trodAll_cons r0
  obtain ⟨rfl, rfl, rfl⟩ := trodAll_nil r1
  obtain rfl : args = #[v0, v1] := by cases args; simp_all
  obtain ⟨rfl, rfl⟩ := trodVars_none hV
  have lt0 : ∀ x ∈ p0, x.block < W.heap.size := by obtain ⟨m, hm⟩ := h0; exact DataW.trod_lt m _ _ _ hm
  obtain ⟨rs0, ra0, rn0, rc0, rX0, rb0, rm0, re0, rY0, rfl, hS0, hc0, hb0, hT0, hd0, hk0, hu0, hv0⟩ := open_Rat (hval 0 27 v0 rfl rfl) h0 (sized_at 0 hsz rfl rfl)
  have lt1 : ∀ x ∈ p1, x.block < W.heap.size := by obtain ⟨m, hm⟩ := h1; exact DataW.trod_lt m _ _ _ hm
  obtain ⟨rs1, ra1, rn1, rc1, rX1, rb1, rm1, re1, rY1, rfl, hS1, hc1, hb1, hT1, hd1, hk1, hu1, hv1⟩ := open_Rat (hval 1 27 v1 rfl rfl) h1 (sized_at 1 hsz rfl rfl)
  clear hA0
  simp only [List.append_nil] at hW'
  refine (walk rs0 ra0 rn0 rc0 rX0 rb0 rm0 re0 rY0 rs1 ra1 rn1 rc1 rX1 rb1 rm1 re1 rY1 W hc0 hb0 hS0 hd0 hk0 hT0 hc1 hb1 hS1 hd1 hk1 hT1).mono fun e W' ⟨he, bel⟩ => ?_
  subst he
  exact ⟨_, rfl, _, _, _, [], _, [], hW', trodAll_mk1 (shut_bool Try.underlying4 _), (trodAll_cons_mk (Below.trod laidOut (by kernel_rfl) (of_decide_eq_true (by kernel_rfl)) h0 bel lt0) (trodAll_cons_mk (Below.trod laidOut (by kernel_rfl) (of_decide_eq_true (by kernel_rfl)) h1 bel lt1) trodAll_mk0)), rfl, bel.frame _, fun h => by cases h⟩

set_option maxRecDepth 100000 in
theorem lifted (os : Os) (started : os.Started) (H : Type) (enc : TypeId × Value → H) :
    ReturnsInHanded {} Try.checked os 4 .any (Rows.ratioQuotientsSpec.pre6 enc Try.prog Try.f4 Rows.ratioQuotientsRow.domain false) (Rows.ratioQuotientsSpec.post enc Try.prog Try.f4 false true false false) := by
  refine returnsInHanded_of_change_sized (C := Try.checked) own started (by kernel_rfl) Try.func4
    (ChangeSpec.witness6 (enc := enc) (C := Try.checked) false ⟨#[], #[.agg #[.bool false, .slice none 0 0, .slice none 0 0], .agg #[.bool false, .slice none 0 0, .slice none 0 0]], []⟩ 8 (by kernel_rfl) (by kernel_rfl) (by kernel_rfl) (by kernel_rfl)) ?_
  intro W base args ds gs before hval hW _ hsz _
  exact contract H enc W base args ds gs before hval hW hsz

theorem over : Rows.ratioQuotientsRow.holds Try.pinned (OpenSpec.ofChange Rows.ratioQuotientsSpec) :=
  OpenClaim.holds_of_wide 4 Try.f4 rfl rfl rfl rfl rfl rfl rfl ⟨rfl, rfl, rfl, rfl, rfl⟩ rfl rfl rfl rfl rfl (by kernel_rfl) Try.func4 (by kernel_rfl)
    (of_decide_eq_true (by kernel_rfl)) (by unfold Func.isWrapper; first | (rw [if_pos (by decide +kernel)]; kernel_rfl) | (rw [if_neg (by decide +kernel)]; exact ⟨rfl, rfl⟩))
    (fun os started H enc _ => lifted os started H enc)

end Go.Proofs.Ytkdmciiighjffaa.ratioQuotients
namespace Go.Proofs.Ytkdmciiighjffaa
theorem ratioQuotients_holds : Rows.RatioQuotientsSaid := ratioQuotients.over
#print axioms ratioQuotients_holds
end Go.Proofs.Ytkdmciiighjffaa
