/-
  Layer 3: Inv, Div.
-/
import Derived.Test.YtkdmciiighjffaaWQB
namespace Go.Proofs.Ytkdmciiighjffaa
open Go.RowKit
set_option linter.unusedVariables false

set_option maxHeartbeats 4000000 in
set_option maxRecDepth 100000 in
theorem qInv_zero (s0 : Bool) (a0 : Option Addr) (n0 c0 X0 : Nat) (b0 : Option Addr) (m0 d0 Y0 : Nat)  (w : World) (hc0 : n0 ≤ c0) (hm0 : n0 ≤ 35184372087808) (hS0 : Seg w a0 X0 n0) (hd0 : m0 ≤ d0) (hk0 : m0 ≤ 35184372087808) (hT0 : Seg w b0 Y0 m0) (h0 : rn s0 X0 Y0 = 0) :
    Calls Try.prog 19 #[Value.agg #[Value.bool s0, Value.slice a0 n0 c0, Value.slice b0 m0 d0]] w fun e w' => e = .returned (.tuple #[.agg #[.bool false, .slice none 0 0, .slice none 0 0], .int .i64 11]) ∧ Below w.heap.size w w' := by
  have H0 := hide' h0
  clear h0
  go_enter Try.func19, Try.ntmps19
  go_wp2_with fail
  obtain ⟨W, hW⟩ : ∃ W, ((w.alloc (.cells #[.bool s0, .slice a0 n0 c0, .slice b0 m0 d0] 27)).alloc (.cells #[.bool false, .slice none 0 0, .slice none 0 0] 27)) = W := ⟨_, rfl⟩
  have q00 : W.cell? ⟨w.heap.size, 0, none⟩ = some (.bool s0) := by subst hW; go_simp
  have q01 : W.cell? ⟨w.heap.size, 1, none⟩ = some (.slice a0 n0 c0) := by subst hW; go_simp
  have q02 : W.cell? ⟨w.heap.size, 2, none⟩ = some (.slice b0 m0 d0) := by subst hW; go_simp
  have r00 : W.cell? ⟨w.heap.size + 1, 0, none⟩ = some (.bool false) := by subst hW; go_simp
  have r01 : W.cell? ⟨w.heap.size + 1, 1, none⟩ = some (.slice none 0 0) := by subst hW; go_simp
  have r02 : W.cell? ⟨w.heap.size + 1, 2, none⟩ = some (.slice none 0 0) := by subst hW; go_simp
  have hB : Below w.heap.size w W := by subst hW; exact (((Below.refl _ _).alloc (by (try simp only [World.size_alloc]); omega) _).alloc (by (try simp only [World.size_alloc]); omega) _)
  have hR0 : Row W (w.heap.size + 1) := by
    have := row_new ((w.alloc (.cells #[.bool s0, .slice a0 n0 c0, .slice b0 m0 d0] 27))) #[.bool false, .slice none 0 0, .slice none 0 0] 27
    try simp only [World.size_alloc] at this
    subst hW; exact this
  have hz : W.heap.size = w.heap.size + 1 + 1 := by subst hW; simp only [World.size_alloc]
  rw [hW]
  clear hW
  have hBW : Below W.heap.size W W := Below.refl _ _
  go_wp2_with fail
  refine (read_is s0 a0 n0 c0 X0 b0 m0 d0 Y0 35184372087808 _ hc0 hm0 (sb hS0 hB hBW) hd0 hk0 (sb hT0 hB hBW) (by omega) (by omega)).mono ?_
  rintro e w41 ⟨zs41, zp41, zn41, zc41, zX41, zq41, zm41, zd41, rfl, ga41, gb41, gc41, gd41, kS41, kT41, ge41, bb41⟩
  have b41 := bb41
  replace hBW := hBW.trans (b41.mono hBW.size)
  replace q00 := below_cell b41 q00
  replace q01 := below_cell b41 q01
  replace q02 := below_cell b41 q02
  replace r00 := below_cell b41 r00
  replace r01 := below_cell b41 r01
  replace r02 := below_cell b41 r02
  replace hR0 := below_row b41 hR0
  have hsz41 := hBW.size
  have hlt41hR0 := hR0.lt
  have l4100 : ((w41.alloc (.cells #[.bool zs41, .slice zp41 zn41 zc41, .bool false, .slice zq41 zm41 zd41] 41))).cell? ⟨w41.heap.size, 0, none⟩ = some (.bool zs41) := by go_simp
  have l4101 : ((w41.alloc (.cells #[.bool zs41, .slice zp41 zn41 zc41, .bool false, .slice zq41 zm41 zd41] 41))).cell? ⟨w41.heap.size, 1, none⟩ = some (.slice zp41 zn41 zc41) := by go_simp
  have l4102 : ((w41.alloc (.cells #[.bool zs41, .slice zp41 zn41 zc41, .bool false, .slice zq41 zm41 zd41] 41))).cell? ⟨w41.heap.size, 2, none⟩ = some (.bool false) := by go_simp
  have l4103 : ((w41.alloc (.cells #[.bool zs41, .slice zp41 zn41 zc41, .bool false, .slice zq41 zm41 zd41] 41))).cell? ⟨w41.heap.size, 3, none⟩ = some (.slice zq41 zm41 zd41) := by go_simp
  have cb41 : Below w41.heap.size w41 ((w41.alloc (.cells #[.bool zs41, .slice zp41 zn41 zc41, .bool false, .slice zq41 zm41 zd41] 41))) := ((Below.refl _ _).alloc (by (try simp only [World.size_alloc]); omega) _)
  replace hBW := hBW.trans (cb41.mono hBW.size)
  replace q00 := below_cell cb41 q00
  replace q01 := below_cell cb41 q01
  replace q02 := below_cell cb41 q02
  replace r00 := below_cell cb41 r00
  replace r01 := below_cell cb41 r01
  replace r02 := below_cell cb41 r02
  replace hR0 := below_row cb41 hR0
  replace kS41 := kS41.later cb41
  replace kT41 := kT41.later cb41
  have hL410 : Row ((w41.alloc (.cells #[.bool zs41, .slice zp41 zn41 zc41, .bool false, .slice zq41 zm41 zd41] 41))) (w41.heap.size) := by
    have := row_new (w41) #[.bool zs41, .slice zp41 zn41 zc41, .bool false, .slice zq41 zm41 zd41] 41
    try simp only [World.size_alloc] at this
    exact this
  go_wp2_with fail
  generalize (w41.alloc (.cells #[.bool zs41, .slice zp41 zn41 zc41, .bool false, .slice zq41 zm41 zd41] 41)) = w41x at q00 q01 q02 r00 r01 r02 l4100 l4101 l4102 l4103 hR0 hL410 kS41 kT41 hBW cb41 ⊢
  clear cb41
  obtain rfl : zX41 = 0 := sg_eq_zero.1 (ge41.trans H0.out)
  refine (qOf_zero false zq41 zm41 zd41 zs41 zp41 zn41 zc41 _ ga41 (by omega) kS41).mono ?_
  rintro e w42 ⟨rfl, b42⟩
  replace hBW := hBW.trans (b42.mono hBW.size)
  replace q00 := below_cell b42 q00
  replace q01 := below_cell b42 q01
  replace q02 := below_cell b42 q02
  replace r00 := below_cell b42 r00
  replace r01 := below_cell b42 r01
  replace r02 := below_cell b42 r02
  replace l4100 := below_cell b42 l4100
  replace l4101 := below_cell b42 l4101
  replace l4102 := below_cell b42 l4102
  replace l4103 := below_cell b42 l4103
  replace hR0 := below_row b42 hR0
  replace hL410 := below_row b42 hL410
  replace kS41 := kS41.later b42
  replace kT41 := kT41.later b42
  have fz0 := fun o => hR0.frozen o
  go_wp2
  all_goals refine bodyPost_ret (v := .tuple #[.agg #[.bool false, .slice none 0 0, .slice none 0 0], .int .i64 11]) (by rw [results_ct rfl]; go_simp) rfl ?_
  all_goals exact ⟨rfl, ((bset (bset (bset (hB.trans (hBW.mono hB.size)) (by omega)) (by omega)) (by omega)))⟩

set_option maxHeartbeats 4000000 in
set_option maxRecDepth 100000 in
theorem qInv_is (s0 : Bool) (a0 : Option Addr) (n0 c0 X0 : Nat) (b0 : Option Addr) (m0 d0 Y0 : Nat) (Z : Int) (V : Nat) (w : World) (hc0 : n0 ≤ c0) (hm0 : n0 ≤ 35184372087808) (hS0 : Seg w a0 X0 n0) (hd0 : m0 ≤ d0) (hk0 : m0 ≤ 35184372087808) (hT0 : Seg w b0 Y0 m0) (hL : Low (rd Y0 : Nat) (rn s0 X0 Y0) Z V) :
    Calls Try.prog 19 #[Value.agg #[Value.bool s0, Value.slice a0 n0 c0, Value.slice b0 m0 d0]] w fun e w' => ∃ p q, e = .returned (.tuple #[.agg #[.bool (ng Z), .slice p (ln (am Z)) (ln (am Z)), .slice q (ln V) (ln V)], .int .i64 0]) ∧ New w w' p (am Z) (ln (am Z)) ∧ New w w' q V (ln V) := by
  have HL := hide' hL
  clear hL
  go_enter Try.func19, Try.ntmps19
  go_wp2_with fail
  obtain ⟨W, hW⟩ : ∃ W, ((w.alloc (.cells #[.bool s0, .slice a0 n0 c0, .slice b0 m0 d0] 27)).alloc (.cells #[.bool false, .slice none 0 0, .slice none 0 0] 27)) = W := ⟨_, rfl⟩
  have q00 : W.cell? ⟨w.heap.size, 0, none⟩ = some (.bool s0) := by subst hW; go_simp
  have q01 : W.cell? ⟨w.heap.size, 1, none⟩ = some (.slice a0 n0 c0) := by subst hW; go_simp
  have q02 : W.cell? ⟨w.heap.size, 2, none⟩ = some (.slice b0 m0 d0) := by subst hW; go_simp
  have r00 : W.cell? ⟨w.heap.size + 1, 0, none⟩ = some (.bool false) := by subst hW; go_simp
  have r01 : W.cell? ⟨w.heap.size + 1, 1, none⟩ = some (.slice none 0 0) := by subst hW; go_simp
  have r02 : W.cell? ⟨w.heap.size + 1, 2, none⟩ = some (.slice none 0 0) := by subst hW; go_simp
  have hB : Below w.heap.size w W := by subst hW; exact (((Below.refl _ _).alloc (by (try simp only [World.size_alloc]); omega) _).alloc (by (try simp only [World.size_alloc]); omega) _)
  have hR0 : Row W (w.heap.size + 1) := by
    have := row_new ((w.alloc (.cells #[.bool s0, .slice a0 n0 c0, .slice b0 m0 d0] 27))) #[.bool false, .slice none 0 0, .slice none 0 0] 27
    try simp only [World.size_alloc] at this
    subst hW; exact this
  have hz : W.heap.size = w.heap.size + 1 + 1 := by subst hW; simp only [World.size_alloc]
  rw [hW]
  clear hW
  have hBW : Below W.heap.size W W := Below.refl _ _
  go_wp2_with fail
  refine (read_is s0 a0 n0 c0 X0 b0 m0 d0 Y0 35184372087808 _ hc0 hm0 (sb hS0 hB hBW) hd0 hk0 (sb hT0 hB hBW) (by omega) (by omega)).mono ?_
  rintro e w41 ⟨zs41, zp41, zn41, zc41, zX41, zq41, zm41, zd41, rfl, ga41, gb41, gc41, gd41, kS41, kT41, ge41, bb41⟩
  have b41 := bb41
  replace hBW := hBW.trans (b41.mono hBW.size)
  replace q00 := below_cell b41 q00
  replace q01 := below_cell b41 q01
  replace q02 := below_cell b41 q02
  replace r00 := below_cell b41 r00
  replace r01 := below_cell b41 r01
  replace r02 := below_cell b41 r02
  replace hR0 := below_row b41 hR0
  have hsz41 := hBW.size
  have hlt41hR0 := hR0.lt
  have l4100 : ((w41.alloc (.cells #[.bool zs41, .slice zp41 zn41 zc41, .bool false, .slice zq41 zm41 zd41] 41))).cell? ⟨w41.heap.size, 0, none⟩ = some (.bool zs41) := by go_simp
  have l4101 : ((w41.alloc (.cells #[.bool zs41, .slice zp41 zn41 zc41, .bool false, .slice zq41 zm41 zd41] 41))).cell? ⟨w41.heap.size, 1, none⟩ = some (.slice zp41 zn41 zc41) := by go_simp
  have l4102 : ((w41.alloc (.cells #[.bool zs41, .slice zp41 zn41 zc41, .bool false, .slice zq41 zm41 zd41] 41))).cell? ⟨w41.heap.size, 2, none⟩ = some (.bool false) := by go_simp
  have l4103 : ((w41.alloc (.cells #[.bool zs41, .slice zp41 zn41 zc41, .bool false, .slice zq41 zm41 zd41] 41))).cell? ⟨w41.heap.size, 3, none⟩ = some (.slice zq41 zm41 zd41) := by go_simp
  have cb41 : Below w41.heap.size w41 ((w41.alloc (.cells #[.bool zs41, .slice zp41 zn41 zc41, .bool false, .slice zq41 zm41 zd41] 41))) := ((Below.refl _ _).alloc (by (try simp only [World.size_alloc]); omega) _)
  replace hBW := hBW.trans (cb41.mono hBW.size)
  replace q00 := below_cell cb41 q00
  replace q01 := below_cell cb41 q01
  replace q02 := below_cell cb41 q02
  replace r00 := below_cell cb41 r00
  replace r01 := below_cell cb41 r01
  replace r02 := below_cell cb41 r02
  replace hR0 := below_row cb41 hR0
  replace kS41 := kS41.later cb41
  replace kT41 := kT41.later cb41
  have hL410 : Row ((w41.alloc (.cells #[.bool zs41, .slice zp41 zn41 zc41, .bool false, .slice zq41 zm41 zd41] 41))) (w41.heap.size) := by
    have := row_new (w41) #[.bool zs41, .slice zp41 zn41 zc41, .bool false, .slice zq41 zm41 zd41] 41
    try simp only [World.size_alloc] at this
    exact this
  go_wp2_with fail
  generalize (w41.alloc (.cells #[.bool zs41, .slice zp41 zn41 zc41, .bool false, .slice zq41 zm41 zd41] 41)) = w41x at q00 q01 q02 r00 r01 r02 l4100 l4101 l4102 l4103 hR0 hL410 kS41 kT41 hBW cb41 ⊢
  clear cb41
  refine (qOf_is false zq41 zm41 zd41 (rd Y0) zs41 zp41 zn41 zc41 zX41 V Z _ gc41 (by omega) kT41 ga41 (by omega) kS41 (by rw [ge41]; exact HL.out)).mono ?_
  rintro e w42 ⟨p42, q42, rfl, hp42, hq42⟩
  have b42 := hp42.below
  replace hp42 := hp42.back hBW
  replace hq42 := hq42.back hBW
  replace hBW := hBW.trans (b42.mono hBW.size)
  replace q00 := below_cell b42 q00
  replace q01 := below_cell b42 q01
  replace q02 := below_cell b42 q02
  replace r00 := below_cell b42 r00
  replace r01 := below_cell b42 r01
  replace r02 := below_cell b42 r02
  replace l4100 := below_cell b42 l4100
  replace l4101 := below_cell b42 l4101
  replace l4102 := below_cell b42 l4102
  replace l4103 := below_cell b42 l4103
  replace hR0 := below_row b42 hR0
  replace hL410 := below_row b42 hL410
  replace kS41 := kS41.later b42
  replace kT41 := kT41.later b42
  have fz0 := fun o => hR0.frozen o
  go_wp2
  all_goals refine bodyPost_ret (v := .tuple #[Value.agg #[Value.bool (ng Z), Value.slice p42 (ln (am Z)) (ln (am Z)), Value.slice q42 (ln V) (ln V)], .int .i64 0]) (by rw [results_ct rfl]; go_simp) rfl ?_
  all_goals exact ⟨p42, q42, rfl, hp42.mid hB (((((Mid.refl _ _ _).set _ _ (by omega) (by omega) _).set _ _ (by omega) (by omega) _).set _ _ (by omega) (by omega) _)), hq42.mid hB (((((Mid.refl _ _ _).set _ _ (by omega) (by omega) _).set _ _ (by omega) (by omega) _).set _ _ (by omega) (by omega) _))⟩

set_option maxHeartbeats 4000000 in
set_option maxRecDepth 100000 in
theorem qDiv_zero (s0 : Bool) (a0 : Option Addr) (n0 c0 X0 : Nat) (b0 : Option Addr) (m0 d0 Y0 : Nat) (s1 : Bool) (a1 : Option Addr) (n1 c1 X1 : Nat) (b1 : Option Addr) (m1 d1 Y1 : Nat)  (w : World) (hc0 : n0 ≤ c0) (hm0 : n0 ≤ 35184372087808) (hS0 : Seg w a0 X0 n0) (hd0 : m0 ≤ d0) (hk0 : m0 ≤ 35184372087808) (hT0 : Seg w b0 Y0 m0) (hc1 : n1 ≤ c1) (hm1 : n1 ≤ 35184372087808) (hS1 : Seg w a1 X1 n1) (hd1 : m1 ≤ d1) (hk1 : m1 ≤ 35184372087808) (hT1 : Seg w b1 Y1 m1) (h0 : rn s1 X1 Y1 = 0) :
    Calls Try.prog 22 #[Value.agg #[Value.bool s0, Value.slice a0 n0 c0, Value.slice b0 m0 d0], Value.agg #[Value.bool s1, Value.slice a1 n1 c1, Value.slice b1 m1 d1]] w fun e w' => e = .returned (.tuple #[.agg #[.bool false, .slice none 0 0, .slice none 0 0], .int .i64 11]) ∧ Below w.heap.size w w' := by
  obtain ⟨P, hP⟩ : ∃ P, rn s0 X0 Y0 * ((rd Y1 : Nat) : Int) = P := ⟨_, rfl⟩
  obtain ⟨D, hD⟩ : ∃ D, ((rd Y0 : Nat) : Int) * rn s1 X1 Y1 = D := ⟨_, rfl⟩
  have lP : ln (am P) ≤ 70368744176012 := by rw [← hP, am_mul, am_nat]; have := ln_prod (Nat.lt_of_le_of_lt (rn_am s0 X0 Y0) hS0.1) (rd_lt hT1.1); omega
  have lD : ln (am D) ≤ 70368744176012 := by rw [← hD, am_mul, am_nat]; have := ln_prod (rd_lt hT0.1) (Nat.lt_of_le_of_lt (rn_am s1 X1 Y1) hS1.1); omega
  have hD0 : D = 0 := by rw [← hD, h0, Int.mul_zero]
  have e0 : am D = 0 := by rw [hD0]; rfl
  have H5' : ∀ w' p q, Seg w' q (am D) (ln (am D)) → Calls Try.prog 41 #[.agg #[.bool (ng P), .slice p (ln (am P)) (ln (am P))], .agg #[.bool (ng D), .slice q (ln (am D)) (ln (am D))]] w' fun e w'' => e = .returned (.tuple #[.agg #[.bool false, .slice none 0 0, .slice none 0 0], .int .i64 11]) ∧ Below w'.heap.size w' w'' := fun w' p q k2 => by rw [e0] at k2 ⊢; exact qOf_zero (ng P) p (ln (am P)) (ln (am P)) (ng D) q (ln 0) (ln 0) w' (Nat.le_refl _) (by rw [ln_zero]; omega) k2
  have H5 := hide' H5'
  clear H5' hD0 e0 h0
  have HP := hide' hP
  have HD := hide' hD
  clear hP hD
  have HR0 := hide' (fun w' k1 k2 => read_is s0 a0 n0 c0 X0 b0 m0 d0 Y0 35184372087808 w' hc0 hm0 k1 hd0 hk0 k2 (by omega) (by omega))
  have HR1 := hide' (fun w' k1 k2 => read_is s1 a1 n1 c1 X1 b1 m1 d1 Y1 35184372087808 w' hc1 hm1 k1 hd1 hk1 k2 (by omega) (by omega))
  go_enter Try.func22, Try.ntmps22
  go_upto_region 1 with fail
  obtain ⟨W, hW⟩ : ∃ W, (((w.alloc (.cells #[.bool s0, .slice a0 n0 c0, .slice b0 m0 d0] 27)).alloc (.cells #[.bool s1, .slice a1 n1 c1, .slice b1 m1 d1] 27)).alloc (.cells #[.bool false, .slice none 0 0, .slice none 0 0] 27)) = W := ⟨_, rfl⟩
  have q00 : W.cell? ⟨w.heap.size, 0, none⟩ = some (.bool s0) := by subst hW; go_simp
  have q01 : W.cell? ⟨w.heap.size, 1, none⟩ = some (.slice a0 n0 c0) := by subst hW; go_simp
  have q02 : W.cell? ⟨w.heap.size, 2, none⟩ = some (.slice b0 m0 d0) := by subst hW; go_simp
  have q10 : W.cell? ⟨w.heap.size + 1, 0, none⟩ = some (.bool s1) := by subst hW; go_simp
  have q11 : W.cell? ⟨w.heap.size + 1, 1, none⟩ = some (.slice a1 n1 c1) := by subst hW; go_simp
  have q12 : W.cell? ⟨w.heap.size + 1, 2, none⟩ = some (.slice b1 m1 d1) := by subst hW; go_simp
  have r00 : W.cell? ⟨w.heap.size + 1 + 1, 0, none⟩ = some (.bool false) := by subst hW; go_simp
  have r01 : W.cell? ⟨w.heap.size + 1 + 1, 1, none⟩ = some (.slice none 0 0) := by subst hW; go_simp
  have r02 : W.cell? ⟨w.heap.size + 1 + 1, 2, none⟩ = some (.slice none 0 0) := by subst hW; go_simp
  have hB : Below w.heap.size w W := by subst hW; exact ((((Below.refl _ _).alloc (by (try simp only [World.size_alloc]); omega) _).alloc (by (try simp only [World.size_alloc]); omega) _).alloc (by (try simp only [World.size_alloc]); omega) _)
  have hR0 : Row W (w.heap.size + 1 + 1) := by
    have := row_new (((w.alloc (.cells #[.bool s0, .slice a0 n0 c0, .slice b0 m0 d0] 27)).alloc (.cells #[.bool s1, .slice a1 n1 c1, .slice b1 m1 d1] 27))) #[.bool false, .slice none 0 0, .slice none 0 0] 27
    try simp only [World.size_alloc] at this
    subst hW; exact this
  have hz : W.heap.size = w.heap.size + 1 + 1 + 1 := by subst hW; simp only [World.size_alloc]
  rw [hW]
  clear hW
  have hBW : Below W.heap.size W W := Below.refl _ _
  have hz1 := Nat.le_of_eq hz
  have hz2 := Nat.le_of_eq hz.symm
  clear hz
  go_cut [6, 7] from 8 to 11 (fun s5 s6 wx => ∃ c d zs11 zp11 zn11 zc11 zX11 zq11 zm11 zd11 zs12 zp12 zn12 zc12 zX12 zq12 zm12 zd12, s5 = .pointer (some ⟨c, 0, none⟩) ∧ s6 = .pointer (some ⟨d, 0, none⟩) ∧ W.heap.size ≤ c ∧ W.heap.size ≤ d ∧ Below W.heap.size W wx ∧ wx.cell? ⟨c, 0, none⟩ = some (.bool zs11) ∧ wx.cell? ⟨c, 1, none⟩ = some (.slice zp11 zn11 zc11) ∧ wx.cell? ⟨c, 2, none⟩ = some (.bool false) ∧ wx.cell? ⟨c, 3, none⟩ = some (.slice zq11 zm11 zd11) ∧ wx.cell? ⟨d, 0, none⟩ = some (.bool zs12) ∧ wx.cell? ⟨d, 1, none⟩ = some (.slice zp12 zn12 zc12) ∧ wx.cell? ⟨d, 2, none⟩ = some (.bool false) ∧ wx.cell? ⟨d, 3, none⟩ = some (.slice zq12 zm12 zd12) ∧ zn11 ≤ zc11 ∧ zn11 ≤ 35184372087808 ∧ zm11 ≤ zd11 ∧ zm11 ≤ 35184372087808 ∧ Seg wx zp11 zX11 zn11 ∧ Seg wx zq11 (rd Y0) zm11 ∧ sg zs11 zX11 = rn s0 X0 Y0 ∧ zn12 ≤ zc12 ∧ zn12 ≤ 35184372087808 ∧ zm12 ≤ zd12 ∧ zm12 ≤ 35184372087808 ∧ Seg wx zp12 zX12 zn12 ∧ Seg wx zq12 (rd Y1) zm12 ∧ sg zs12 zX12 = rn s1 X1 Y1)
  case first =>
    have Qq00 := q00
    have Qq01 := q01
    have Qq02 := q02
    have Qq10 := q10
    have Qq11 := q11
    have Qq12 := q12
    clear q00 q01 q02 q10 q11 q12 r00 r01 r02 hR0
    replace hBW := hBW.drew
    refine wp_region_held_drew (S := (fun w' => w'.cell? ⟨w.heap.size, 0, none⟩ = some (.bool s0) ∧ w'.cell? ⟨w.heap.size, 1, none⟩ = some (.slice a0 n0 c0) ∧ w'.cell? ⟨w.heap.size, 2, none⟩ = some (.slice b0 m0 d0) ∧ w'.cell? ⟨w.heap.size + 1, 0, none⟩ = some (.bool s1) ∧ w'.cell? ⟨w.heap.size + 1, 1, none⟩ = some (.slice a1 n1 c1) ∧ w'.cell? ⟨w.heap.size + 1, 2, none⟩ = some (.slice b1 m1 d1) ∧ Below w.heap.size w w')) (by kernel_rfl) (kp6 (W := W) hBW ⟨Qq00, Qq01, Qq02, Qq10, Qq11, Qq12, hB⟩) (fun hHeld => ?_)
    generalize W.drew = w0 at hBW hHeld ⊢
    refine take' 0 (v := ?_) rfl (by kernel_rfl) (by kernel_rfl) (by kernel_rfl) (fun _ _ _ h => h) (Or.inl ⟨by rfl, ?_⟩) (by assumption) ?_
    rotate_left
    · intro w9 hSw
      go_simp
      first | done | with_reducible rfl
    simp only [Act.put, List.setIfInBounds_toArray, List.set_cons_zero, List.set_cons_succ]
    refine take' 2 (v := ?_) rfl (by kernel_rfl) (by kernel_rfl) (by kernel_rfl) (fun _ _ _ h => h) (Or.inl ⟨by rfl, ?_⟩) (by assumption) ?_
    rotate_left
    · intro w9 hSw
      go_simp
      first | done | with_reducible rfl
    simp only [Act.put, List.setIfInBounds_toArray, List.set_cons_zero, List.set_cons_succ]
    refine wpAnyH_ready (rs := [1, 4, 5]) (by kernel_rfl) (by simp) ?_
    refine consT rfl (fun K hK => ?_) ?_
    · skip
      go_simp
      refine Calls.mono (HR0.out _ (sb hS0 hB hBW) (sb hT0 hB hBW)) ?_
      rintro e w1 ⟨zs11, zp11, zn11, zc11, zX11, zq11, zm11, zd11, rfl, ga11, gb11, gc11, gd11, kS11, kT11, ge11, bb11⟩
      replace hBW := hBW.trans (bb11.mono hBW.size)
      clear bb11
      go_wp2_with fail
      refine hK.out _ _ (kp6 (W := W) hBW ⟨Qq00, Qq01, Qq02, Qq10, Qq11, Qq12, hB⟩) ?_
      clear hHeld
      intro hHeld
      clear hK K
      try simp only [Act.put, List.setIfInBounds_toArray, List.set_cons_zero, List.set_cons_succ]
      refine wpAnyH_ready (rs := [3, 4, 5]) (by kernel_rfl) (by simp) ?_
      refine consT rfl (fun K hK => ?_) ?_
      · skip
        go_simp
        refine Calls.mono (HR1.out _ (sb hS1 hB hBW) (sb hT1 hB hBW)) ?_
        rintro e w13 ⟨zs12, zp12, zn12, zc12, zX12, zq12, zm12, zd12, rfl, ga12, gb12, gc12, gd12, kS12, kT12, ge12, bb12⟩
        replace hBW := hBW.trans (bb12.mono hBW.size)
        replace kS11 := kS11.later bb12
        replace kT11 := kT11.later bb12
        clear bb12
        go_wp2_with fail
        refine hK.out _ _ (kp6 (W := W) hBW ⟨Qq00, Qq01, Qq02, Qq10, Qq11, Qq12, hB⟩) ?_
        clear hHeld
        intro hHeld
        clear hK K
        try simp only [Act.put, List.setIfInBounds_toArray, List.set_cons_zero, List.set_cons_succ]
        refine wpAnyH_ready (rs := [4, 5]) (by kernel_rfl) (by simp) ?_
        refine consT rfl (fun K hK => ?_) ?_
        · skip
          go_simp
          have bb := below_alloc (w := w13) (.cells #[.bool false, .slice none 0 0, .bool false, .slice none 0 0] 41)
          have lcge := hBW.size
          replace hBW := hBW.trans (bb.mono hBW.size)
          replace kS11 := kS11.later bb
          replace kT11 := kT11.later bb
          replace kS12 := kS12.later bb
          replace kT12 := kT12.later bb
          clear bb
          have lc0 : (w13.alloc (.cells #[.bool false, .slice none 0 0, .bool false, .slice none 0 0] 41)).cell? ⟨w13.heap.size, 0, none⟩ = some (.bool false) := by go_simp
          have lc1 : (w13.alloc (.cells #[.bool false, .slice none 0 0, .bool false, .slice none 0 0] 41)).cell? ⟨w13.heap.size, 1, none⟩ = some (.slice none 0 0) := by go_simp
          have lc2 : (w13.alloc (.cells #[.bool false, .slice none 0 0, .bool false, .slice none 0 0] 41)).cell? ⟨w13.heap.size, 2, none⟩ = some (.bool false) := by go_simp
          have lc3 : (w13.alloc (.cells #[.bool false, .slice none 0 0, .bool false, .slice none 0 0] 41)).cell? ⟨w13.heap.size, 3, none⟩ = some (.slice none 0 0) := by go_simp
          have lcR : Row (w13.alloc (.cells #[.bool false, .slice none 0 0, .bool false, .slice none 0 0] 41)) w13.heap.size := row_new w13 _ 41
          clear hHeld
          generalize (w13.alloc (.cells #[.bool false, .slice none 0 0, .bool false, .slice none 0 0] 41)) = w134 at hBW lc0 lc1 lc2 lc3 lcR kS11 kT11 kS12 kT12 ⊢
          generalize w13.heap.size = c at lcge lc0 lc1 lc2 lc3 lcR ⊢
          refine hK.out _ _ (kp6 (W := W) hBW ⟨Qq00, Qq01, Qq02, Qq10, Qq11, Qq12, hB⟩) ?_
          intro hHeld
          clear hK K
          try simp only [Act.put, List.setIfInBounds_toArray, List.set_cons_zero, List.set_cons_succ]
          refine wpAnyH_ready (rs := [5]) (by kernel_rfl) (by simp) ?_
          refine consT rfl (fun K hK => ?_) ?_
          · skip
            go_simp
            have bb := below_alloc (w := w134) (.cells #[.bool false, .slice none 0 0, .bool false, .slice none 0 0] 41)
            have ldge := hBW.size
            have lab := lcR.lt
            replace hBW := hBW.trans (bb.mono hBW.size)
            replace kS11 := kS11.later bb
            replace kT11 := kT11.later bb
            replace kS12 := kS12.later bb
            replace kT12 := kT12.later bb
            replace lc0 := below_cell bb lc0
            replace lc1 := below_cell bb lc1
            replace lc2 := below_cell bb lc2
            replace lc3 := below_cell bb lc3
            replace lcR := below_row bb lcR
            clear bb
            have ld0 : (w134.alloc (.cells #[.bool false, .slice none 0 0, .bool false, .slice none 0 0] 41)).cell? ⟨w134.heap.size, 0, none⟩ = some (.bool false) := by go_simp
            have ld1 : (w134.alloc (.cells #[.bool false, .slice none 0 0, .bool false, .slice none 0 0] 41)).cell? ⟨w134.heap.size, 1, none⟩ = some (.slice none 0 0) := by go_simp
            have ld2 : (w134.alloc (.cells #[.bool false, .slice none 0 0, .bool false, .slice none 0 0] 41)).cell? ⟨w134.heap.size, 2, none⟩ = some (.bool false) := by go_simp
            have ld3 : (w134.alloc (.cells #[.bool false, .slice none 0 0, .bool false, .slice none 0 0] 41)).cell? ⟨w134.heap.size, 3, none⟩ = some (.slice none 0 0) := by go_simp
            have ldR : Row (w134.alloc (.cells #[.bool false, .slice none 0 0, .bool false, .slice none 0 0] 41)) w134.heap.size := row_new w134 _ 41
            clear hHeld
            generalize (w134.alloc (.cells #[.bool false, .slice none 0 0, .bool false, .slice none 0 0] 41)) = w1345 at hBW ld0 ld1 ld2 ld3 ldR lc0 lc1 lc2 lc3 lcR kS11 kT11 kS12 kT12 ⊢
            generalize w134.heap.size = d at ldge ld0 ld1 ld2 ld3 ldR lab ⊢
            refine hK.out _ _ (kp6 (W := W) hBW ⟨Qq00, Qq01, Qq02, Qq10, Qq11, Qq12, hB⟩) ?_
            intro hHeld
            clear hK K
            try simp only [Act.put, List.setIfInBounds_toArray, List.set_cons_zero, List.set_cons_succ]
            have lcd : c ≠ d := by omega
            clear lab
            refine wpAnyH_ready (rs := [6]) (by kernel_rfl) (by simp) ?_
            refine cons' rfl (fun K hK => ?_)
            have lf := fun o => lcR.frozen o
            have X := stored4 (u0 := .bool zs11) (u1 := .slice zp11 zn11 zc11) (u2 := .bool false) (u3 := .slice zq11 zm11 zd11) lc0 lc1 lc2 lc3 ld0 ld1 ld2 ld3 ldR hBW lcge lcd kS11 kT11 kS12 kT12
            go_simp
            clear lc0 lc1 lc2 lc3 ld0 ld1 ld2 ld3 lf lcR ldR hHeld hBW kS11 kT11 kS12 kT12
            generalize ((((w1345.setCell ⟨c, 0, none⟩ (.bool zs11)).setCell ⟨c, 1, none⟩ (.slice zp11 zn11 zc11)).setCell ⟨c, 2, none⟩ (.bool false)).setCell ⟨c, 3, none⟩ (.slice zq11 zm11 zd11)) = wl1 at X ⊢
            obtain ⟨lc0, lc1, lc2, lc3, ld0, ld1, ld2, ld3, ldR, hBW, kS11, kT11, kS12, kT12⟩ := X
            have lcR := ldR
            refine hK.out _ _ (kp6 (W := W) hBW ⟨Qq00, Qq01, Qq02, Qq10, Qq11, Qq12, hB⟩) ?_
            intro hHeld
            clear hK K
            try simp only [Act.put, List.setIfInBounds_toArray, List.set_cons_zero, List.set_cons_succ]
            refine wpAnyH_ready (rs := [7]) (by kernel_rfl) (by simp) ?_
            refine cons' rfl (fun K hK => ?_)
            have lf := fun o => ldR.frozen o
            have X := stored4 (u0 := .bool zs12) (u1 := .slice zp12 zn12 zc12) (u2 := .bool false) (u3 := .slice zq12 zm12 zd12) ld0 ld1 ld2 ld3 lc0 lc1 lc2 lc3 lcR hBW ldge lcd.symm kS11 kT11 kS12 kT12
            go_simp
            clear ld0 ld1 ld2 ld3 lc0 lc1 lc2 lc3 lf ldR lcR hHeld hBW kS11 kT11 kS12 kT12
            generalize ((((wl1.setCell ⟨d, 0, none⟩ (.bool zs12)).setCell ⟨d, 1, none⟩ (.slice zp12 zn12 zc12)).setCell ⟨d, 2, none⟩ (.bool false)).setCell ⟨d, 3, none⟩ (.slice zq12 zm12 zd12)) = wl2 at X ⊢
            obtain ⟨ld0, ld1, ld2, ld3, lc0, lc1, lc2, lc3, lcR, hBW, kS11, kT11, kS12, kT12⟩ := X
            have ldR := lcR
            refine hK.out _ _ (kp6 (W := W) hBW ⟨Qq00, Qq01, Qq02, Qq10, Qq11, Qq12, hB⟩) ?_
            intro hHeld
            clear hK K
            try simp only [Act.put, List.setIfInBounds_toArray, List.set_cons_zero, List.set_cons_succ]
            refine wpAnyH_done (by kernel_rfl) ?_ _
            go_wp2_with fail
            go_meet
            exact ⟨c, d, zs11, zp11, zn11, zc11, zX11, zq11, zm11, zd11, zs12, zp12, zn12, zc12, zX12, zq12, zm12, zd12, rfl, rfl, lcge, ldge, hBW, lc0, lc1, lc2, lc3, ld0, ld1, ld2, ld3, ga11, gb11, gc11, gd11, kS11, kT11, ge11, ga12, gb12, gc12, gd12, kS12, kT12, ge12⟩
          exact AllReadyH.nil
        refine consT rfl (fun K hK => ?_) ?_
        · skip
          go_simp
          have bb := below_alloc (w := w13) (.cells #[.bool false, .slice none 0 0, .bool false, .slice none 0 0] 41)
          have ldge := hBW.size
          replace hBW := hBW.trans (bb.mono hBW.size)
          replace kS11 := kS11.later bb
          replace kT11 := kT11.later bb
          replace kS12 := kS12.later bb
          replace kT12 := kT12.later bb
          clear bb
          have ld0 : (w13.alloc (.cells #[.bool false, .slice none 0 0, .bool false, .slice none 0 0] 41)).cell? ⟨w13.heap.size, 0, none⟩ = some (.bool false) := by go_simp
          have ld1 : (w13.alloc (.cells #[.bool false, .slice none 0 0, .bool false, .slice none 0 0] 41)).cell? ⟨w13.heap.size, 1, none⟩ = some (.slice none 0 0) := by go_simp
          have ld2 : (w13.alloc (.cells #[.bool false, .slice none 0 0, .bool false, .slice none 0 0] 41)).cell? ⟨w13.heap.size, 2, none⟩ = some (.bool false) := by go_simp
          have ld3 : (w13.alloc (.cells #[.bool false, .slice none 0 0, .bool false, .slice none 0 0] 41)).cell? ⟨w13.heap.size, 3, none⟩ = some (.slice none 0 0) := by go_simp
          have ldR : Row (w13.alloc (.cells #[.bool false, .slice none 0 0, .bool false, .slice none 0 0] 41)) w13.heap.size := row_new w13 _ 41
          clear hHeld
          generalize (w13.alloc (.cells #[.bool false, .slice none 0 0, .bool false, .slice none 0 0] 41)) = w135 at hBW ld0 ld1 ld2 ld3 ldR kS11 kT11 kS12 kT12 ⊢
          generalize w13.heap.size = d at ldge ld0 ld1 ld2 ld3 ldR ⊢
          refine hK.out _ _ (kp6 (W := W) hBW ⟨Qq00, Qq01, Qq02, Qq10, Qq11, Qq12, hB⟩) ?_
          intro hHeld
          clear hK K
          try simp only [Act.put, List.setIfInBounds_toArray, List.set_cons_zero, List.set_cons_succ]
          refine wpAnyH_ready (rs := [4]) (by kernel_rfl) (by simp) ?_
          refine consT rfl (fun K hK => ?_) ?_
          · skip
            go_simp
            have bb := below_alloc (w := w135) (.cells #[.bool false, .slice none 0 0, .bool false, .slice none 0 0] 41)
            have lcge := hBW.size
            have lab := ldR.lt
            replace hBW := hBW.trans (bb.mono hBW.size)
            replace kS11 := kS11.later bb
            replace kT11 := kT11.later bb
            replace kS12 := kS12.later bb
            replace kT12 := kT12.later bb
            replace ld0 := below_cell bb ld0
            replace ld1 := below_cell bb ld1
            replace ld2 := below_cell bb ld2
            replace ld3 := below_cell bb ld3
            replace ldR := below_row bb ldR
            clear bb
            have lc0 : (w135.alloc (.cells #[.bool false, .slice none 0 0, .bool false, .slice none 0 0] 41)).cell? ⟨w135.heap.size, 0, none⟩ = some (.bool false) := by go_simp
            have lc1 : (w135.alloc (.cells #[.bool false, .slice none 0 0, .bool false, .slice none 0 0] 41)).cell? ⟨w135.heap.size, 1, none⟩ = some (.slice none 0 0) := by go_simp
            have lc2 : (w135.alloc (.cells #[.bool false, .slice none 0 0, .bool false, .slice none 0 0] 41)).cell? ⟨w135.heap.size, 2, none⟩ = some (.bool false) := by go_simp
            have lc3 : (w135.alloc (.cells #[.bool false, .slice none 0 0, .bool false, .slice none 0 0] 41)).cell? ⟨w135.heap.size, 3, none⟩ = some (.slice none 0 0) := by go_simp
            have lcR : Row (w135.alloc (.cells #[.bool false, .slice none 0 0, .bool false, .slice none 0 0] 41)) w135.heap.size := row_new w135 _ 41
            clear hHeld
            generalize (w135.alloc (.cells #[.bool false, .slice none 0 0, .bool false, .slice none 0 0] 41)) = w1354 at hBW lc0 lc1 lc2 lc3 lcR ld0 ld1 ld2 ld3 ldR kS11 kT11 kS12 kT12 ⊢
            generalize w135.heap.size = c at lcge lc0 lc1 lc2 lc3 lcR lab ⊢
            refine hK.out _ _ (kp6 (W := W) hBW ⟨Qq00, Qq01, Qq02, Qq10, Qq11, Qq12, hB⟩) ?_
            intro hHeld
            clear hK K
            try simp only [Act.put, List.setIfInBounds_toArray, List.set_cons_zero, List.set_cons_succ]
            have lcd : c ≠ d := by omega
            clear lab
            refine wpAnyH_ready (rs := [6]) (by kernel_rfl) (by simp) ?_
            refine cons' rfl (fun K hK => ?_)
            have lf := fun o => lcR.frozen o
            have X := stored4 (u0 := .bool zs11) (u1 := .slice zp11 zn11 zc11) (u2 := .bool false) (u3 := .slice zq11 zm11 zd11) lc0 lc1 lc2 lc3 ld0 ld1 ld2 ld3 ldR hBW lcge lcd kS11 kT11 kS12 kT12
            go_simp
            clear lc0 lc1 lc2 lc3 ld0 ld1 ld2 ld3 lf lcR ldR hHeld hBW kS11 kT11 kS12 kT12
            generalize ((((w1354.setCell ⟨c, 0, none⟩ (.bool zs11)).setCell ⟨c, 1, none⟩ (.slice zp11 zn11 zc11)).setCell ⟨c, 2, none⟩ (.bool false)).setCell ⟨c, 3, none⟩ (.slice zq11 zm11 zd11)) = wl1 at X ⊢
            obtain ⟨lc0, lc1, lc2, lc3, ld0, ld1, ld2, ld3, ldR, hBW, kS11, kT11, kS12, kT12⟩ := X
            have lcR := ldR
            refine hK.out _ _ (kp6 (W := W) hBW ⟨Qq00, Qq01, Qq02, Qq10, Qq11, Qq12, hB⟩) ?_
            intro hHeld
            clear hK K
            try simp only [Act.put, List.setIfInBounds_toArray, List.set_cons_zero, List.set_cons_succ]
            refine wpAnyH_ready (rs := [7]) (by kernel_rfl) (by simp) ?_
            refine cons' rfl (fun K hK => ?_)
            have lf := fun o => ldR.frozen o
            have X := stored4 (u0 := .bool zs12) (u1 := .slice zp12 zn12 zc12) (u2 := .bool false) (u3 := .slice zq12 zm12 zd12) ld0 ld1 ld2 ld3 lc0 lc1 lc2 lc3 lcR hBW ldge lcd.symm kS11 kT11 kS12 kT12
            go_simp
            clear ld0 ld1 ld2 ld3 lc0 lc1 lc2 lc3 lf ldR lcR hHeld hBW kS11 kT11 kS12 kT12
            generalize ((((wl1.setCell ⟨d, 0, none⟩ (.bool zs12)).setCell ⟨d, 1, none⟩ (.slice zp12 zn12 zc12)).setCell ⟨d, 2, none⟩ (.bool false)).setCell ⟨d, 3, none⟩ (.slice zq12 zm12 zd12)) = wl2 at X ⊢
            obtain ⟨ld0, ld1, ld2, ld3, lc0, lc1, lc2, lc3, lcR, hBW, kS11, kT11, kS12, kT12⟩ := X
            have ldR := lcR
            refine hK.out _ _ (kp6 (W := W) hBW ⟨Qq00, Qq01, Qq02, Qq10, Qq11, Qq12, hB⟩) ?_
            intro hHeld
            clear hK K
            try simp only [Act.put, List.setIfInBounds_toArray, List.set_cons_zero, List.set_cons_succ]
            refine wpAnyH_done (by kernel_rfl) ?_ _
            go_wp2_with fail
            go_meet
            exact ⟨c, d, zs11, zp11, zn11, zc11, zX11, zq11, zm11, zd11, zs12, zp12, zn12, zc12, zX12, zq12, zm12, zd12, rfl, rfl, lcge, ldge, hBW, lc0, lc1, lc2, lc3, ld0, ld1, ld2, ld3, ga11, gb11, gc11, gd11, kS11, kT11, ge11, ga12, gb12, gc12, gd12, kS12, kT12, ge12⟩
          exact AllReadyH.nil
        exact AllReadyH.nil
      refine consT rfl (fun K hK => ?_) ?_
      · skip
        go_simp
        have bb := below_alloc (w := w1) (.cells #[.bool false, .slice none 0 0, .bool false, .slice none 0 0] 41)
        have lcge := hBW.size
        replace hBW := hBW.trans (bb.mono hBW.size)
        replace kS11 := kS11.later bb
        replace kT11 := kT11.later bb
        clear bb
        have lc0 : (w1.alloc (.cells #[.bool false, .slice none 0 0, .bool false, .slice none 0 0] 41)).cell? ⟨w1.heap.size, 0, none⟩ = some (.bool false) := by go_simp
        have lc1 : (w1.alloc (.cells #[.bool false, .slice none 0 0, .bool false, .slice none 0 0] 41)).cell? ⟨w1.heap.size, 1, none⟩ = some (.slice none 0 0) := by go_simp
        have lc2 : (w1.alloc (.cells #[.bool false, .slice none 0 0, .bool false, .slice none 0 0] 41)).cell? ⟨w1.heap.size, 2, none⟩ = some (.bool false) := by go_simp
        have lc3 : (w1.alloc (.cells #[.bool false, .slice none 0 0, .bool false, .slice none 0 0] 41)).cell? ⟨w1.heap.size, 3, none⟩ = some (.slice none 0 0) := by go_simp
        have lcR : Row (w1.alloc (.cells #[.bool false, .slice none 0 0, .bool false, .slice none 0 0] 41)) w1.heap.size := row_new w1 _ 41
        clear hHeld
        generalize (w1.alloc (.cells #[.bool false, .slice none 0 0, .bool false, .slice none 0 0] 41)) = w14 at hBW lc0 lc1 lc2 lc3 lcR kS11 kT11 ⊢
        generalize w1.heap.size = c at lcge lc0 lc1 lc2 lc3 lcR ⊢
        refine hK.out _ _ (kp6 (W := W) hBW ⟨Qq00, Qq01, Qq02, Qq10, Qq11, Qq12, hB⟩) ?_
        intro hHeld
        clear hK K
        try simp only [Act.put, List.setIfInBounds_toArray, List.set_cons_zero, List.set_cons_succ]
        refine wpAnyH_ready (rs := [3, 5]) (by kernel_rfl) (by simp) ?_
        refine consT rfl (fun K hK => ?_) ?_
        · skip
          go_simp
          refine Calls.mono (HR1.out _ (sb hS1 hB hBW) (sb hT1 hB hBW)) ?_
          rintro e w143 ⟨zs12, zp12, zn12, zc12, zX12, zq12, zm12, zd12, rfl, ga12, gb12, gc12, gd12, kS12, kT12, ge12, bb12⟩
          replace hBW := hBW.trans (bb12.mono hBW.size)
          replace kS11 := kS11.later bb12
          replace kT11 := kT11.later bb12
          replace lc0 := below_cell bb12 lc0
          replace lc1 := below_cell bb12 lc1
          replace lc2 := below_cell bb12 lc2
          replace lc3 := below_cell bb12 lc3
          replace lcR := below_row bb12 lcR
          clear bb12
          go_wp2_with fail
          refine hK.out _ _ (kp6 (W := W) hBW ⟨Qq00, Qq01, Qq02, Qq10, Qq11, Qq12, hB⟩) ?_
          clear hHeld
          intro hHeld
          clear hK K
          try simp only [Act.put, List.setIfInBounds_toArray, List.set_cons_zero, List.set_cons_succ]
          refine wpAnyH_ready (rs := [5]) (by kernel_rfl) (by simp) ?_
          refine consT rfl (fun K hK => ?_) ?_
          · skip
            go_simp
            have bb := below_alloc (w := w143) (.cells #[.bool false, .slice none 0 0, .bool false, .slice none 0 0] 41)
            have ldge := hBW.size
            have lab := lcR.lt
            replace hBW := hBW.trans (bb.mono hBW.size)
            replace kS11 := kS11.later bb
            replace kT11 := kT11.later bb
            replace kS12 := kS12.later bb
            replace kT12 := kT12.later bb
            replace lc0 := below_cell bb lc0
            replace lc1 := below_cell bb lc1
            replace lc2 := below_cell bb lc2
            replace lc3 := below_cell bb lc3
            replace lcR := below_row bb lcR
            clear bb
            have ld0 : (w143.alloc (.cells #[.bool false, .slice none 0 0, .bool false, .slice none 0 0] 41)).cell? ⟨w143.heap.size, 0, none⟩ = some (.bool false) := by go_simp
            have ld1 : (w143.alloc (.cells #[.bool false, .slice none 0 0, .bool false, .slice none 0 0] 41)).cell? ⟨w143.heap.size, 1, none⟩ = some (.slice none 0 0) := by go_simp
            have ld2 : (w143.alloc (.cells #[.bool false, .slice none 0 0, .bool false, .slice none 0 0] 41)).cell? ⟨w143.heap.size, 2, none⟩ = some (.bool false) := by go_simp
            have ld3 : (w143.alloc (.cells #[.bool false, .slice none 0 0, .bool false, .slice none 0 0] 41)).cell? ⟨w143.heap.size, 3, none⟩ = some (.slice none 0 0) := by go_simp
            have ldR : Row (w143.alloc (.cells #[.bool false, .slice none 0 0, .bool false, .slice none 0 0] 41)) w143.heap.size := row_new w143 _ 41
            clear hHeld
            generalize (w143.alloc (.cells #[.bool false, .slice none 0 0, .bool false, .slice none 0 0] 41)) = w1435 at hBW ld0 ld1 ld2 ld3 ldR lc0 lc1 lc2 lc3 lcR kS11 kT11 kS12 kT12 ⊢
            generalize w143.heap.size = d at ldge ld0 ld1 ld2 ld3 ldR lab ⊢
            refine hK.out _ _ (kp6 (W := W) hBW ⟨Qq00, Qq01, Qq02, Qq10, Qq11, Qq12, hB⟩) ?_
            intro hHeld
            clear hK K
            try simp only [Act.put, List.setIfInBounds_toArray, List.set_cons_zero, List.set_cons_succ]
            have lcd : c ≠ d := by omega
            clear lab
            refine wpAnyH_ready (rs := [6]) (by kernel_rfl) (by simp) ?_
            refine cons' rfl (fun K hK => ?_)
            have lf := fun o => lcR.frozen o
            have X := stored4 (u0 := .bool zs11) (u1 := .slice zp11 zn11 zc11) (u2 := .bool false) (u3 := .slice zq11 zm11 zd11) lc0 lc1 lc2 lc3 ld0 ld1 ld2 ld3 ldR hBW lcge lcd kS11 kT11 kS12 kT12
            go_simp
            clear lc0 lc1 lc2 lc3 ld0 ld1 ld2 ld3 lf lcR ldR hHeld hBW kS11 kT11 kS12 kT12
            generalize ((((w1435.setCell ⟨c, 0, none⟩ (.bool zs11)).setCell ⟨c, 1, none⟩ (.slice zp11 zn11 zc11)).setCell ⟨c, 2, none⟩ (.bool false)).setCell ⟨c, 3, none⟩ (.slice zq11 zm11 zd11)) = wl1 at X ⊢
            obtain ⟨lc0, lc1, lc2, lc3, ld0, ld1, ld2, ld3, ldR, hBW, kS11, kT11, kS12, kT12⟩ := X
            have lcR := ldR
            refine hK.out _ _ (kp6 (W := W) hBW ⟨Qq00, Qq01, Qq02, Qq10, Qq11, Qq12, hB⟩) ?_
            intro hHeld
            clear hK K
            try simp only [Act.put, List.setIfInBounds_toArray, List.set_cons_zero, List.set_cons_succ]
            refine wpAnyH_ready (rs := [7]) (by kernel_rfl) (by simp) ?_
            refine cons' rfl (fun K hK => ?_)
            have lf := fun o => ldR.frozen o
            have X := stored4 (u0 := .bool zs12) (u1 := .slice zp12 zn12 zc12) (u2 := .bool false) (u3 := .slice zq12 zm12 zd12) ld0 ld1 ld2 ld3 lc0 lc1 lc2 lc3 lcR hBW ldge lcd.symm kS11 kT11 kS12 kT12
            go_simp
            clear ld0 ld1 ld2 ld3 lc0 lc1 lc2 lc3 lf ldR lcR hHeld hBW kS11 kT11 kS12 kT12
            generalize ((((wl1.setCell ⟨d, 0, none⟩ (.bool zs12)).setCell ⟨d, 1, none⟩ (.slice zp12 zn12 zc12)).setCell ⟨d, 2, none⟩ (.bool false)).setCell ⟨d, 3, none⟩ (.slice zq12 zm12 zd12)) = wl2 at X ⊢
            obtain ⟨ld0, ld1, ld2, ld3, lc0, lc1, lc2, lc3, lcR, hBW, kS11, kT11, kS12, kT12⟩ := X
            have ldR := lcR
            refine hK.out _ _ (kp6 (W := W) hBW ⟨Qq00, Qq01, Qq02, Qq10, Qq11, Qq12, hB⟩) ?_
            intro hHeld
            clear hK K
            try simp only [Act.put, List.setIfInBounds_toArray, List.set_cons_zero, List.set_cons_succ]
            refine wpAnyH_done (by kernel_rfl) ?_ _
            go_wp2_with fail
            go_meet
            exact ⟨c, d, zs11, zp11, zn11, zc11, zX11, zq11, zm11, zd11, zs12, zp12, zn12, zc12, zX12, zq12, zm12, zd12, rfl, rfl, lcge, ldge, hBW, lc0, lc1, lc2, lc3, ld0, ld1, ld2, ld3, ga11, gb11, gc11, gd11, kS11, kT11, ge11, ga12, gb12, gc12, gd12, kS12, kT12, ge12⟩
          exact AllReadyH.nil
        refine consT rfl (fun K hK => ?_) ?_
        · skip
          go_simp
          have bb := below_alloc (w := w14) (.cells #[.bool false, .slice none 0 0, .bool false, .slice none 0 0] 41)
          have ldge := hBW.size
          have lab := lcR.lt
          replace hBW := hBW.trans (bb.mono hBW.size)
          replace kS11 := kS11.later bb
          replace kT11 := kT11.later bb
          replace lc0 := below_cell bb lc0
          replace lc1 := below_cell bb lc1
          replace lc2 := below_cell bb lc2
          replace lc3 := below_cell bb lc3
          replace lcR := below_row bb lcR
          clear bb
          have ld0 : (w14.alloc (.cells #[.bool false, .slice none 0 0, .bool false, .slice none 0 0] 41)).cell? ⟨w14.heap.size, 0, none⟩ = some (.bool false) := by go_simp
          have ld1 : (w14.alloc (.cells #[.bool false, .slice none 0 0, .bool false, .slice none 0 0] 41)).cell? ⟨w14.heap.size, 1, none⟩ = some (.slice none 0 0) := by go_simp
          have ld2 : (w14.alloc (.cells #[.bool false, .slice none 0 0, .bool false, .slice none 0 0] 41)).cell? ⟨w14.heap.size, 2, none⟩ = some (.bool false) := by go_simp
          have ld3 : (w14.alloc (.cells #[.bool false, .slice none 0 0, .bool false, .slice none 0 0] 41)).cell? ⟨w14.heap.size, 3, none⟩ = some (.slice none 0 0) := by go_simp
          have ldR : Row (w14.alloc (.cells #[.bool false, .slice none 0 0, .bool false, .slice none 0 0] 41)) w14.heap.size := row_new w14 _ 41
          clear hHeld
          generalize (w14.alloc (.cells #[.bool false, .slice none 0 0, .bool false, .slice none 0 0] 41)) = w145 at hBW ld0 ld1 ld2 ld3 ldR lc0 lc1 lc2 lc3 lcR kS11 kT11 ⊢
          generalize w14.heap.size = d at ldge ld0 ld1 ld2 ld3 ldR lab ⊢
          refine hK.out _ _ (kp6 (W := W) hBW ⟨Qq00, Qq01, Qq02, Qq10, Qq11, Qq12, hB⟩) ?_
          intro hHeld
          clear hK K
          try simp only [Act.put, List.setIfInBounds_toArray, List.set_cons_zero, List.set_cons_succ]
          refine wpAnyH_ready (rs := [3]) (by kernel_rfl) (by simp) ?_
          refine consT rfl (fun K hK => ?_) ?_
          · skip
            go_simp
            refine Calls.mono (HR1.out _ (sb hS1 hB hBW) (sb hT1 hB hBW)) ?_
            rintro e w1453 ⟨zs12, zp12, zn12, zc12, zX12, zq12, zm12, zd12, rfl, ga12, gb12, gc12, gd12, kS12, kT12, ge12, bb12⟩
            replace hBW := hBW.trans (bb12.mono hBW.size)
            replace kS11 := kS11.later bb12
            replace kT11 := kT11.later bb12
            replace lc0 := below_cell bb12 lc0
            replace lc1 := below_cell bb12 lc1
            replace lc2 := below_cell bb12 lc2
            replace lc3 := below_cell bb12 lc3
            replace lcR := below_row bb12 lcR
            replace ld0 := below_cell bb12 ld0
            replace ld1 := below_cell bb12 ld1
            replace ld2 := below_cell bb12 ld2
            replace ld3 := below_cell bb12 ld3
            replace ldR := below_row bb12 ldR
            clear bb12
            go_wp2_with fail
            refine hK.out _ _ (kp6 (W := W) hBW ⟨Qq00, Qq01, Qq02, Qq10, Qq11, Qq12, hB⟩) ?_
            clear hHeld
            intro hHeld
            clear hK K
            try simp only [Act.put, List.setIfInBounds_toArray, List.set_cons_zero, List.set_cons_succ]
            have lcd : c ≠ d := by omega
            clear lab
            refine wpAnyH_ready (rs := [6]) (by kernel_rfl) (by simp) ?_
            refine cons' rfl (fun K hK => ?_)
            have lf := fun o => lcR.frozen o
            have X := stored4 (u0 := .bool zs11) (u1 := .slice zp11 zn11 zc11) (u2 := .bool false) (u3 := .slice zq11 zm11 zd11) lc0 lc1 lc2 lc3 ld0 ld1 ld2 ld3 ldR hBW lcge lcd kS11 kT11 kS12 kT12
            go_simp
            clear lc0 lc1 lc2 lc3 ld0 ld1 ld2 ld3 lf lcR ldR hHeld hBW kS11 kT11 kS12 kT12
            generalize ((((w1453.setCell ⟨c, 0, none⟩ (.bool zs11)).setCell ⟨c, 1, none⟩ (.slice zp11 zn11 zc11)).setCell ⟨c, 2, none⟩ (.bool false)).setCell ⟨c, 3, none⟩ (.slice zq11 zm11 zd11)) = wl1 at X ⊢
            obtain ⟨lc0, lc1, lc2, lc3, ld0, ld1, ld2, ld3, ldR, hBW, kS11, kT11, kS12, kT12⟩ := X
            have lcR := ldR
            refine hK.out _ _ (kp6 (W := W) hBW ⟨Qq00, Qq01, Qq02, Qq10, Qq11, Qq12, hB⟩) ?_
            intro hHeld
            clear hK K
            try simp only [Act.put, List.setIfInBounds_toArray, List.set_cons_zero, List.set_cons_succ]
            refine wpAnyH_ready (rs := [7]) (by kernel_rfl) (by simp) ?_
            refine cons' rfl (fun K hK => ?_)
            have lf := fun o => ldR.frozen o
            have X := stored4 (u0 := .bool zs12) (u1 := .slice zp12 zn12 zc12) (u2 := .bool false) (u3 := .slice zq12 zm12 zd12) ld0 ld1 ld2 ld3 lc0 lc1 lc2 lc3 lcR hBW ldge lcd.symm kS11 kT11 kS12 kT12
            go_simp
            clear ld0 ld1 ld2 ld3 lc0 lc1 lc2 lc3 lf ldR lcR hHeld hBW kS11 kT11 kS12 kT12
            generalize ((((wl1.setCell ⟨d, 0, none⟩ (.bool zs12)).setCell ⟨d, 1, none⟩ (.slice zp12 zn12 zc12)).setCell ⟨d, 2, none⟩ (.bool false)).setCell ⟨d, 3, none⟩ (.slice zq12 zm12 zd12)) = wl2 at X ⊢
            obtain ⟨ld0, ld1, ld2, ld3, lc0, lc1, lc2, lc3, lcR, hBW, kS11, kT11, kS12, kT12⟩ := X
            have ldR := lcR
            refine hK.out _ _ (kp6 (W := W) hBW ⟨Qq00, Qq01, Qq02, Qq10, Qq11, Qq12, hB⟩) ?_
            intro hHeld
            clear hK K
            try simp only [Act.put, List.setIfInBounds_toArray, List.set_cons_zero, List.set_cons_succ]
            refine wpAnyH_done (by kernel_rfl) ?_ _
            go_wp2_with fail
            go_meet
            exact ⟨c, d, zs11, zp11, zn11, zc11, zX11, zq11, zm11, zd11, zs12, zp12, zn12, zc12, zX12, zq12, zm12, zd12, rfl, rfl, lcge, ldge, hBW, lc0, lc1, lc2, lc3, ld0, ld1, ld2, ld3, ga11, gb11, gc11, gd11, kS11, kT11, ge11, ga12, gb12, gc12, gd12, kS12, kT12, ge12⟩
          exact AllReadyH.nil
        exact AllReadyH.nil
      refine consT rfl (fun K hK => ?_) ?_
      · skip
        go_simp
        have bb := below_alloc (w := w1) (.cells #[.bool false, .slice none 0 0, .bool false, .slice none 0 0] 41)
        have ldge := hBW.size
        replace hBW := hBW.trans (bb.mono hBW.size)
        replace kS11 := kS11.later bb
        replace kT11 := kT11.later bb
        clear bb
        have ld0 : (w1.alloc (.cells #[.bool false, .slice none 0 0, .bool false, .slice none 0 0] 41)).cell? ⟨w1.heap.size, 0, none⟩ = some (.bool false) := by go_simp
        have ld1 : (w1.alloc (.cells #[.bool false, .slice none 0 0, .bool false, .slice none 0 0] 41)).cell? ⟨w1.heap.size, 1, none⟩ = some (.slice none 0 0) := by go_simp
        have ld2 : (w1.alloc (.cells #[.bool false, .slice none 0 0, .bool false, .slice none 0 0] 41)).cell? ⟨w1.heap.size, 2, none⟩ = some (.bool false) := by go_simp
        have ld3 : (w1.alloc (.cells #[.bool false, .slice none 0 0, .bool false, .slice none 0 0] 41)).cell? ⟨w1.heap.size, 3, none⟩ = some (.slice none 0 0) := by go_simp
        have ldR : Row (w1.alloc (.cells #[.bool false, .slice none 0 0, .bool false, .slice none 0 0] 41)) w1.heap.size := row_new w1 _ 41
        clear hHeld
        generalize (w1.alloc (.cells #[.bool false, .slice none 0 0, .bool false, .slice none 0 0] 41)) = w15 at hBW ld0 ld1 ld2 ld3 ldR kS11 kT11 ⊢
        generalize w1.heap.size = d at ldge ld0 ld1 ld2 ld3 ldR ⊢
        refine hK.out _ _ (kp6 (W := W) hBW ⟨Qq00, Qq01, Qq02, Qq10, Qq11, Qq12, hB⟩) ?_
        intro hHeld
        clear hK K
        try simp only [Act.put, List.setIfInBounds_toArray, List.set_cons_zero, List.set_cons_succ]
        refine wpAnyH_ready (rs := [3, 4]) (by kernel_rfl) (by simp) ?_
        refine consT rfl (fun K hK => ?_) ?_
        · skip
          go_simp
          refine Calls.mono (HR1.out _ (sb hS1 hB hBW) (sb hT1 hB hBW)) ?_
          rintro e w153 ⟨zs12, zp12, zn12, zc12, zX12, zq12, zm12, zd12, rfl, ga12, gb12, gc12, gd12, kS12, kT12, ge12, bb12⟩
          replace hBW := hBW.trans (bb12.mono hBW.size)
          replace kS11 := kS11.later bb12
          replace kT11 := kT11.later bb12
          replace ld0 := below_cell bb12 ld0
          replace ld1 := below_cell bb12 ld1
          replace ld2 := below_cell bb12 ld2
          replace ld3 := below_cell bb12 ld3
          replace ldR := below_row bb12 ldR
          clear bb12
          go_wp2_with fail
          refine hK.out _ _ (kp6 (W := W) hBW ⟨Qq00, Qq01, Qq02, Qq10, Qq11, Qq12, hB⟩) ?_
          clear hHeld
          intro hHeld
          clear hK K
          try simp only [Act.put, List.setIfInBounds_toArray, List.set_cons_zero, List.set_cons_succ]
          refine wpAnyH_ready (rs := [4]) (by kernel_rfl) (by simp) ?_
          refine consT rfl (fun K hK => ?_) ?_
          · skip
            go_simp
            have bb := below_alloc (w := w153) (.cells #[.bool false, .slice none 0 0, .bool false, .slice none 0 0] 41)
            have lcge := hBW.size
            have lab := ldR.lt
            replace hBW := hBW.trans (bb.mono hBW.size)
            replace kS11 := kS11.later bb
            replace kT11 := kT11.later bb
            replace kS12 := kS12.later bb
            replace kT12 := kT12.later bb
            replace ld0 := below_cell bb ld0
            replace ld1 := below_cell bb ld1
            replace ld2 := below_cell bb ld2
            replace ld3 := below_cell bb ld3
            replace ldR := below_row bb ldR
            clear bb
            have lc0 : (w153.alloc (.cells #[.bool false, .slice none 0 0, .bool false, .slice none 0 0] 41)).cell? ⟨w153.heap.size, 0, none⟩ = some (.bool false) := by go_simp
            have lc1 : (w153.alloc (.cells #[.bool false, .slice none 0 0, .bool false, .slice none 0 0] 41)).cell? ⟨w153.heap.size, 1, none⟩ = some (.slice none 0 0) := by go_simp
            have lc2 : (w153.alloc (.cells #[.bool false, .slice none 0 0, .bool false, .slice none 0 0] 41)).cell? ⟨w153.heap.size, 2, none⟩ = some (.bool false) := by go_simp
            have lc3 : (w153.alloc (.cells #[.bool false, .slice none 0 0, .bool false, .slice none 0 0] 41)).cell? ⟨w153.heap.size, 3, none⟩ = some (.slice none 0 0) := by go_simp
            have lcR : Row (w153.alloc (.cells #[.bool false, .slice none 0 0, .bool false, .slice none 0 0] 41)) w153.heap.size := row_new w153 _ 41
            clear hHeld
            generalize (w153.alloc (.cells #[.bool false, .slice none 0 0, .bool false, .slice none 0 0] 41)) = w1534 at hBW lc0 lc1 lc2 lc3 lcR ld0 ld1 ld2 ld3 ldR kS11 kT11 kS12 kT12 ⊢
            generalize w153.heap.size = c at lcge lc0 lc1 lc2 lc3 lcR lab ⊢
            refine hK.out _ _ (kp6 (W := W) hBW ⟨Qq00, Qq01, Qq02, Qq10, Qq11, Qq12, hB⟩) ?_
            intro hHeld
            clear hK K
            try simp only [Act.put, List.setIfInBounds_toArray, List.set_cons_zero, List.set_cons_succ]
            have lcd : c ≠ d := by omega
            clear lab
            refine wpAnyH_ready (rs := [6]) (by kernel_rfl) (by simp) ?_
            refine cons' rfl (fun K hK => ?_)
            have lf := fun o => lcR.frozen o
            have X := stored4 (u0 := .bool zs11) (u1 := .slice zp11 zn11 zc11) (u2 := .bool false) (u3 := .slice zq11 zm11 zd11) lc0 lc1 lc2 lc3 ld0 ld1 ld2 ld3 ldR hBW lcge lcd kS11 kT11 kS12 kT12
            go_simp
            clear lc0 lc1 lc2 lc3 ld0 ld1 ld2 ld3 lf lcR ldR hHeld hBW kS11 kT11 kS12 kT12
            generalize ((((w1534.setCell ⟨c, 0, none⟩ (.bool zs11)).setCell ⟨c, 1, none⟩ (.slice zp11 zn11 zc11)).setCell ⟨c, 2, none⟩ (.bool false)).setCell ⟨c, 3, none⟩ (.slice zq11 zm11 zd11)) = wl1 at X ⊢
            obtain ⟨lc0, lc1, lc2, lc3, ld0, ld1, ld2, ld3, ldR, hBW, kS11, kT11, kS12, kT12⟩ := X
            have lcR := ldR
            refine hK.out _ _ (kp6 (W := W) hBW ⟨Qq00, Qq01, Qq02, Qq10, Qq11, Qq12, hB⟩) ?_
            intro hHeld
            clear hK K
            try simp only [Act.put, List.setIfInBounds_toArray, List.set_cons_zero, List.set_cons_succ]
            refine wpAnyH_ready (rs := [7]) (by kernel_rfl) (by simp) ?_
            refine cons' rfl (fun K hK => ?_)
            have lf := fun o => ldR.frozen o
            have X := stored4 (u0 := .bool zs12) (u1 := .slice zp12 zn12 zc12) (u2 := .bool false) (u3 := .slice zq12 zm12 zd12) ld0 ld1 ld2 ld3 lc0 lc1 lc2 lc3 lcR hBW ldge lcd.symm kS11 kT11 kS12 kT12
            go_simp
            clear ld0 ld1 ld2 ld3 lc0 lc1 lc2 lc3 lf ldR lcR hHeld hBW kS11 kT11 kS12 kT12
            generalize ((((wl1.setCell ⟨d, 0, none⟩ (.bool zs12)).setCell ⟨d, 1, none⟩ (.slice zp12 zn12 zc12)).setCell ⟨d, 2, none⟩ (.bool false)).setCell ⟨d, 3, none⟩ (.slice zq12 zm12 zd12)) = wl2 at X ⊢
            obtain ⟨ld0, ld1, ld2, ld3, lc0, lc1, lc2, lc3, lcR, hBW, kS11, kT11, kS12, kT12⟩ := X
            have ldR := lcR
            refine hK.out _ _ (kp6 (W := W) hBW ⟨Qq00, Qq01, Qq02, Qq10, Qq11, Qq12, hB⟩) ?_
            intro hHeld
            clear hK K
            try simp only [Act.put, List.setIfInBounds_toArray, List.set_cons_zero, List.set_cons_succ]
            refine wpAnyH_done (by kernel_rfl) ?_ _
            go_wp2_with fail
            go_meet
            exact ⟨c, d, zs11, zp11, zn11, zc11, zX11, zq11, zm11, zd11, zs12, zp12, zn12, zc12, zX12, zq12, zm12, zd12, rfl, rfl, lcge, ldge, hBW, lc0, lc1, lc2, lc3, ld0, ld1, ld2, ld3, ga11, gb11, gc11, gd11, kS11, kT11, ge11, ga12, gb12, gc12, gd12, kS12, kT12, ge12⟩
          exact AllReadyH.nil
        refine consT rfl (fun K hK => ?_) ?_
        · skip
          go_simp
          have bb := below_alloc (w := w15) (.cells #[.bool false, .slice none 0 0, .bool false, .slice none 0 0] 41)
          have lcge := hBW.size
          have lab := ldR.lt
          replace hBW := hBW.trans (bb.mono hBW.size)
          replace kS11 := kS11.later bb
          replace kT11 := kT11.later bb
          replace ld0 := below_cell bb ld0
          replace ld1 := below_cell bb ld1
          replace ld2 := below_cell bb ld2
          replace ld3 := below_cell bb ld3
          replace ldR := below_row bb ldR
          clear bb
          have lc0 : (w15.alloc (.cells #[.bool false, .slice none 0 0, .bool false, .slice none 0 0] 41)).cell? ⟨w15.heap.size, 0, none⟩ = some (.bool false) := by go_simp
          have lc1 : (w15.alloc (.cells #[.bool false, .slice none 0 0, .bool false, .slice none 0 0] 41)).cell? ⟨w15.heap.size, 1, none⟩ = some (.slice none 0 0) := by go_simp
          have lc2 : (w15.alloc (.cells #[.bool false, .slice none 0 0, .bool false, .slice none 0 0] 41)).cell? ⟨w15.heap.size, 2, none⟩ = some (.bool false) := by go_simp
          have lc3 : (w15.alloc (.cells #[.bool false, .slice none 0 0, .bool false, .slice none 0 0] 41)).cell? ⟨w15.heap.size, 3, none⟩ = some (.slice none 0 0) := by go_simp
          have lcR : Row (w15.alloc (.cells #[.bool false, .slice none 0 0, .bool false, .slice none 0 0] 41)) w15.heap.size := row_new w15 _ 41
          clear hHeld
          generalize (w15.alloc (.cells #[.bool false, .slice none 0 0, .bool false, .slice none 0 0] 41)) = w154 at hBW lc0 lc1 lc2 lc3 lcR ld0 ld1 ld2 ld3 ldR kS11 kT11 ⊢
          generalize w15.heap.size = c at lcge lc0 lc1 lc2 lc3 lcR lab ⊢
          refine hK.out _ _ (kp6 (W := W) hBW ⟨Qq00, Qq01, Qq02, Qq10, Qq11, Qq12, hB⟩) ?_
          intro hHeld
          clear hK K
          try simp only [Act.put, List.setIfInBounds_toArray, List.set_cons_zero, List.set_cons_succ]
          refine wpAnyH_ready (rs := [3]) (by kernel_rfl) (by simp) ?_
          refine consT rfl (fun K hK => ?_) ?_
          · skip
            go_simp
            refine Calls.mono (HR1.out _ (sb hS1 hB hBW) (sb hT1 hB hBW)) ?_
            rintro e w1543 ⟨zs12, zp12, zn12, zc12, zX12, zq12, zm12, zd12, rfl, ga12, gb12, gc12, gd12, kS12, kT12, ge12, bb12⟩
            replace hBW := hBW.trans (bb12.mono hBW.size)
            replace kS11 := kS11.later bb12
            replace kT11 := kT11.later bb12
            replace lc0 := below_cell bb12 lc0
            replace lc1 := below_cell bb12 lc1
            replace lc2 := below_cell bb12 lc2
            replace lc3 := below_cell bb12 lc3
            replace lcR := below_row bb12 lcR
            replace ld0 := below_cell bb12 ld0
            replace ld1 := below_cell bb12 ld1
            replace ld2 := below_cell bb12 ld2
            replace ld3 := below_cell bb12 ld3
            replace ldR := below_row bb12 ldR
            clear bb12
            go_wp2_with fail
            refine hK.out _ _ (kp6 (W := W) hBW ⟨Qq00, Qq01, Qq02, Qq10, Qq11, Qq12, hB⟩) ?_
            clear hHeld
            intro hHeld
            clear hK K
            try simp only [Act.put, List.setIfInBounds_toArray, List.set_cons_zero, List.set_cons_succ]
            have lcd : c ≠ d := by omega
            clear lab
            refine wpAnyH_ready (rs := [6]) (by kernel_rfl) (by simp) ?_
            refine cons' rfl (fun K hK => ?_)
            have lf := fun o => lcR.frozen o
            have X := stored4 (u0 := .bool zs11) (u1 := .slice zp11 zn11 zc11) (u2 := .bool false) (u3 := .slice zq11 zm11 zd11) lc0 lc1 lc2 lc3 ld0 ld1 ld2 ld3 ldR hBW lcge lcd kS11 kT11 kS12 kT12
            go_simp
            clear lc0 lc1 lc2 lc3 ld0 ld1 ld2 ld3 lf lcR ldR hHeld hBW kS11 kT11 kS12 kT12
            generalize ((((w1543.setCell ⟨c, 0, none⟩ (.bool zs11)).setCell ⟨c, 1, none⟩ (.slice zp11 zn11 zc11)).setCell ⟨c, 2, none⟩ (.bool false)).setCell ⟨c, 3, none⟩ (.slice zq11 zm11 zd11)) = wl1 at X ⊢
            obtain ⟨lc0, lc1, lc2, lc3, ld0, ld1, ld2, ld3, ldR, hBW, kS11, kT11, kS12, kT12⟩ := X
            have lcR := ldR
            refine hK.out _ _ (kp6 (W := W) hBW ⟨Qq00, Qq01, Qq02, Qq10, Qq11, Qq12, hB⟩) ?_
            intro hHeld
            clear hK K
            try simp only [Act.put, List.setIfInBounds_toArray, List.set_cons_zero, List.set_cons_succ]
            refine wpAnyH_ready (rs := [7]) (by kernel_rfl) (by simp) ?_
            refine cons' rfl (fun K hK => ?_)
            have lf := fun o => ldR.frozen o
            have X := stored4 (u0 := .bool zs12) (u1 := .slice zp12 zn12 zc12) (u2 := .bool false) (u3 := .slice zq12 zm12 zd12) ld0 ld1 ld2 ld3 lc0 lc1 lc2 lc3 lcR hBW ldge lcd.symm kS11 kT11 kS12 kT12
            go_simp
            clear ld0 ld1 ld2 ld3 lc0 lc1 lc2 lc3 lf ldR lcR hHeld hBW kS11 kT11 kS12 kT12
            generalize ((((wl1.setCell ⟨d, 0, none⟩ (.bool zs12)).setCell ⟨d, 1, none⟩ (.slice zp12 zn12 zc12)).setCell ⟨d, 2, none⟩ (.bool false)).setCell ⟨d, 3, none⟩ (.slice zq12 zm12 zd12)) = wl2 at X ⊢
            obtain ⟨ld0, ld1, ld2, ld3, lc0, lc1, lc2, lc3, lcR, hBW, kS11, kT11, kS12, kT12⟩ := X
            have ldR := lcR
            refine hK.out _ _ (kp6 (W := W) hBW ⟨Qq00, Qq01, Qq02, Qq10, Qq11, Qq12, hB⟩) ?_
            intro hHeld
            clear hK K
            try simp only [Act.put, List.setIfInBounds_toArray, List.set_cons_zero, List.set_cons_succ]
            refine wpAnyH_done (by kernel_rfl) ?_ _
            go_wp2_with fail
            go_meet
            exact ⟨c, d, zs11, zp11, zn11, zc11, zX11, zq11, zm11, zd11, zs12, zp12, zn12, zc12, zX12, zq12, zm12, zd12, rfl, rfl, lcge, ldge, hBW, lc0, lc1, lc2, lc3, ld0, ld1, ld2, ld3, ga11, gb11, gc11, gd11, kS11, kT11, ge11, ga12, gb12, gc12, gd12, kS12, kT12, ge12⟩
          exact AllReadyH.nil
        exact AllReadyH.nil
      exact AllReadyH.nil
    refine consT rfl (fun K hK => ?_) ?_
    · skip
      go_simp
      have bb := below_alloc (w := w0) (.cells #[.bool false, .slice none 0 0, .bool false, .slice none 0 0] 41)
      have lcge := hBW.size
      replace hBW := hBW.trans (bb.mono hBW.size)
      clear bb
      have lc0 : (w0.alloc (.cells #[.bool false, .slice none 0 0, .bool false, .slice none 0 0] 41)).cell? ⟨w0.heap.size, 0, none⟩ = some (.bool false) := by go_simp
      have lc1 : (w0.alloc (.cells #[.bool false, .slice none 0 0, .bool false, .slice none 0 0] 41)).cell? ⟨w0.heap.size, 1, none⟩ = some (.slice none 0 0) := by go_simp
      have lc2 : (w0.alloc (.cells #[.bool false, .slice none 0 0, .bool false, .slice none 0 0] 41)).cell? ⟨w0.heap.size, 2, none⟩ = some (.bool false) := by go_simp
      have lc3 : (w0.alloc (.cells #[.bool false, .slice none 0 0, .bool false, .slice none 0 0] 41)).cell? ⟨w0.heap.size, 3, none⟩ = some (.slice none 0 0) := by go_simp
      have lcR : Row (w0.alloc (.cells #[.bool false, .slice none 0 0, .bool false, .slice none 0 0] 41)) w0.heap.size := row_new w0 _ 41
      clear hHeld
      generalize (w0.alloc (.cells #[.bool false, .slice none 0 0, .bool false, .slice none 0 0] 41)) = w4 at hBW lc0 lc1 lc2 lc3 lcR ⊢
      generalize w0.heap.size = c at lcge lc0 lc1 lc2 lc3 lcR ⊢
      refine hK.out _ _ (kp6 (W := W) hBW ⟨Qq00, Qq01, Qq02, Qq10, Qq11, Qq12, hB⟩) ?_
      intro hHeld
      clear hK K
      try simp only [Act.put, List.setIfInBounds_toArray, List.set_cons_zero, List.set_cons_succ]
      refine wpAnyH_ready (rs := [1, 5]) (by kernel_rfl) (by simp) ?_
      refine consT rfl (fun K hK => ?_) ?_
      · skip
        go_simp
        refine Calls.mono (HR0.out _ (sb hS0 hB hBW) (sb hT0 hB hBW)) ?_
        rintro e w41 ⟨zs11, zp11, zn11, zc11, zX11, zq11, zm11, zd11, rfl, ga11, gb11, gc11, gd11, kS11, kT11, ge11, bb11⟩
        replace hBW := hBW.trans (bb11.mono hBW.size)
        replace lc0 := below_cell bb11 lc0
        replace lc1 := below_cell bb11 lc1
        replace lc2 := below_cell bb11 lc2
        replace lc3 := below_cell bb11 lc3
        replace lcR := below_row bb11 lcR
        clear bb11
        go_wp2_with fail
        refine hK.out _ _ (kp6 (W := W) hBW ⟨Qq00, Qq01, Qq02, Qq10, Qq11, Qq12, hB⟩) ?_
        clear hHeld
        intro hHeld
        clear hK K
        try simp only [Act.put, List.setIfInBounds_toArray, List.set_cons_zero, List.set_cons_succ]
        refine wpAnyH_ready (rs := [3, 5]) (by kernel_rfl) (by simp) ?_
        refine consT rfl (fun K hK => ?_) ?_
        · skip
          go_simp
          refine Calls.mono (HR1.out _ (sb hS1 hB hBW) (sb hT1 hB hBW)) ?_
          rintro e w413 ⟨zs12, zp12, zn12, zc12, zX12, zq12, zm12, zd12, rfl, ga12, gb12, gc12, gd12, kS12, kT12, ge12, bb12⟩
          replace hBW := hBW.trans (bb12.mono hBW.size)
          replace kS11 := kS11.later bb12
          replace kT11 := kT11.later bb12
          replace lc0 := below_cell bb12 lc0
          replace lc1 := below_cell bb12 lc1
          replace lc2 := below_cell bb12 lc2
          replace lc3 := below_cell bb12 lc3
          replace lcR := below_row bb12 lcR
          clear bb12
          go_wp2_with fail
          refine hK.out _ _ (kp6 (W := W) hBW ⟨Qq00, Qq01, Qq02, Qq10, Qq11, Qq12, hB⟩) ?_
          clear hHeld
          intro hHeld
          clear hK K
          try simp only [Act.put, List.setIfInBounds_toArray, List.set_cons_zero, List.set_cons_succ]
          refine wpAnyH_ready (rs := [5]) (by kernel_rfl) (by simp) ?_
          refine consT rfl (fun K hK => ?_) ?_
          · skip
            go_simp
            have bb := below_alloc (w := w413) (.cells #[.bool false, .slice none 0 0, .bool false, .slice none 0 0] 41)
            have ldge := hBW.size
            have lab := lcR.lt
            replace hBW := hBW.trans (bb.mono hBW.size)
            replace kS11 := kS11.later bb
            replace kT11 := kT11.later bb
            replace kS12 := kS12.later bb
            replace kT12 := kT12.later bb
            replace lc0 := below_cell bb lc0
            replace lc1 := below_cell bb lc1
            replace lc2 := below_cell bb lc2
            replace lc3 := below_cell bb lc3
            replace lcR := below_row bb lcR
            clear bb
            have ld0 : (w413.alloc (.cells #[.bool false, .slice none 0 0, .bool false, .slice none 0 0] 41)).cell? ⟨w413.heap.size, 0, none⟩ = some (.bool false) := by go_simp
            have ld1 : (w413.alloc (.cells #[.bool false, .slice none 0 0, .bool false, .slice none 0 0] 41)).cell? ⟨w413.heap.size, 1, none⟩ = some (.slice none 0 0) := by go_simp
            have ld2 : (w413.alloc (.cells #[.bool false, .slice none 0 0, .bool false, .slice none 0 0] 41)).cell? ⟨w413.heap.size, 2, none⟩ = some (.bool false) := by go_simp
            have ld3 : (w413.alloc (.cells #[.bool false, .slice none 0 0, .bool false, .slice none 0 0] 41)).cell? ⟨w413.heap.size, 3, none⟩ = some (.slice none 0 0) := by go_simp
            have ldR : Row (w413.alloc (.cells #[.bool false, .slice none 0 0, .bool false, .slice none 0 0] 41)) w413.heap.size := row_new w413 _ 41
            clear hHeld
            generalize (w413.alloc (.cells #[.bool false, .slice none 0 0, .bool false, .slice none 0 0] 41)) = w4135 at hBW ld0 ld1 ld2 ld3 ldR lc0 lc1 lc2 lc3 lcR kS11 kT11 kS12 kT12 ⊢
            generalize w413.heap.size = d at ldge ld0 ld1 ld2 ld3 ldR lab ⊢
            refine hK.out _ _ (kp6 (W := W) hBW ⟨Qq00, Qq01, Qq02, Qq10, Qq11, Qq12, hB⟩) ?_
            intro hHeld
            clear hK K
            try simp only [Act.put, List.setIfInBounds_toArray, List.set_cons_zero, List.set_cons_succ]
            have lcd : c ≠ d := by omega
            clear lab
            refine wpAnyH_ready (rs := [6]) (by kernel_rfl) (by simp) ?_
            refine cons' rfl (fun K hK => ?_)
            have lf := fun o => lcR.frozen o
            have X := stored4 (u0 := .bool zs11) (u1 := .slice zp11 zn11 zc11) (u2 := .bool false) (u3 := .slice zq11 zm11 zd11) lc0 lc1 lc2 lc3 ld0 ld1 ld2 ld3 ldR hBW lcge lcd kS11 kT11 kS12 kT12
            go_simp
            clear lc0 lc1 lc2 lc3 ld0 ld1 ld2 ld3 lf lcR ldR hHeld hBW kS11 kT11 kS12 kT12
            generalize ((((w4135.setCell ⟨c, 0, none⟩ (.bool zs11)).setCell ⟨c, 1, none⟩ (.slice zp11 zn11 zc11)).setCell ⟨c, 2, none⟩ (.bool false)).setCell ⟨c, 3, none⟩ (.slice zq11 zm11 zd11)) = wl1 at X ⊢
            obtain ⟨lc0, lc1, lc2, lc3, ld0, ld1, ld2, ld3, ldR, hBW, kS11, kT11, kS12, kT12⟩ := X
            have lcR := ldR
            refine hK.out _ _ (kp6 (W := W) hBW ⟨Qq00, Qq01, Qq02, Qq10, Qq11, Qq12, hB⟩) ?_
            intro hHeld
            clear hK K
            try simp only [Act.put, List.setIfInBounds_toArray, List.set_cons_zero, List.set_cons_succ]
            refine wpAnyH_ready (rs := [7]) (by kernel_rfl) (by simp) ?_
            refine cons' rfl (fun K hK => ?_)
            have lf := fun o => ldR.frozen o
            have X := stored4 (u0 := .bool zs12) (u1 := .slice zp12 zn12 zc12) (u2 := .bool false) (u3 := .slice zq12 zm12 zd12) ld0 ld1 ld2 ld3 lc0 lc1 lc2 lc3 lcR hBW ldge lcd.symm kS11 kT11 kS12 kT12
            go_simp
            clear ld0 ld1 ld2 ld3 lc0 lc1 lc2 lc3 lf ldR lcR hHeld hBW kS11 kT11 kS12 kT12
            generalize ((((wl1.setCell ⟨d, 0, none⟩ (.bool zs12)).setCell ⟨d, 1, none⟩ (.slice zp12 zn12 zc12)).setCell ⟨d, 2, none⟩ (.bool false)).setCell ⟨d, 3, none⟩ (.slice zq12 zm12 zd12)) = wl2 at X ⊢
            obtain ⟨ld0, ld1, ld2, ld3, lc0, lc1, lc2, lc3, lcR, hBW, kS11, kT11, kS12, kT12⟩ := X
            have ldR := lcR
            refine hK.out _ _ (kp6 (W := W) hBW ⟨Qq00, Qq01, Qq02, Qq10, Qq11, Qq12, hB⟩) ?_
            intro hHeld
            clear hK K
            try simp only [Act.put, List.setIfInBounds_toArray, List.set_cons_zero, List.set_cons_succ]
            refine wpAnyH_done (by kernel_rfl) ?_ _
            go_wp2_with fail
            go_meet
            exact ⟨c, d, zs11, zp11, zn11, zc11, zX11, zq11, zm11, zd11, zs12, zp12, zn12, zc12, zX12, zq12, zm12, zd12, rfl, rfl, lcge, ldge, hBW, lc0, lc1, lc2, lc3, ld0, ld1, ld2, ld3, ga11, gb11, gc11, gd11, kS11, kT11, ge11, ga12, gb12, gc12, gd12, kS12, kT12, ge12⟩
          exact AllReadyH.nil
        refine consT rfl (fun K hK => ?_) ?_
        · skip
          go_simp
          have bb := below_alloc (w := w41) (.cells #[.bool false, .slice none 0 0, .bool false, .slice none 0 0] 41)
          have ldge := hBW.size
          have lab := lcR.lt
          replace hBW := hBW.trans (bb.mono hBW.size)
          replace kS11 := kS11.later bb
          replace kT11 := kT11.later bb
          replace lc0 := below_cell bb lc0
          replace lc1 := below_cell bb lc1
          replace lc2 := below_cell bb lc2
          replace lc3 := below_cell bb lc3
          replace lcR := below_row bb lcR
          clear bb
          have ld0 : (w41.alloc (.cells #[.bool false, .slice none 0 0, .bool false, .slice none 0 0] 41)).cell? ⟨w41.heap.size, 0, none⟩ = some (.bool false) := by go_simp
          have ld1 : (w41.alloc (.cells #[.bool false, .slice none 0 0, .bool false, .slice none 0 0] 41)).cell? ⟨w41.heap.size, 1, none⟩ = some (.slice none 0 0) := by go_simp
          have ld2 : (w41.alloc (.cells #[.bool false, .slice none 0 0, .bool false, .slice none 0 0] 41)).cell? ⟨w41.heap.size, 2, none⟩ = some (.bool false) := by go_simp
          have ld3 : (w41.alloc (.cells #[.bool false, .slice none 0 0, .bool false, .slice none 0 0] 41)).cell? ⟨w41.heap.size, 3, none⟩ = some (.slice none 0 0) := by go_simp
          have ldR : Row (w41.alloc (.cells #[.bool false, .slice none 0 0, .bool false, .slice none 0 0] 41)) w41.heap.size := row_new w41 _ 41
          clear hHeld
          generalize (w41.alloc (.cells #[.bool false, .slice none 0 0, .bool false, .slice none 0 0] 41)) = w415 at hBW ld0 ld1 ld2 ld3 ldR lc0 lc1 lc2 lc3 lcR kS11 kT11 ⊢
          generalize w41.heap.size = d at ldge ld0 ld1 ld2 ld3 ldR lab ⊢
          refine hK.out _ _ (kp6 (W := W) hBW ⟨Qq00, Qq01, Qq02, Qq10, Qq11, Qq12, hB⟩) ?_
          intro hHeld
          clear hK K
          try simp only [Act.put, List.setIfInBounds_toArray, List.set_cons_zero, List.set_cons_succ]
          refine wpAnyH_ready (rs := [3]) (by kernel_rfl) (by simp) ?_
          refine consT rfl (fun K hK => ?_) ?_
          · skip
            go_simp
            refine Calls.mono (HR1.out _ (sb hS1 hB hBW) (sb hT1 hB hBW)) ?_
            rintro e w4153 ⟨zs12, zp12, zn12, zc12, zX12, zq12, zm12, zd12, rfl, ga12, gb12, gc12, gd12, kS12, kT12, ge12, bb12⟩
            replace hBW := hBW.trans (bb12.mono hBW.size)
            replace kS11 := kS11.later bb12
            replace kT11 := kT11.later bb12
            replace lc0 := below_cell bb12 lc0
            replace lc1 := below_cell bb12 lc1
            replace lc2 := below_cell bb12 lc2
            replace lc3 := below_cell bb12 lc3
            replace lcR := below_row bb12 lcR
            replace ld0 := below_cell bb12 ld0
            replace ld1 := below_cell bb12 ld1
            replace ld2 := below_cell bb12 ld2
            replace ld3 := below_cell bb12 ld3
            replace ldR := below_row bb12 ldR
            clear bb12
            go_wp2_with fail
            refine hK.out _ _ (kp6 (W := W) hBW ⟨Qq00, Qq01, Qq02, Qq10, Qq11, Qq12, hB⟩) ?_
            clear hHeld
            intro hHeld
            clear hK K
            try simp only [Act.put, List.setIfInBounds_toArray, List.set_cons_zero, List.set_cons_succ]
            have lcd : c ≠ d := by omega
            clear lab
            refine wpAnyH_ready (rs := [6]) (by kernel_rfl) (by simp) ?_
            refine cons' rfl (fun K hK => ?_)
            have lf := fun o => lcR.frozen o
            have X := stored4 (u0 := .bool zs11) (u1 := .slice zp11 zn11 zc11) (u2 := .bool false) (u3 := .slice zq11 zm11 zd11) lc0 lc1 lc2 lc3 ld0 ld1 ld2 ld3 ldR hBW lcge lcd kS11 kT11 kS12 kT12
            go_simp
            clear lc0 lc1 lc2 lc3 ld0 ld1 ld2 ld3 lf lcR ldR hHeld hBW kS11 kT11 kS12 kT12
            generalize ((((w4153.setCell ⟨c, 0, none⟩ (.bool zs11)).setCell ⟨c, 1, none⟩ (.slice zp11 zn11 zc11)).setCell ⟨c, 2, none⟩ (.bool false)).setCell ⟨c, 3, none⟩ (.slice zq11 zm11 zd11)) = wl1 at X ⊢
            obtain ⟨lc0, lc1, lc2, lc3, ld0, ld1, ld2, ld3, ldR, hBW, kS11, kT11, kS12, kT12⟩ := X
            have lcR := ldR
            refine hK.out _ _ (kp6 (W := W) hBW ⟨Qq00, Qq01, Qq02, Qq10, Qq11, Qq12, hB⟩) ?_
            intro hHeld
            clear hK K
            try simp only [Act.put, List.setIfInBounds_toArray, List.set_cons_zero, List.set_cons_succ]
            refine wpAnyH_ready (rs := [7]) (by kernel_rfl) (by simp) ?_
            refine cons' rfl (fun K hK => ?_)
            have lf := fun o => ldR.frozen o
            have X := stored4 (u0 := .bool zs12) (u1 := .slice zp12 zn12 zc12) (u2 := .bool false) (u3 := .slice zq12 zm12 zd12) ld0 ld1 ld2 ld3 lc0 lc1 lc2 lc3 lcR hBW ldge lcd.symm kS11 kT11 kS12 kT12
            go_simp
            clear ld0 ld1 ld2 ld3 lc0 lc1 lc2 lc3 lf ldR lcR hHeld hBW kS11 kT11 kS12 kT12
            generalize ((((wl1.setCell ⟨d, 0, none⟩ (.bool zs12)).setCell ⟨d, 1, none⟩ (.slice zp12 zn12 zc12)).setCell ⟨d, 2, none⟩ (.bool false)).setCell ⟨d, 3, none⟩ (.slice zq12 zm12 zd12)) = wl2 at X ⊢
            obtain ⟨ld0, ld1, ld2, ld3, lc0, lc1, lc2, lc3, lcR, hBW, kS11, kT11, kS12, kT12⟩ := X
            have ldR := lcR
            refine hK.out _ _ (kp6 (W := W) hBW ⟨Qq00, Qq01, Qq02, Qq10, Qq11, Qq12, hB⟩) ?_
            intro hHeld
            clear hK K
            try simp only [Act.put, List.setIfInBounds_toArray, List.set_cons_zero, List.set_cons_succ]
            refine wpAnyH_done (by kernel_rfl) ?_ _
            go_wp2_with fail
            go_meet
            exact ⟨c, d, zs11, zp11, zn11, zc11, zX11, zq11, zm11, zd11, zs12, zp12, zn12, zc12, zX12, zq12, zm12, zd12, rfl, rfl, lcge, ldge, hBW, lc0, lc1, lc2, lc3, ld0, ld1, ld2, ld3, ga11, gb11, gc11, gd11, kS11, kT11, ge11, ga12, gb12, gc12, gd12, kS12, kT12, ge12⟩
          exact AllReadyH.nil
        exact AllReadyH.nil
      refine consT rfl (fun K hK => ?_) ?_
      · skip
        go_simp
        have bb := below_alloc (w := w4) (.cells #[.bool false, .slice none 0 0, .bool false, .slice none 0 0] 41)
        have ldge := hBW.size
        have lab := lcR.lt
        replace hBW := hBW.trans (bb.mono hBW.size)
        replace lc0 := below_cell bb lc0
        replace lc1 := below_cell bb lc1
        replace lc2 := below_cell bb lc2
        replace lc3 := below_cell bb lc3
        replace lcR := below_row bb lcR
        clear bb
        have ld0 : (w4.alloc (.cells #[.bool false, .slice none 0 0, .bool false, .slice none 0 0] 41)).cell? ⟨w4.heap.size, 0, none⟩ = some (.bool false) := by go_simp
        have ld1 : (w4.alloc (.cells #[.bool false, .slice none 0 0, .bool false, .slice none 0 0] 41)).cell? ⟨w4.heap.size, 1, none⟩ = some (.slice none 0 0) := by go_simp
        have ld2 : (w4.alloc (.cells #[.bool false, .slice none 0 0, .bool false, .slice none 0 0] 41)).cell? ⟨w4.heap.size, 2, none⟩ = some (.bool false) := by go_simp
        have ld3 : (w4.alloc (.cells #[.bool false, .slice none 0 0, .bool false, .slice none 0 0] 41)).cell? ⟨w4.heap.size, 3, none⟩ = some (.slice none 0 0) := by go_simp
        have ldR : Row (w4.alloc (.cells #[.bool false, .slice none 0 0, .bool false, .slice none 0 0] 41)) w4.heap.size := row_new w4 _ 41
        clear hHeld
        generalize (w4.alloc (.cells #[.bool false, .slice none 0 0, .bool false, .slice none 0 0] 41)) = w45 at hBW ld0 ld1 ld2 ld3 ldR lc0 lc1 lc2 lc3 lcR ⊢
        generalize w4.heap.size = d at ldge ld0 ld1 ld2 ld3 ldR lab ⊢
        refine hK.out _ _ (kp6 (W := W) hBW ⟨Qq00, Qq01, Qq02, Qq10, Qq11, Qq12, hB⟩) ?_
        intro hHeld
        clear hK K
        try simp only [Act.put, List.setIfInBounds_toArray, List.set_cons_zero, List.set_cons_succ]
        refine wpAnyH_ready (rs := [1]) (by kernel_rfl) (by simp) ?_
        refine consT rfl (fun K hK => ?_) ?_
        · skip
          go_simp
          refine Calls.mono (HR0.out _ (sb hS0 hB hBW) (sb hT0 hB hBW)) ?_
          rintro e w451 ⟨zs11, zp11, zn11, zc11, zX11, zq11, zm11, zd11, rfl, ga11, gb11, gc11, gd11, kS11, kT11, ge11, bb11⟩
          replace hBW := hBW.trans (bb11.mono hBW.size)
          replace lc0 := below_cell bb11 lc0
          replace lc1 := below_cell bb11 lc1
          replace lc2 := below_cell bb11 lc2
          replace lc3 := below_cell bb11 lc3
          replace lcR := below_row bb11 lcR
          replace ld0 := below_cell bb11 ld0
          replace ld1 := below_cell bb11 ld1
          replace ld2 := below_cell bb11 ld2
          replace ld3 := below_cell bb11 ld3
          replace ldR := below_row bb11 ldR
          clear bb11
          go_wp2_with fail
          refine hK.out _ _ (kp6 (W := W) hBW ⟨Qq00, Qq01, Qq02, Qq10, Qq11, Qq12, hB⟩) ?_
          clear hHeld
          intro hHeld
          clear hK K
          try simp only [Act.put, List.setIfInBounds_toArray, List.set_cons_zero, List.set_cons_succ]
          refine wpAnyH_ready (rs := [3]) (by kernel_rfl) (by simp) ?_
          refine consT rfl (fun K hK => ?_) ?_
          · skip
            go_simp
            refine Calls.mono (HR1.out _ (sb hS1 hB hBW) (sb hT1 hB hBW)) ?_
            rintro e w4513 ⟨zs12, zp12, zn12, zc12, zX12, zq12, zm12, zd12, rfl, ga12, gb12, gc12, gd12, kS12, kT12, ge12, bb12⟩
            replace hBW := hBW.trans (bb12.mono hBW.size)
            replace kS11 := kS11.later bb12
            replace kT11 := kT11.later bb12
            replace lc0 := below_cell bb12 lc0
            replace lc1 := below_cell bb12 lc1
            replace lc2 := below_cell bb12 lc2
            replace lc3 := below_cell bb12 lc3
            replace lcR := below_row bb12 lcR
            replace ld0 := below_cell bb12 ld0
            replace ld1 := below_cell bb12 ld1
            replace ld2 := below_cell bb12 ld2
            replace ld3 := below_cell bb12 ld3
            replace ldR := below_row bb12 ldR
            clear bb12
            go_wp2_with fail
            refine hK.out _ _ (kp6 (W := W) hBW ⟨Qq00, Qq01, Qq02, Qq10, Qq11, Qq12, hB⟩) ?_
            clear hHeld
            intro hHeld
            clear hK K
            try simp only [Act.put, List.setIfInBounds_toArray, List.set_cons_zero, List.set_cons_succ]
            have lcd : c ≠ d := by omega
            clear lab
            refine wpAnyH_ready (rs := [6]) (by kernel_rfl) (by simp) ?_
            refine cons' rfl (fun K hK => ?_)
            have lf := fun o => lcR.frozen o
            have X := stored4 (u0 := .bool zs11) (u1 := .slice zp11 zn11 zc11) (u2 := .bool false) (u3 := .slice zq11 zm11 zd11) lc0 lc1 lc2 lc3 ld0 ld1 ld2 ld3 ldR hBW lcge lcd kS11 kT11 kS12 kT12
            go_simp
            clear lc0 lc1 lc2 lc3 ld0 ld1 ld2 ld3 lf lcR ldR hHeld hBW kS11 kT11 kS12 kT12
            generalize ((((w4513.setCell ⟨c, 0, none⟩ (.bool zs11)).setCell ⟨c, 1, none⟩ (.slice zp11 zn11 zc11)).setCell ⟨c, 2, none⟩ (.bool false)).setCell ⟨c, 3, none⟩ (.slice zq11 zm11 zd11)) = wl1 at X ⊢
            obtain ⟨lc0, lc1, lc2, lc3, ld0, ld1, ld2, ld3, ldR, hBW, kS11, kT11, kS12, kT12⟩ := X
            have lcR := ldR
            refine hK.out _ _ (kp6 (W := W) hBW ⟨Qq00, Qq01, Qq02, Qq10, Qq11, Qq12, hB⟩) ?_
            intro hHeld
            clear hK K
            try simp only [Act.put, List.setIfInBounds_toArray, List.set_cons_zero, List.set_cons_succ]
            refine wpAnyH_ready (rs := [7]) (by kernel_rfl) (by simp) ?_
            refine cons' rfl (fun K hK => ?_)
            have lf := fun o => ldR.frozen o
            have X := stored4 (u0 := .bool zs12) (u1 := .slice zp12 zn12 zc12) (u2 := .bool false) (u3 := .slice zq12 zm12 zd12) ld0 ld1 ld2 ld3 lc0 lc1 lc2 lc3 lcR hBW ldge lcd.symm kS11 kT11 kS12 kT12
            go_simp
            clear ld0 ld1 ld2 ld3 lc0 lc1 lc2 lc3 lf ldR lcR hHeld hBW kS11 kT11 kS12 kT12
            generalize ((((wl1.setCell ⟨d, 0, none⟩ (.bool zs12)).setCell ⟨d, 1, none⟩ (.slice zp12 zn12 zc12)).setCell ⟨d, 2, none⟩ (.bool false)).setCell ⟨d, 3, none⟩ (.slice zq12 zm12 zd12)) = wl2 at X ⊢
            obtain ⟨ld0, ld1, ld2, ld3, lc0, lc1, lc2, lc3, lcR, hBW, kS11, kT11, kS12, kT12⟩ := X
            have ldR := lcR
            refine hK.out _ _ (kp6 (W := W) hBW ⟨Qq00, Qq01, Qq02, Qq10, Qq11, Qq12, hB⟩) ?_
            intro hHeld
            clear hK K
            try simp only [Act.put, List.setIfInBounds_toArray, List.set_cons_zero, List.set_cons_succ]
            refine wpAnyH_done (by kernel_rfl) ?_ _
            go_wp2_with fail
            go_meet
            exact ⟨c, d, zs11, zp11, zn11, zc11, zX11, zq11, zm11, zd11, zs12, zp12, zn12, zc12, zX12, zq12, zm12, zd12, rfl, rfl, lcge, ldge, hBW, lc0, lc1, lc2, lc3, ld0, ld1, ld2, ld3, ga11, gb11, gc11, gd11, kS11, kT11, ge11, ga12, gb12, gc12, gd12, kS12, kT12, ge12⟩
          exact AllReadyH.nil
        exact AllReadyH.nil
      exact AllReadyH.nil
    refine consT rfl (fun K hK => ?_) ?_
    · skip
      go_simp
      have bb := below_alloc (w := w0) (.cells #[.bool false, .slice none 0 0, .bool false, .slice none 0 0] 41)
      have ldge := hBW.size
      replace hBW := hBW.trans (bb.mono hBW.size)
      clear bb
      have ld0 : (w0.alloc (.cells #[.bool false, .slice none 0 0, .bool false, .slice none 0 0] 41)).cell? ⟨w0.heap.size, 0, none⟩ = some (.bool false) := by go_simp
      have ld1 : (w0.alloc (.cells #[.bool false, .slice none 0 0, .bool false, .slice none 0 0] 41)).cell? ⟨w0.heap.size, 1, none⟩ = some (.slice none 0 0) := by go_simp
      have ld2 : (w0.alloc (.cells #[.bool false, .slice none 0 0, .bool false, .slice none 0 0] 41)).cell? ⟨w0.heap.size, 2, none⟩ = some (.bool false) := by go_simp
      have ld3 : (w0.alloc (.cells #[.bool false, .slice none 0 0, .bool false, .slice none 0 0] 41)).cell? ⟨w0.heap.size, 3, none⟩ = some (.slice none 0 0) := by go_simp
      have ldR : Row (w0.alloc (.cells #[.bool false, .slice none 0 0, .bool false, .slice none 0 0] 41)) w0.heap.size := row_new w0 _ 41
      clear hHeld
      generalize (w0.alloc (.cells #[.bool false, .slice none 0 0, .bool false, .slice none 0 0] 41)) = w5 at hBW ld0 ld1 ld2 ld3 ldR ⊢
      generalize w0.heap.size = d at ldge ld0 ld1 ld2 ld3 ldR ⊢
      refine hK.out _ _ (kp6 (W := W) hBW ⟨Qq00, Qq01, Qq02, Qq10, Qq11, Qq12, hB⟩) ?_
      intro hHeld
      clear hK K
      try simp only [Act.put, List.setIfInBounds_toArray, List.set_cons_zero, List.set_cons_succ]
      refine wpAnyH_ready (rs := [1, 4]) (by kernel_rfl) (by simp) ?_
      refine consT rfl (fun K hK => ?_) ?_
      · skip
        go_simp
        refine Calls.mono (HR0.out _ (sb hS0 hB hBW) (sb hT0 hB hBW)) ?_
        rintro e w51 ⟨zs11, zp11, zn11, zc11, zX11, zq11, zm11, zd11, rfl, ga11, gb11, gc11, gd11, kS11, kT11, ge11, bb11⟩
        replace hBW := hBW.trans (bb11.mono hBW.size)
        replace ld0 := below_cell bb11 ld0
        replace ld1 := below_cell bb11 ld1
        replace ld2 := below_cell bb11 ld2
        replace ld3 := below_cell bb11 ld3
        replace ldR := below_row bb11 ldR
        clear bb11
        go_wp2_with fail
        refine hK.out _ _ (kp6 (W := W) hBW ⟨Qq00, Qq01, Qq02, Qq10, Qq11, Qq12, hB⟩) ?_
        clear hHeld
        intro hHeld
        clear hK K
        try simp only [Act.put, List.setIfInBounds_toArray, List.set_cons_zero, List.set_cons_succ]
        refine wpAnyH_ready (rs := [3, 4]) (by kernel_rfl) (by simp) ?_
        refine consT rfl (fun K hK => ?_) ?_
        · skip
          go_simp
          refine Calls.mono (HR1.out _ (sb hS1 hB hBW) (sb hT1 hB hBW)) ?_
          rintro e w513 ⟨zs12, zp12, zn12, zc12, zX12, zq12, zm12, zd12, rfl, ga12, gb12, gc12, gd12, kS12, kT12, ge12, bb12⟩
          replace hBW := hBW.trans (bb12.mono hBW.size)
          replace kS11 := kS11.later bb12
          replace kT11 := kT11.later bb12
          replace ld0 := below_cell bb12 ld0
          replace ld1 := below_cell bb12 ld1
          replace ld2 := below_cell bb12 ld2
          replace ld3 := below_cell bb12 ld3
          replace ldR := below_row bb12 ldR
          clear bb12
          go_wp2_with fail
          refine hK.out _ _ (kp6 (W := W) hBW ⟨Qq00, Qq01, Qq02, Qq10, Qq11, Qq12, hB⟩) ?_
          clear hHeld
          intro hHeld
          clear hK K
          try simp only [Act.put, List.setIfInBounds_toArray, List.set_cons_zero, List.set_cons_succ]
          refine wpAnyH_ready (rs := [4]) (by kernel_rfl) (by simp) ?_
          refine consT rfl (fun K hK => ?_) ?_
          · skip
            go_simp
            have bb := below_alloc (w := w513) (.cells #[.bool false, .slice none 0 0, .bool false, .slice none 0 0] 41)
            have lcge := hBW.size
            have lab := ldR.lt
            replace hBW := hBW.trans (bb.mono hBW.size)
            replace kS11 := kS11.later bb
            replace kT11 := kT11.later bb
            replace kS12 := kS12.later bb
            replace kT12 := kT12.later bb
            replace ld0 := below_cell bb ld0
            replace ld1 := below_cell bb ld1
            replace ld2 := below_cell bb ld2
            replace ld3 := below_cell bb ld3
            replace ldR := below_row bb ldR
            clear bb
            have lc0 : (w513.alloc (.cells #[.bool false, .slice none 0 0, .bool false, .slice none 0 0] 41)).cell? ⟨w513.heap.size, 0, none⟩ = some (.bool false) := by go_simp
            have lc1 : (w513.alloc (.cells #[.bool false, .slice none 0 0, .bool false, .slice none 0 0] 41)).cell? ⟨w513.heap.size, 1, none⟩ = some (.slice none 0 0) := by go_simp
            have lc2 : (w513.alloc (.cells #[.bool false, .slice none 0 0, .bool false, .slice none 0 0] 41)).cell? ⟨w513.heap.size, 2, none⟩ = some (.bool false) := by go_simp
            have lc3 : (w513.alloc (.cells #[.bool false, .slice none 0 0, .bool false, .slice none 0 0] 41)).cell? ⟨w513.heap.size, 3, none⟩ = some (.slice none 0 0) := by go_simp
            have lcR : Row (w513.alloc (.cells #[.bool false, .slice none 0 0, .bool false, .slice none 0 0] 41)) w513.heap.size := row_new w513 _ 41
            clear hHeld
            generalize (w513.alloc (.cells #[.bool false, .slice none 0 0, .bool false, .slice none 0 0] 41)) = w5134 at hBW lc0 lc1 lc2 lc3 lcR ld0 ld1 ld2 ld3 ldR kS11 kT11 kS12 kT12 ⊢
            generalize w513.heap.size = c at lcge lc0 lc1 lc2 lc3 lcR lab ⊢
            refine hK.out _ _ (kp6 (W := W) hBW ⟨Qq00, Qq01, Qq02, Qq10, Qq11, Qq12, hB⟩) ?_
            intro hHeld
            clear hK K
            try simp only [Act.put, List.setIfInBounds_toArray, List.set_cons_zero, List.set_cons_succ]
            have lcd : c ≠ d := by omega
            clear lab
            refine wpAnyH_ready (rs := [6]) (by kernel_rfl) (by simp) ?_
            refine cons' rfl (fun K hK => ?_)
            have lf := fun o => lcR.frozen o
            have X := stored4 (u0 := .bool zs11) (u1 := .slice zp11 zn11 zc11) (u2 := .bool false) (u3 := .slice zq11 zm11 zd11) lc0 lc1 lc2 lc3 ld0 ld1 ld2 ld3 ldR hBW lcge lcd kS11 kT11 kS12 kT12
            go_simp
            clear lc0 lc1 lc2 lc3 ld0 ld1 ld2 ld3 lf lcR ldR hHeld hBW kS11 kT11 kS12 kT12
            generalize ((((w5134.setCell ⟨c, 0, none⟩ (.bool zs11)).setCell ⟨c, 1, none⟩ (.slice zp11 zn11 zc11)).setCell ⟨c, 2, none⟩ (.bool false)).setCell ⟨c, 3, none⟩ (.slice zq11 zm11 zd11)) = wl1 at X ⊢
            obtain ⟨lc0, lc1, lc2, lc3, ld0, ld1, ld2, ld3, ldR, hBW, kS11, kT11, kS12, kT12⟩ := X
            have lcR := ldR
            refine hK.out _ _ (kp6 (W := W) hBW ⟨Qq00, Qq01, Qq02, Qq10, Qq11, Qq12, hB⟩) ?_
            intro hHeld
            clear hK K
            try simp only [Act.put, List.setIfInBounds_toArray, List.set_cons_zero, List.set_cons_succ]
            refine wpAnyH_ready (rs := [7]) (by kernel_rfl) (by simp) ?_
            refine cons' rfl (fun K hK => ?_)
            have lf := fun o => ldR.frozen o
            have X := stored4 (u0 := .bool zs12) (u1 := .slice zp12 zn12 zc12) (u2 := .bool false) (u3 := .slice zq12 zm12 zd12) ld0 ld1 ld2 ld3 lc0 lc1 lc2 lc3 lcR hBW ldge lcd.symm kS11 kT11 kS12 kT12
            go_simp
            clear ld0 ld1 ld2 ld3 lc0 lc1 lc2 lc3 lf ldR lcR hHeld hBW kS11 kT11 kS12 kT12
            generalize ((((wl1.setCell ⟨d, 0, none⟩ (.bool zs12)).setCell ⟨d, 1, none⟩ (.slice zp12 zn12 zc12)).setCell ⟨d, 2, none⟩ (.bool false)).setCell ⟨d, 3, none⟩ (.slice zq12 zm12 zd12)) = wl2 at X ⊢
            obtain ⟨ld0, ld1, ld2, ld3, lc0, lc1, lc2, lc3, lcR, hBW, kS11, kT11, kS12, kT12⟩ := X
            have ldR := lcR
            refine hK.out _ _ (kp6 (W := W) hBW ⟨Qq00, Qq01, Qq02, Qq10, Qq11, Qq12, hB⟩) ?_
            intro hHeld
            clear hK K
            try simp only [Act.put, List.setIfInBounds_toArray, List.set_cons_zero, List.set_cons_succ]
            refine wpAnyH_done (by kernel_rfl) ?_ _
            go_wp2_with fail
            go_meet
            exact ⟨c, d, zs11, zp11, zn11, zc11, zX11, zq11, zm11, zd11, zs12, zp12, zn12, zc12, zX12, zq12, zm12, zd12, rfl, rfl, lcge, ldge, hBW, lc0, lc1, lc2, lc3, ld0, ld1, ld2, ld3, ga11, gb11, gc11, gd11, kS11, kT11, ge11, ga12, gb12, gc12, gd12, kS12, kT12, ge12⟩
          exact AllReadyH.nil
        refine consT rfl (fun K hK => ?_) ?_
        · skip
          go_simp
          have bb := below_alloc (w := w51) (.cells #[.bool false, .slice none 0 0, .bool false, .slice none 0 0] 41)
          have lcge := hBW.size
          have lab := ldR.lt
          replace hBW := hBW.trans (bb.mono hBW.size)
          replace kS11 := kS11.later bb
          replace kT11 := kT11.later bb
          replace ld0 := below_cell bb ld0
          replace ld1 := below_cell bb ld1
          replace ld2 := below_cell bb ld2
          replace ld3 := below_cell bb ld3
          replace ldR := below_row bb ldR
          clear bb
          have lc0 : (w51.alloc (.cells #[.bool false, .slice none 0 0, .bool false, .slice none 0 0] 41)).cell? ⟨w51.heap.size, 0, none⟩ = some (.bool false) := by go_simp
          have lc1 : (w51.alloc (.cells #[.bool false, .slice none 0 0, .bool false, .slice none 0 0] 41)).cell? ⟨w51.heap.size, 1, none⟩ = some (.slice none 0 0) := by go_simp
          have lc2 : (w51.alloc (.cells #[.bool false, .slice none 0 0, .bool false, .slice none 0 0] 41)).cell? ⟨w51.heap.size, 2, none⟩ = some (.bool false) := by go_simp
          have lc3 : (w51.alloc (.cells #[.bool false, .slice none 0 0, .bool false, .slice none 0 0] 41)).cell? ⟨w51.heap.size, 3, none⟩ = some (.slice none 0 0) := by go_simp
          have lcR : Row (w51.alloc (.cells #[.bool false, .slice none 0 0, .bool false, .slice none 0 0] 41)) w51.heap.size := row_new w51 _ 41
          clear hHeld
          generalize (w51.alloc (.cells #[.bool false, .slice none 0 0, .bool false, .slice none 0 0] 41)) = w514 at hBW lc0 lc1 lc2 lc3 lcR ld0 ld1 ld2 ld3 ldR kS11 kT11 ⊢
          generalize w51.heap.size = c at lcge lc0 lc1 lc2 lc3 lcR lab ⊢
          refine hK.out _ _ (kp6 (W := W) hBW ⟨Qq00, Qq01, Qq02, Qq10, Qq11, Qq12, hB⟩) ?_
          intro hHeld
          clear hK K
          try simp only [Act.put, List.setIfInBounds_toArray, List.set_cons_zero, List.set_cons_succ]
          refine wpAnyH_ready (rs := [3]) (by kernel_rfl) (by simp) ?_
          refine consT rfl (fun K hK => ?_) ?_
          · skip
            go_simp
            refine Calls.mono (HR1.out _ (sb hS1 hB hBW) (sb hT1 hB hBW)) ?_
            rintro e w5143 ⟨zs12, zp12, zn12, zc12, zX12, zq12, zm12, zd12, rfl, ga12, gb12, gc12, gd12, kS12, kT12, ge12, bb12⟩
            replace hBW := hBW.trans (bb12.mono hBW.size)
            replace kS11 := kS11.later bb12
            replace kT11 := kT11.later bb12
            replace lc0 := below_cell bb12 lc0
            replace lc1 := below_cell bb12 lc1
            replace lc2 := below_cell bb12 lc2
            replace lc3 := below_cell bb12 lc3
            replace lcR := below_row bb12 lcR
            replace ld0 := below_cell bb12 ld0
            replace ld1 := below_cell bb12 ld1
            replace ld2 := below_cell bb12 ld2
            replace ld3 := below_cell bb12 ld3
            replace ldR := below_row bb12 ldR
            clear bb12
            go_wp2_with fail
            refine hK.out _ _ (kp6 (W := W) hBW ⟨Qq00, Qq01, Qq02, Qq10, Qq11, Qq12, hB⟩) ?_
            clear hHeld
            intro hHeld
            clear hK K
            try simp only [Act.put, List.setIfInBounds_toArray, List.set_cons_zero, List.set_cons_succ]
            have lcd : c ≠ d := by omega
            clear lab
            refine wpAnyH_ready (rs := [6]) (by kernel_rfl) (by simp) ?_
            refine cons' rfl (fun K hK => ?_)
            have lf := fun o => lcR.frozen o
            have X := stored4 (u0 := .bool zs11) (u1 := .slice zp11 zn11 zc11) (u2 := .bool false) (u3 := .slice zq11 zm11 zd11) lc0 lc1 lc2 lc3 ld0 ld1 ld2 ld3 ldR hBW lcge lcd kS11 kT11 kS12 kT12
            go_simp
            clear lc0 lc1 lc2 lc3 ld0 ld1 ld2 ld3 lf lcR ldR hHeld hBW kS11 kT11 kS12 kT12
            generalize ((((w5143.setCell ⟨c, 0, none⟩ (.bool zs11)).setCell ⟨c, 1, none⟩ (.slice zp11 zn11 zc11)).setCell ⟨c, 2, none⟩ (.bool false)).setCell ⟨c, 3, none⟩ (.slice zq11 zm11 zd11)) = wl1 at X ⊢
            obtain ⟨lc0, lc1, lc2, lc3, ld0, ld1, ld2, ld3, ldR, hBW, kS11, kT11, kS12, kT12⟩ := X
            have lcR := ldR
            refine hK.out _ _ (kp6 (W := W) hBW ⟨Qq00, Qq01, Qq02, Qq10, Qq11, Qq12, hB⟩) ?_
            intro hHeld
            clear hK K
            try simp only [Act.put, List.setIfInBounds_toArray, List.set_cons_zero, List.set_cons_succ]
            refine wpAnyH_ready (rs := [7]) (by kernel_rfl) (by simp) ?_
            refine cons' rfl (fun K hK => ?_)
            have lf := fun o => ldR.frozen o
            have X := stored4 (u0 := .bool zs12) (u1 := .slice zp12 zn12 zc12) (u2 := .bool false) (u3 := .slice zq12 zm12 zd12) ld0 ld1 ld2 ld3 lc0 lc1 lc2 lc3 lcR hBW ldge lcd.symm kS11 kT11 kS12 kT12
            go_simp
            clear ld0 ld1 ld2 ld3 lc0 lc1 lc2 lc3 lf ldR lcR hHeld hBW kS11 kT11 kS12 kT12
            generalize ((((wl1.setCell ⟨d, 0, none⟩ (.bool zs12)).setCell ⟨d, 1, none⟩ (.slice zp12 zn12 zc12)).setCell ⟨d, 2, none⟩ (.bool false)).setCell ⟨d, 3, none⟩ (.slice zq12 zm12 zd12)) = wl2 at X ⊢
            obtain ⟨ld0, ld1, ld2, ld3, lc0, lc1, lc2, lc3, lcR, hBW, kS11, kT11, kS12, kT12⟩ := X
            have ldR := lcR
            refine hK.out _ _ (kp6 (W := W) hBW ⟨Qq00, Qq01, Qq02, Qq10, Qq11, Qq12, hB⟩) ?_
            intro hHeld
            clear hK K
            try simp only [Act.put, List.setIfInBounds_toArray, List.set_cons_zero, List.set_cons_succ]
            refine wpAnyH_done (by kernel_rfl) ?_ _
            go_wp2_with fail
            go_meet
            exact ⟨c, d, zs11, zp11, zn11, zc11, zX11, zq11, zm11, zd11, zs12, zp12, zn12, zc12, zX12, zq12, zm12, zd12, rfl, rfl, lcge, ldge, hBW, lc0, lc1, lc2, lc3, ld0, ld1, ld2, ld3, ga11, gb11, gc11, gd11, kS11, kT11, ge11, ga12, gb12, gc12, gd12, kS12, kT12, ge12⟩
          exact AllReadyH.nil
        exact AllReadyH.nil
      refine consT rfl (fun K hK => ?_) ?_
      · skip
        go_simp
        have bb := below_alloc (w := w5) (.cells #[.bool false, .slice none 0 0, .bool false, .slice none 0 0] 41)
        have lcge := hBW.size
        have lab := ldR.lt
        replace hBW := hBW.trans (bb.mono hBW.size)
        replace ld0 := below_cell bb ld0
        replace ld1 := below_cell bb ld1
        replace ld2 := below_cell bb ld2
        replace ld3 := below_cell bb ld3
        replace ldR := below_row bb ldR
        clear bb
        have lc0 : (w5.alloc (.cells #[.bool false, .slice none 0 0, .bool false, .slice none 0 0] 41)).cell? ⟨w5.heap.size, 0, none⟩ = some (.bool false) := by go_simp
        have lc1 : (w5.alloc (.cells #[.bool false, .slice none 0 0, .bool false, .slice none 0 0] 41)).cell? ⟨w5.heap.size, 1, none⟩ = some (.slice none 0 0) := by go_simp
        have lc2 : (w5.alloc (.cells #[.bool false, .slice none 0 0, .bool false, .slice none 0 0] 41)).cell? ⟨w5.heap.size, 2, none⟩ = some (.bool false) := by go_simp
        have lc3 : (w5.alloc (.cells #[.bool false, .slice none 0 0, .bool false, .slice none 0 0] 41)).cell? ⟨w5.heap.size, 3, none⟩ = some (.slice none 0 0) := by go_simp
        have lcR : Row (w5.alloc (.cells #[.bool false, .slice none 0 0, .bool false, .slice none 0 0] 41)) w5.heap.size := row_new w5 _ 41
        clear hHeld
        generalize (w5.alloc (.cells #[.bool false, .slice none 0 0, .bool false, .slice none 0 0] 41)) = w54 at hBW lc0 lc1 lc2 lc3 lcR ld0 ld1 ld2 ld3 ldR ⊢
        generalize w5.heap.size = c at lcge lc0 lc1 lc2 lc3 lcR lab ⊢
        refine hK.out _ _ (kp6 (W := W) hBW ⟨Qq00, Qq01, Qq02, Qq10, Qq11, Qq12, hB⟩) ?_
        intro hHeld
        clear hK K
        try simp only [Act.put, List.setIfInBounds_toArray, List.set_cons_zero, List.set_cons_succ]
        refine wpAnyH_ready (rs := [1]) (by kernel_rfl) (by simp) ?_
        refine consT rfl (fun K hK => ?_) ?_
        · skip
          go_simp
          refine Calls.mono (HR0.out _ (sb hS0 hB hBW) (sb hT0 hB hBW)) ?_
          rintro e w541 ⟨zs11, zp11, zn11, zc11, zX11, zq11, zm11, zd11, rfl, ga11, gb11, gc11, gd11, kS11, kT11, ge11, bb11⟩
          replace hBW := hBW.trans (bb11.mono hBW.size)
          replace lc0 := below_cell bb11 lc0
          replace lc1 := below_cell bb11 lc1
          replace lc2 := below_cell bb11 lc2
          replace lc3 := below_cell bb11 lc3
          replace lcR := below_row bb11 lcR
          replace ld0 := below_cell bb11 ld0
          replace ld1 := below_cell bb11 ld1
          replace ld2 := below_cell bb11 ld2
          replace ld3 := below_cell bb11 ld3
          replace ldR := below_row bb11 ldR
          clear bb11
          go_wp2_with fail
          refine hK.out _ _ (kp6 (W := W) hBW ⟨Qq00, Qq01, Qq02, Qq10, Qq11, Qq12, hB⟩) ?_
          clear hHeld
          intro hHeld
          clear hK K
          try simp only [Act.put, List.setIfInBounds_toArray, List.set_cons_zero, List.set_cons_succ]
          refine wpAnyH_ready (rs := [3]) (by kernel_rfl) (by simp) ?_
          refine consT rfl (fun K hK => ?_) ?_
          · skip
            go_simp
            refine Calls.mono (HR1.out _ (sb hS1 hB hBW) (sb hT1 hB hBW)) ?_
            rintro e w5413 ⟨zs12, zp12, zn12, zc12, zX12, zq12, zm12, zd12, rfl, ga12, gb12, gc12, gd12, kS12, kT12, ge12, bb12⟩
            replace hBW := hBW.trans (bb12.mono hBW.size)
            replace kS11 := kS11.later bb12
            replace kT11 := kT11.later bb12
            replace lc0 := below_cell bb12 lc0
            replace lc1 := below_cell bb12 lc1
            replace lc2 := below_cell bb12 lc2
            replace lc3 := below_cell bb12 lc3
            replace lcR := below_row bb12 lcR
            replace ld0 := below_cell bb12 ld0
            replace ld1 := below_cell bb12 ld1
            replace ld2 := below_cell bb12 ld2
            replace ld3 := below_cell bb12 ld3
            replace ldR := below_row bb12 ldR
            clear bb12
            go_wp2_with fail
            refine hK.out _ _ (kp6 (W := W) hBW ⟨Qq00, Qq01, Qq02, Qq10, Qq11, Qq12, hB⟩) ?_
            clear hHeld
            intro hHeld
            clear hK K
            try simp only [Act.put, List.setIfInBounds_toArray, List.set_cons_zero, List.set_cons_succ]
            have lcd : c ≠ d := by omega
            clear lab
            refine wpAnyH_ready (rs := [6]) (by kernel_rfl) (by simp) ?_
            refine cons' rfl (fun K hK => ?_)
            have lf := fun o => lcR.frozen o
            have X := stored4 (u0 := .bool zs11) (u1 := .slice zp11 zn11 zc11) (u2 := .bool false) (u3 := .slice zq11 zm11 zd11) lc0 lc1 lc2 lc3 ld0 ld1 ld2 ld3 ldR hBW lcge lcd kS11 kT11 kS12 kT12
            go_simp
            clear lc0 lc1 lc2 lc3 ld0 ld1 ld2 ld3 lf lcR ldR hHeld hBW kS11 kT11 kS12 kT12
            generalize ((((w5413.setCell ⟨c, 0, none⟩ (.bool zs11)).setCell ⟨c, 1, none⟩ (.slice zp11 zn11 zc11)).setCell ⟨c, 2, none⟩ (.bool false)).setCell ⟨c, 3, none⟩ (.slice zq11 zm11 zd11)) = wl1 at X ⊢
            obtain ⟨lc0, lc1, lc2, lc3, ld0, ld1, ld2, ld3, ldR, hBW, kS11, kT11, kS12, kT12⟩ := X
            have lcR := ldR
            refine hK.out _ _ (kp6 (W := W) hBW ⟨Qq00, Qq01, Qq02, Qq10, Qq11, Qq12, hB⟩) ?_
            intro hHeld
            clear hK K
            try simp only [Act.put, List.setIfInBounds_toArray, List.set_cons_zero, List.set_cons_succ]
            refine wpAnyH_ready (rs := [7]) (by kernel_rfl) (by simp) ?_
            refine cons' rfl (fun K hK => ?_)
            have lf := fun o => ldR.frozen o
            have X := stored4 (u0 := .bool zs12) (u1 := .slice zp12 zn12 zc12) (u2 := .bool false) (u3 := .slice zq12 zm12 zd12) ld0 ld1 ld2 ld3 lc0 lc1 lc2 lc3 lcR hBW ldge lcd.symm kS11 kT11 kS12 kT12
            go_simp
            clear ld0 ld1 ld2 ld3 lc0 lc1 lc2 lc3 lf ldR lcR hHeld hBW kS11 kT11 kS12 kT12
            generalize ((((wl1.setCell ⟨d, 0, none⟩ (.bool zs12)).setCell ⟨d, 1, none⟩ (.slice zp12 zn12 zc12)).setCell ⟨d, 2, none⟩ (.bool false)).setCell ⟨d, 3, none⟩ (.slice zq12 zm12 zd12)) = wl2 at X ⊢
            obtain ⟨ld0, ld1, ld2, ld3, lc0, lc1, lc2, lc3, lcR, hBW, kS11, kT11, kS12, kT12⟩ := X
            have ldR := lcR
            refine hK.out _ _ (kp6 (W := W) hBW ⟨Qq00, Qq01, Qq02, Qq10, Qq11, Qq12, hB⟩) ?_
            intro hHeld
            clear hK K
            try simp only [Act.put, List.setIfInBounds_toArray, List.set_cons_zero, List.set_cons_succ]
            refine wpAnyH_done (by kernel_rfl) ?_ _
            go_wp2_with fail
            go_meet
            exact ⟨c, d, zs11, zp11, zn11, zc11, zX11, zq11, zm11, zd11, zs12, zp12, zn12, zc12, zX12, zq12, zm12, zd12, rfl, rfl, lcge, ldge, hBW, lc0, lc1, lc2, lc3, ld0, ld1, ld2, ld3, ga11, gb11, gc11, gd11, kS11, kT11, ge11, ga12, gb12, gc12, gd12, kS12, kT12, ge12⟩
          exact AllReadyH.nil
        exact AllReadyH.nil
      exact AllReadyH.nil
    exact AllReadyH.nil
  case rest =>
  clear hBW HR0 HR1
  obtain ⟨c, d, zs11, zp11, zn11, zc11, zX11, zq11, zm11, zd11, zs12, zp12, zn12, zc12, zX12, zq12, zm12, zd12, rfl, rfl, lcge, ldge, hBW, lc0, lc1, lc2, lc3, ld0, ld1, ld2, ld3, ga11, gb11, gc11, gd11, kS11, kT11, ge11, ga12, gb12, gc12, gd12, kS12, kT12, ge12⟩ := hcut
  replace q00 := below_cell hBW q00
  replace q01 := below_cell hBW q01
  replace q02 := below_cell hBW q02
  replace q10 := below_cell hBW q10
  replace q11 := below_cell hBW q11
  replace q12 := below_cell hBW q12
  replace r00 := below_cell hBW r00
  replace r01 := below_cell hBW r01
  replace r02 := below_cell hBW r02
  replace hR0 := below_row hBW hR0
  have hp : sg zs11 zX11 * sg false (rd Y1) = P := by rw [ge11]; exact HP.out
  have hd : sg false (rd Y0) * sg zs12 zX12 = D := by rw [ge12]; exact HD.out
  go_wp2_with fail
  replace hBW := hBW.drew
  replace kS11 := kS11.drew
  replace kT11 := kT11.drew
  replace kS12 := kS12.drew
  replace kT12 := kT12.drew
  first
    | go_region_held3 (fun w' => w'.cell? ⟨c, 0, none⟩ = some (.bool zs11) ∧ w'.cell? ⟨c, 1, none⟩ = some (.slice zp11 zn11 zc11) ∧ w'.cell? ⟨c, 2, none⟩ = some (.bool false) ∧ w'.cell? ⟨c, 3, none⟩ = some (.slice zq11 zm11 zd11) ∧ w'.cell? ⟨d, 0, none⟩ = some (.bool zs12) ∧ w'.cell? ⟨d, 1, none⟩ = some (.slice zp12 zn12 zc12) ∧ w'.cell? ⟨d, 2, none⟩ = some (.bool false) ∧ w'.cell? ⟨d, 3, none⟩ = some (.slice zq12 zm12 zd12) ∧ Below w.heap.size w w')
        (first | exact ⟨lc0, lc1, lc2, lc3, ld0, ld1, ld2, ld3, hB.trans (hBW.mono hB.size)⟩ | exact kp8 b21 (by assumption) | exact kp8 b22 (by assumption) | exact kp8 b23 (by assumption) | exact kp8 (below_alloc _) (by assumption) | exact kp8 (below_alloc _) ⟨lc0, lc1, lc2, lc3, ld0, ld1, ld2, ld3, hB.trans (hBW.mono hB.size)⟩ | exact kpT8_3 (by assumption) (by omega) (by omega) (by omega) (by omega) (by omega) (by omega) (by omega) (by omega) (by omega))
        (first
          | (go_at_call 40; go_at_call_of 40 (Value.agg #[Value.bool zs11, Value.slice zp11 zn11 zc11]); go_at_call_of 40 (Value.agg #[Value.bool false, Value.slice zq12 zm12 zd12]); refine (wMul_is zs11 zp11 zn11 zc11 zX11 false zq12 zm12 zd12 (rd Y1) P _ ga11 (by omega) kS11 gc12 (by omega) kT12 hp).mono ?_; rintro e w21 ⟨a21, rfl, h1⟩; have b21 := h1.below; replace h1 := h1.back hBW; replace hBW := hBW.trans (b21.mono hBW.size); replace q00 := below_cell b21 q00; replace q01 := below_cell b21 q01; replace q02 := below_cell b21 q02; replace q10 := below_cell b21 q10; replace q11 := below_cell b21 q11; replace q12 := below_cell b21 q12; replace r00 := below_cell b21 r00; replace r01 := below_cell b21 r01; replace r02 := below_cell b21 r02; replace lc0 := below_cell b21 lc0; replace lc1 := below_cell b21 lc1; replace lc2 := below_cell b21 lc2; replace lc3 := below_cell b21 lc3; replace ld0 := below_cell b21 ld0; replace ld1 := below_cell b21 ld1; replace ld2 := below_cell b21 ld2; replace ld3 := below_cell b21 ld3; replace hR0 := below_row b21 hR0; replace kS11 := kS11.later b21; replace kT11 := kT11.later b21; replace kS12 := kS12.later b21; replace kT12 := kT12.later b21)
          | (go_at_call 40; go_at_call_of 40 (Value.agg #[Value.bool false, Value.slice zq11 zm11 zd11]); go_at_call_of 40 (Value.agg #[Value.bool zs12, Value.slice zp12 zn12 zc12]); refine (wMul_is false zq11 zm11 zd11 (rd Y0) zs12 zp12 zn12 zc12 zX12 D _ gc11 (by omega) kT11 ga12 (by omega) kS12 hd).mono ?_; rintro e w22 ⟨a22, rfl, h2⟩; have b22 := h2.below; replace h2 := h2.back hBW; replace hBW := hBW.trans (b22.mono hBW.size); replace q00 := below_cell b22 q00; replace q01 := below_cell b22 q01; replace q02 := below_cell b22 q02; replace q10 := below_cell b22 q10; replace q11 := below_cell b22 q11; replace q12 := below_cell b22 q12; replace r00 := below_cell b22 r00; replace r01 := below_cell b22 r01; replace r02 := below_cell b22 r02; replace lc0 := below_cell b22 lc0; replace lc1 := below_cell b22 lc1; replace lc2 := below_cell b22 lc2; replace lc3 := below_cell b22 lc3; replace ld0 := below_cell b22 ld0; replace ld1 := below_cell b22 ld1; replace ld2 := below_cell b22 ld2; replace ld3 := below_cell b22 ld3; replace hR0 := below_row b22 hR0; replace kS11 := kS11.later b22; replace kT11 := kT11.later b22; replace kS12 := kS12.later b22; replace kT12 := kT12.later b22; replace h1 := h1.later b22)
          | (go_at_call 41; refine (H5.out _ a21 a22 h2.seg).mono ?_; rintro e w23 ⟨rfl, b23⟩; replace hBW := hBW.trans (b23.mono hBW.size); replace q00 := below_cell b23 q00; replace q01 := below_cell b23 q01; replace q02 := below_cell b23 q02; replace q10 := below_cell b23 q10; replace q11 := below_cell b23 q11; replace q12 := below_cell b23 q12; replace r00 := below_cell b23 r00; replace r01 := below_cell b23 r01; replace r02 := below_cell b23 r02; replace lc0 := below_cell b23 lc0; replace lc1 := below_cell b23 lc1; replace lc2 := below_cell b23 lc2; replace lc3 := below_cell b23 lc3; replace ld0 := below_cell b23 ld0; replace ld1 := below_cell b23 ld1; replace ld2 := below_cell b23 ld2; replace ld3 := below_cell b23 ld3; replace hR0 := below_row b23 hR0; replace kS11 := kS11.later b23; replace kT11 := kT11.later b23; replace kS12 := kS12.later b23; replace kT12 := kT12.later b23; replace h1 := h1.later b23; replace h2 := h2.later b23; have fz := fun o => hR0.frozen o))
    | fail
  have fz0 := fun o => hR0.frozen o
  go_wp2
  all_goals refine bodyPost_ret (v := .tuple #[.agg #[.bool false, .slice none 0 0, .slice none 0 0], .int .i64 11]) (by rw [results_ct rfl]; go_simp) rfl ?_
  all_goals exact ⟨rfl, ((bset (bset (bset (hB.trans (hBW.mono hB.size)) (by omega)) (by omega)) (by omega)))⟩

set_option maxHeartbeats 4000000 in
set_option maxRecDepth 100000 in
theorem qDiv_is (s0 : Bool) (a0 : Option Addr) (n0 c0 X0 : Nat) (b0 : Option Addr) (m0 d0 Y0 : Nat) (s1 : Bool) (a1 : Option Addr) (n1 c1 X1 : Nat) (b1 : Option Addr) (m1 d1 Y1 : Nat) (Z : Int) (V : Nat) (w : World) (hc0 : n0 ≤ c0) (hm0 : n0 ≤ 35184372087808) (hS0 : Seg w a0 X0 n0) (hd0 : m0 ≤ d0) (hk0 : m0 ≤ 35184372087808) (hT0 : Seg w b0 Y0 m0) (hc1 : n1 ≤ c1) (hm1 : n1 ≤ 35184372087808) (hS1 : Seg w a1 X1 n1) (hd1 : m1 ≤ d1) (hk1 : m1 ≤ 35184372087808) (hT1 : Seg w b1 Y1 m1) (hL : Low (rn s0 X0 Y0 * (rd Y1 : Nat)) ((rd Y0 : Nat) * rn s1 X1 Y1) Z V) :
    Calls Try.prog 22 #[Value.agg #[Value.bool s0, Value.slice a0 n0 c0, Value.slice b0 m0 d0], Value.agg #[Value.bool s1, Value.slice a1 n1 c1, Value.slice b1 m1 d1]] w fun e w' => ∃ p q, e = .returned (.tuple #[.agg #[.bool (ng Z), .slice p (ln (am Z)) (ln (am Z)), .slice q (ln V) (ln V)], .int .i64 0]) ∧ New w w' p (am Z) (ln (am Z)) ∧ New w w' q V (ln V) := by
  obtain ⟨P, hP⟩ : ∃ P, rn s0 X0 Y0 * ((rd Y1 : Nat) : Int) = P := ⟨_, rfl⟩
  obtain ⟨D, hD⟩ : ∃ D, ((rd Y0 : Nat) : Int) * rn s1 X1 Y1 = D := ⟨_, rfl⟩
  have lP : ln (am P) ≤ 70368744176012 := by rw [← hP, am_mul, am_nat]; have := ln_prod (Nat.lt_of_le_of_lt (rn_am s0 X0 Y0) hS0.1) (rd_lt hT1.1); omega
  have lD : ln (am D) ≤ 70368744176012 := by rw [← hD, am_mul, am_nat]; have := ln_prod (rd_lt hT0.1) (Nat.lt_of_le_of_lt (rn_am s1 X1 Y1) hS1.1); omega
  rw [hP, hD] at hL
  have H5 := hide' (fun w' p q k1 k2 => qOf_is (ng P) p (ln (am P)) (ln (am P)) (am P) (ng D) q (ln (am D)) (ln (am D)) (am D) V Z w' (Nat.le_refl _) (by omega) k1 (Nat.le_refl _) (by omega) k2 (by rw [sg_na, sg_na]; exact hL))
  clear hL
  have HP := hide' hP
  have HD := hide' hD
  clear hP hD
  have HR0 := hide' (fun w' k1 k2 => read_is s0 a0 n0 c0 X0 b0 m0 d0 Y0 35184372087808 w' hc0 hm0 k1 hd0 hk0 k2 (by omega) (by omega))
  have HR1 := hide' (fun w' k1 k2 => read_is s1 a1 n1 c1 X1 b1 m1 d1 Y1 35184372087808 w' hc1 hm1 k1 hd1 hk1 k2 (by omega) (by omega))
  go_enter Try.func22, Try.ntmps22
  go_upto_region 1 with fail
  obtain ⟨W, hW⟩ : ∃ W, (((w.alloc (.cells #[.bool s0, .slice a0 n0 c0, .slice b0 m0 d0] 27)).alloc (.cells #[.bool s1, .slice a1 n1 c1, .slice b1 m1 d1] 27)).alloc (.cells #[.bool false, .slice none 0 0, .slice none 0 0] 27)) = W := ⟨_, rfl⟩
  have q00 : W.cell? ⟨w.heap.size, 0, none⟩ = some (.bool s0) := by subst hW; go_simp
  have q01 : W.cell? ⟨w.heap.size, 1, none⟩ = some (.slice a0 n0 c0) := by subst hW; go_simp
  have q02 : W.cell? ⟨w.heap.size, 2, none⟩ = some (.slice b0 m0 d0) := by subst hW; go_simp
  have q10 : W.cell? ⟨w.heap.size + 1, 0, none⟩ = some (.bool s1) := by subst hW; go_simp
  have q11 : W.cell? ⟨w.heap.size + 1, 1, none⟩ = some (.slice a1 n1 c1) := by subst hW; go_simp
  have q12 : W.cell? ⟨w.heap.size + 1, 2, none⟩ = some (.slice b1 m1 d1) := by subst hW; go_simp
  have r00 : W.cell? ⟨w.heap.size + 1 + 1, 0, none⟩ = some (.bool false) := by subst hW; go_simp
  have r01 : W.cell? ⟨w.heap.size + 1 + 1, 1, none⟩ = some (.slice none 0 0) := by subst hW; go_simp
  have r02 : W.cell? ⟨w.heap.size + 1 + 1, 2, none⟩ = some (.slice none 0 0) := by subst hW; go_simp
  have hB : Below w.heap.size w W := by subst hW; exact ((((Below.refl _ _).alloc (by (try simp only [World.size_alloc]); omega) _).alloc (by (try simp only [World.size_alloc]); omega) _).alloc (by (try simp only [World.size_alloc]); omega) _)
  have hR0 : Row W (w.heap.size + 1 + 1) := by
    have := row_new (((w.alloc (.cells #[.bool s0, .slice a0 n0 c0, .slice b0 m0 d0] 27)).alloc (.cells #[.bool s1, .slice a1 n1 c1, .slice b1 m1 d1] 27))) #[.bool false, .slice none 0 0, .slice none 0 0] 27
    try simp only [World.size_alloc] at this
    subst hW; exact this
  have hz : W.heap.size = w.heap.size + 1 + 1 + 1 := by subst hW; simp only [World.size_alloc]
  rw [hW]
  clear hW
  have hBW : Below W.heap.size W W := Below.refl _ _
  have hz1 := Nat.le_of_eq hz
  have hz2 := Nat.le_of_eq hz.symm
  clear hz
  go_cut [6, 7] from 8 to 11 (fun s5 s6 wx => ∃ c d zs11 zp11 zn11 zc11 zX11 zq11 zm11 zd11 zs12 zp12 zn12 zc12 zX12 zq12 zm12 zd12, s5 = .pointer (some ⟨c, 0, none⟩) ∧ s6 = .pointer (some ⟨d, 0, none⟩) ∧ W.heap.size ≤ c ∧ W.heap.size ≤ d ∧ Below W.heap.size W wx ∧ wx.cell? ⟨c, 0, none⟩ = some (.bool zs11) ∧ wx.cell? ⟨c, 1, none⟩ = some (.slice zp11 zn11 zc11) ∧ wx.cell? ⟨c, 2, none⟩ = some (.bool false) ∧ wx.cell? ⟨c, 3, none⟩ = some (.slice zq11 zm11 zd11) ∧ wx.cell? ⟨d, 0, none⟩ = some (.bool zs12) ∧ wx.cell? ⟨d, 1, none⟩ = some (.slice zp12 zn12 zc12) ∧ wx.cell? ⟨d, 2, none⟩ = some (.bool false) ∧ wx.cell? ⟨d, 3, none⟩ = some (.slice zq12 zm12 zd12) ∧ zn11 ≤ zc11 ∧ zn11 ≤ 35184372087808 ∧ zm11 ≤ zd11 ∧ zm11 ≤ 35184372087808 ∧ Seg wx zp11 zX11 zn11 ∧ Seg wx zq11 (rd Y0) zm11 ∧ sg zs11 zX11 = rn s0 X0 Y0 ∧ zn12 ≤ zc12 ∧ zn12 ≤ 35184372087808 ∧ zm12 ≤ zd12 ∧ zm12 ≤ 35184372087808 ∧ Seg wx zp12 zX12 zn12 ∧ Seg wx zq12 (rd Y1) zm12 ∧ sg zs12 zX12 = rn s1 X1 Y1)
  case first =>
    have Qq00 := q00
    have Qq01 := q01
    have Qq02 := q02
    have Qq10 := q10
    have Qq11 := q11
    have Qq12 := q12
    clear q00 q01 q02 q10 q11 q12 r00 r01 r02 hR0
    replace hBW := hBW.drew
    refine wp_region_held_drew (S := (fun w' => w'.cell? ⟨w.heap.size, 0, none⟩ = some (.bool s0) ∧ w'.cell? ⟨w.heap.size, 1, none⟩ = some (.slice a0 n0 c0) ∧ w'.cell? ⟨w.heap.size, 2, none⟩ = some (.slice b0 m0 d0) ∧ w'.cell? ⟨w.heap.size + 1, 0, none⟩ = some (.bool s1) ∧ w'.cell? ⟨w.heap.size + 1, 1, none⟩ = some (.slice a1 n1 c1) ∧ w'.cell? ⟨w.heap.size + 1, 2, none⟩ = some (.slice b1 m1 d1) ∧ Below w.heap.size w w')) (by kernel_rfl) (kp6 (W := W) hBW ⟨Qq00, Qq01, Qq02, Qq10, Qq11, Qq12, hB⟩) (fun hHeld => ?_)
    generalize W.drew = w0 at hBW hHeld ⊢
    refine take' 0 (v := ?_) rfl (by kernel_rfl) (by kernel_rfl) (by kernel_rfl) (fun _ _ _ h => h) (Or.inl ⟨by rfl, ?_⟩) (by assumption) ?_
    rotate_left
    · intro w9 hSw
      go_simp
      first | done | with_reducible rfl
    simp only [Act.put, List.setIfInBounds_toArray, List.set_cons_zero, List.set_cons_succ]
    refine take' 2 (v := ?_) rfl (by kernel_rfl) (by kernel_rfl) (by kernel_rfl) (fun _ _ _ h => h) (Or.inl ⟨by rfl, ?_⟩) (by assumption) ?_
    rotate_left
    · intro w9 hSw
      go_simp
      first | done | with_reducible rfl
    simp only [Act.put, List.setIfInBounds_toArray, List.set_cons_zero, List.set_cons_succ]
    refine wpAnyH_ready (rs := [1, 4, 5]) (by kernel_rfl) (by simp) ?_
    refine consT rfl (fun K hK => ?_) ?_
    · skip
      go_simp
      refine Calls.mono (HR0.out _ (sb hS0 hB hBW) (sb hT0 hB hBW)) ?_
      rintro e w1 ⟨zs11, zp11, zn11, zc11, zX11, zq11, zm11, zd11, rfl, ga11, gb11, gc11, gd11, kS11, kT11, ge11, bb11⟩
      replace hBW := hBW.trans (bb11.mono hBW.size)
      clear bb11
      go_wp2_with fail
      refine hK.out _ _ (kp6 (W := W) hBW ⟨Qq00, Qq01, Qq02, Qq10, Qq11, Qq12, hB⟩) ?_
      clear hHeld
      intro hHeld
      clear hK K
      try simp only [Act.put, List.setIfInBounds_toArray, List.set_cons_zero, List.set_cons_succ]
      refine wpAnyH_ready (rs := [3, 4, 5]) (by kernel_rfl) (by simp) ?_
      refine consT rfl (fun K hK => ?_) ?_
      · skip
        go_simp
        refine Calls.mono (HR1.out _ (sb hS1 hB hBW) (sb hT1 hB hBW)) ?_
        rintro e w13 ⟨zs12, zp12, zn12, zc12, zX12, zq12, zm12, zd12, rfl, ga12, gb12, gc12, gd12, kS12, kT12, ge12, bb12⟩
        replace hBW := hBW.trans (bb12.mono hBW.size)
        replace kS11 := kS11.later bb12
        replace kT11 := kT11.later bb12
        clear bb12
        go_wp2_with fail
        refine hK.out _ _ (kp6 (W := W) hBW ⟨Qq00, Qq01, Qq02, Qq10, Qq11, Qq12, hB⟩) ?_
        clear hHeld
        intro hHeld
        clear hK K
        try simp only [Act.put, List.setIfInBounds_toArray, List.set_cons_zero, List.set_cons_succ]
        refine wpAnyH_ready (rs := [4, 5]) (by kernel_rfl) (by simp) ?_
        refine consT rfl (fun K hK => ?_) ?_
        · skip
          go_simp
          have bb := below_alloc (w := w13) (.cells #[.bool false, .slice none 0 0, .bool false, .slice none 0 0] 41)
          have lcge := hBW.size
          replace hBW := hBW.trans (bb.mono hBW.size)
          replace kS11 := kS11.later bb
          replace kT11 := kT11.later bb
          replace kS12 := kS12.later bb
          replace kT12 := kT12.later bb
          clear bb
          have lc0 : (w13.alloc (.cells #[.bool false, .slice none 0 0, .bool false, .slice none 0 0] 41)).cell? ⟨w13.heap.size, 0, none⟩ = some (.bool false) := by go_simp
          have lc1 : (w13.alloc (.cells #[.bool false, .slice none 0 0, .bool false, .slice none 0 0] 41)).cell? ⟨w13.heap.size, 1, none⟩ = some (.slice none 0 0) := by go_simp
          have lc2 : (w13.alloc (.cells #[.bool false, .slice none 0 0, .bool false, .slice none 0 0] 41)).cell? ⟨w13.heap.size, 2, none⟩ = some (.bool false) := by go_simp
          have lc3 : (w13.alloc (.cells #[.bool false, .slice none 0 0, .bool false, .slice none 0 0] 41)).cell? ⟨w13.heap.size, 3, none⟩ = some (.slice none 0 0) := by go_simp
          have lcR : Row (w13.alloc (.cells #[.bool false, .slice none 0 0, .bool false, .slice none 0 0] 41)) w13.heap.size := row_new w13 _ 41
          clear hHeld
          generalize (w13.alloc (.cells #[.bool false, .slice none 0 0, .bool false, .slice none 0 0] 41)) = w134 at hBW lc0 lc1 lc2 lc3 lcR kS11 kT11 kS12 kT12 ⊢
          generalize w13.heap.size = c at lcge lc0 lc1 lc2 lc3 lcR ⊢
          refine hK.out _ _ (kp6 (W := W) hBW ⟨Qq00, Qq01, Qq02, Qq10, Qq11, Qq12, hB⟩) ?_
          intro hHeld
          clear hK K
          try simp only [Act.put, List.setIfInBounds_toArray, List.set_cons_zero, List.set_cons_succ]
          refine wpAnyH_ready (rs := [5]) (by kernel_rfl) (by simp) ?_
          refine consT rfl (fun K hK => ?_) ?_
          · skip
            go_simp
            have bb := below_alloc (w := w134) (.cells #[.bool false, .slice none 0 0, .bool false, .slice none 0 0] 41)
            have ldge := hBW.size
            have lab := lcR.lt
            replace hBW := hBW.trans (bb.mono hBW.size)
            replace kS11 := kS11.later bb
            replace kT11 := kT11.later bb
            replace kS12 := kS12.later bb
            replace kT12 := kT12.later bb
            replace lc0 := below_cell bb lc0
            replace lc1 := below_cell bb lc1
            replace lc2 := below_cell bb lc2
            replace lc3 := below_cell bb lc3
            replace lcR := below_row bb lcR
            clear bb
            have ld0 : (w134.alloc (.cells #[.bool false, .slice none 0 0, .bool false, .slice none 0 0] 41)).cell? ⟨w134.heap.size, 0, none⟩ = some (.bool false) := by go_simp
            have ld1 : (w134.alloc (.cells #[.bool false, .slice none 0 0, .bool false, .slice none 0 0] 41)).cell? ⟨w134.heap.size, 1, none⟩ = some (.slice none 0 0) := by go_simp
            have ld2 : (w134.alloc (.cells #[.bool false, .slice none 0 0, .bool false, .slice none 0 0] 41)).cell? ⟨w134.heap.size, 2, none⟩ = some (.bool false) := by go_simp
            have ld3 : (w134.alloc (.cells #[.bool false, .slice none 0 0, .bool false, .slice none 0 0] 41)).cell? ⟨w134.heap.size, 3, none⟩ = some (.slice none 0 0) := by go_simp
            have ldR : Row (w134.alloc (.cells #[.bool false, .slice none 0 0, .bool false, .slice none 0 0] 41)) w134.heap.size := row_new w134 _ 41
            clear hHeld
            generalize (w134.alloc (.cells #[.bool false, .slice none 0 0, .bool false, .slice none 0 0] 41)) = w1345 at hBW ld0 ld1 ld2 ld3 ldR lc0 lc1 lc2 lc3 lcR kS11 kT11 kS12 kT12 ⊢
            generalize w134.heap.size = d at ldge ld0 ld1 ld2 ld3 ldR lab ⊢
            refine hK.out _ _ (kp6 (W := W) hBW ⟨Qq00, Qq01, Qq02, Qq10, Qq11, Qq12, hB⟩) ?_
            intro hHeld
            clear hK K
            try simp only [Act.put, List.setIfInBounds_toArray, List.set_cons_zero, List.set_cons_succ]
            have lcd : c ≠ d := by omega
            clear lab
            refine wpAnyH_ready (rs := [6]) (by kernel_rfl) (by simp) ?_
            refine cons' rfl (fun K hK => ?_)
            have lf := fun o => lcR.frozen o
            have X := stored4 (u0 := .bool zs11) (u1 := .slice zp11 zn11 zc11) (u2 := .bool false) (u3 := .slice zq11 zm11 zd11) lc0 lc1 lc2 lc3 ld0 ld1 ld2 ld3 ldR hBW lcge lcd kS11 kT11 kS12 kT12
            go_simp
            clear lc0 lc1 lc2 lc3 ld0 ld1 ld2 ld3 lf lcR ldR hHeld hBW kS11 kT11 kS12 kT12
            generalize ((((w1345.setCell ⟨c, 0, none⟩ (.bool zs11)).setCell ⟨c, 1, none⟩ (.slice zp11 zn11 zc11)).setCell ⟨c, 2, none⟩ (.bool false)).setCell ⟨c, 3, none⟩ (.slice zq11 zm11 zd11)) = wl1 at X ⊢
            obtain ⟨lc0, lc1, lc2, lc3, ld0, ld1, ld2, ld3, ldR, hBW, kS11, kT11, kS12, kT12⟩ := X
            have lcR := ldR
            refine hK.out _ _ (kp6 (W := W) hBW ⟨Qq00, Qq01, Qq02, Qq10, Qq11, Qq12, hB⟩) ?_
            intro hHeld
            clear hK K
            try simp only [Act.put, List.setIfInBounds_toArray, List.set_cons_zero, List.set_cons_succ]
            refine wpAnyH_ready (rs := [7]) (by kernel_rfl) (by simp) ?_
            refine cons' rfl (fun K hK => ?_)
            have lf := fun o => ldR.frozen o
            have X := stored4 (u0 := .bool zs12) (u1 := .slice zp12 zn12 zc12) (u2 := .bool false) (u3 := .slice zq12 zm12 zd12) ld0 ld1 ld2 ld3 lc0 lc1 lc2 lc3 lcR hBW ldge lcd.symm kS11 kT11 kS12 kT12
            go_simp
            clear ld0 ld1 ld2 ld3 lc0 lc1 lc2 lc3 lf ldR lcR hHeld hBW kS11 kT11 kS12 kT12
            generalize ((((wl1.setCell ⟨d, 0, none⟩ (.bool zs12)).setCell ⟨d, 1, none⟩ (.slice zp12 zn12 zc12)).setCell ⟨d, 2, none⟩ (.bool false)).setCell ⟨d, 3, none⟩ (.slice zq12 zm12 zd12)) = wl2 at X ⊢
            obtain ⟨ld0, ld1, ld2, ld3, lc0, lc1, lc2, lc3, lcR, hBW, kS11, kT11, kS12, kT12⟩ := X
            have ldR := lcR
            refine hK.out _ _ (kp6 (W := W) hBW ⟨Qq00, Qq01, Qq02, Qq10, Qq11, Qq12, hB⟩) ?_
            intro hHeld
            clear hK K
            try simp only [Act.put, List.setIfInBounds_toArray, List.set_cons_zero, List.set_cons_succ]
            refine wpAnyH_done (by kernel_rfl) ?_ _
            go_wp2_with fail
            go_meet
            exact ⟨c, d, zs11, zp11, zn11, zc11, zX11, zq11, zm11, zd11, zs12, zp12, zn12, zc12, zX12, zq12, zm12, zd12, rfl, rfl, lcge, ldge, hBW, lc0, lc1, lc2, lc3, ld0, ld1, ld2, ld3, ga11, gb11, gc11, gd11, kS11, kT11, ge11, ga12, gb12, gc12, gd12, kS12, kT12, ge12⟩
          exact AllReadyH.nil
        refine consT rfl (fun K hK => ?_) ?_
        · skip
          go_simp
          have bb := below_alloc (w := w13) (.cells #[.bool false, .slice none 0 0, .bool false, .slice none 0 0] 41)
          have ldge := hBW.size
          replace hBW := hBW.trans (bb.mono hBW.size)
          replace kS11 := kS11.later bb
          replace kT11 := kT11.later bb
          replace kS12 := kS12.later bb
          replace kT12 := kT12.later bb
          clear bb
          have ld0 : (w13.alloc (.cells #[.bool false, .slice none 0 0, .bool false, .slice none 0 0] 41)).cell? ⟨w13.heap.size, 0, none⟩ = some (.bool false) := by go_simp
          have ld1 : (w13.alloc (.cells #[.bool false, .slice none 0 0, .bool false, .slice none 0 0] 41)).cell? ⟨w13.heap.size, 1, none⟩ = some (.slice none 0 0) := by go_simp
          have ld2 : (w13.alloc (.cells #[.bool false, .slice none 0 0, .bool false, .slice none 0 0] 41)).cell? ⟨w13.heap.size, 2, none⟩ = some (.bool false) := by go_simp
          have ld3 : (w13.alloc (.cells #[.bool false, .slice none 0 0, .bool false, .slice none 0 0] 41)).cell? ⟨w13.heap.size, 3, none⟩ = some (.slice none 0 0) := by go_simp
          have ldR : Row (w13.alloc (.cells #[.bool false, .slice none 0 0, .bool false, .slice none 0 0] 41)) w13.heap.size := row_new w13 _ 41
          clear hHeld
          generalize (w13.alloc (.cells #[.bool false, .slice none 0 0, .bool false, .slice none 0 0] 41)) = w135 at hBW ld0 ld1 ld2 ld3 ldR kS11 kT11 kS12 kT12 ⊢
          generalize w13.heap.size = d at ldge ld0 ld1 ld2 ld3 ldR ⊢
          refine hK.out _ _ (kp6 (W := W) hBW ⟨Qq00, Qq01, Qq02, Qq10, Qq11, Qq12, hB⟩) ?_
          intro hHeld
          clear hK K
          try simp only [Act.put, List.setIfInBounds_toArray, List.set_cons_zero, List.set_cons_succ]
          refine wpAnyH_ready (rs := [4]) (by kernel_rfl) (by simp) ?_
          refine consT rfl (fun K hK => ?_) ?_
          · skip
            go_simp
            have bb := below_alloc (w := w135) (.cells #[.bool false, .slice none 0 0, .bool false, .slice none 0 0] 41)
            have lcge := hBW.size
            have lab := ldR.lt
            replace hBW := hBW.trans (bb.mono hBW.size)
            replace kS11 := kS11.later bb
            replace kT11 := kT11.later bb
            replace kS12 := kS12.later bb
            replace kT12 := kT12.later bb
            replace ld0 := below_cell bb ld0
            replace ld1 := below_cell bb ld1
            replace ld2 := below_cell bb ld2
            replace ld3 := below_cell bb ld3
            replace ldR := below_row bb ldR
            clear bb
            have lc0 : (w135.alloc (.cells #[.bool false, .slice none 0 0, .bool false, .slice none 0 0] 41)).cell? ⟨w135.heap.size, 0, none⟩ = some (.bool false) := by go_simp
            have lc1 : (w135.alloc (.cells #[.bool false, .slice none 0 0, .bool false, .slice none 0 0] 41)).cell? ⟨w135.heap.size, 1, none⟩ = some (.slice none 0 0) := by go_simp
            have lc2 : (w135.alloc (.cells #[.bool false, .slice none 0 0, .bool false, .slice none 0 0] 41)).cell? ⟨w135.heap.size, 2, none⟩ = some (.bool false) := by go_simp
            have lc3 : (w135.alloc (.cells #[.bool false, .slice none 0 0, .bool false, .slice none 0 0] 41)).cell? ⟨w135.heap.size, 3, none⟩ = some (.slice none 0 0) := by go_simp
            have lcR : Row (w135.alloc (.cells #[.bool false, .slice none 0 0, .bool false, .slice none 0 0] 41)) w135.heap.size := row_new w135 _ 41
            clear hHeld
            generalize (w135.alloc (.cells #[.bool false, .slice none 0 0, .bool false, .slice none 0 0] 41)) = w1354 at hBW lc0 lc1 lc2 lc3 lcR ld0 ld1 ld2 ld3 ldR kS11 kT11 kS12 kT12 ⊢
            generalize w135.heap.size = c at lcge lc0 lc1 lc2 lc3 lcR lab ⊢
            refine hK.out _ _ (kp6 (W := W) hBW ⟨Qq00, Qq01, Qq02, Qq10, Qq11, Qq12, hB⟩) ?_
            intro hHeld
            clear hK K
            try simp only [Act.put, List.setIfInBounds_toArray, List.set_cons_zero, List.set_cons_succ]
            have lcd : c ≠ d := by omega
            clear lab
            refine wpAnyH_ready (rs := [6]) (by kernel_rfl) (by simp) ?_
            refine cons' rfl (fun K hK => ?_)
            have lf := fun o => lcR.frozen o
            have X := stored4 (u0 := .bool zs11) (u1 := .slice zp11 zn11 zc11) (u2 := .bool false) (u3 := .slice zq11 zm11 zd11) lc0 lc1 lc2 lc3 ld0 ld1 ld2 ld3 ldR hBW lcge lcd kS11 kT11 kS12 kT12
            go_simp
            clear lc0 lc1 lc2 lc3 ld0 ld1 ld2 ld3 lf lcR ldR hHeld hBW kS11 kT11 kS12 kT12
            generalize ((((w1354.setCell ⟨c, 0, none⟩ (.bool zs11)).setCell ⟨c, 1, none⟩ (.slice zp11 zn11 zc11)).setCell ⟨c, 2, none⟩ (.bool false)).setCell ⟨c, 3, none⟩ (.slice zq11 zm11 zd11)) = wl1 at X ⊢
            obtain ⟨lc0, lc1, lc2, lc3, ld0, ld1, ld2, ld3, ldR, hBW, kS11, kT11, kS12, kT12⟩ := X
            have lcR := ldR
            refine hK.out _ _ (kp6 (W := W) hBW ⟨Qq00, Qq01, Qq02, Qq10, Qq11, Qq12, hB⟩) ?_
            intro hHeld
            clear hK K
            try simp only [Act.put, List.setIfInBounds_toArray, List.set_cons_zero, List.set_cons_succ]
            refine wpAnyH_ready (rs := [7]) (by kernel_rfl) (by simp) ?_
            refine cons' rfl (fun K hK => ?_)
            have lf := fun o => ldR.frozen o
            have X := stored4 (u0 := .bool zs12) (u1 := .slice zp12 zn12 zc12) (u2 := .bool false) (u3 := .slice zq12 zm12 zd12) ld0 ld1 ld2 ld3 lc0 lc1 lc2 lc3 lcR hBW ldge lcd.symm kS11 kT11 kS12 kT12
            go_simp
            clear ld0 ld1 ld2 ld3 lc0 lc1 lc2 lc3 lf ldR lcR hHeld hBW kS11 kT11 kS12 kT12
            generalize ((((wl1.setCell ⟨d, 0, none⟩ (.bool zs12)).setCell ⟨d, 1, none⟩ (.slice zp12 zn12 zc12)).setCell ⟨d, 2, none⟩ (.bool false)).setCell ⟨d, 3, none⟩ (.slice zq12 zm12 zd12)) = wl2 at X ⊢
            obtain ⟨ld0, ld1, ld2, ld3, lc0, lc1, lc2, lc3, lcR, hBW, kS11, kT11, kS12, kT12⟩ := X
            have ldR := lcR
            refine hK.out _ _ (kp6 (W := W) hBW ⟨Qq00, Qq01, Qq02, Qq10, Qq11, Qq12, hB⟩) ?_
            intro hHeld
            clear hK K
            try simp only [Act.put, List.setIfInBounds_toArray, List.set_cons_zero, List.set_cons_succ]
            refine wpAnyH_done (by kernel_rfl) ?_ _
            go_wp2_with fail
            go_meet
            exact ⟨c, d, zs11, zp11, zn11, zc11, zX11, zq11, zm11, zd11, zs12, zp12, zn12, zc12, zX12, zq12, zm12, zd12, rfl, rfl, lcge, ldge, hBW, lc0, lc1, lc2, lc3, ld0, ld1, ld2, ld3, ga11, gb11, gc11, gd11, kS11, kT11, ge11, ga12, gb12, gc12, gd12, kS12, kT12, ge12⟩
          exact AllReadyH.nil
        exact AllReadyH.nil
      refine consT rfl (fun K hK => ?_) ?_
      · skip
        go_simp
        have bb := below_alloc (w := w1) (.cells #[.bool false, .slice none 0 0, .bool false, .slice none 0 0] 41)
        have lcge := hBW.size
        replace hBW := hBW.trans (bb.mono hBW.size)
        replace kS11 := kS11.later bb
        replace kT11 := kT11.later bb
        clear bb
        have lc0 : (w1.alloc (.cells #[.bool false, .slice none 0 0, .bool false, .slice none 0 0] 41)).cell? ⟨w1.heap.size, 0, none⟩ = some (.bool false) := by go_simp
        have lc1 : (w1.alloc (.cells #[.bool false, .slice none 0 0, .bool false, .slice none 0 0] 41)).cell? ⟨w1.heap.size, 1, none⟩ = some (.slice none 0 0) := by go_simp
        have lc2 : (w1.alloc (.cells #[.bool false, .slice none 0 0, .bool false, .slice none 0 0] 41)).cell? ⟨w1.heap.size, 2, none⟩ = some (.bool false) := by go_simp
        have lc3 : (w1.alloc (.cells #[.bool false, .slice none 0 0, .bool false, .slice none 0 0] 41)).cell? ⟨w1.heap.size, 3, none⟩ = some (.slice none 0 0) := by go_simp
        have lcR : Row (w1.alloc (.cells #[.bool false, .slice none 0 0, .bool false, .slice none 0 0] 41)) w1.heap.size := row_new w1 _ 41
        clear hHeld
        generalize (w1.alloc (.cells #[.bool false, .slice none 0 0, .bool false, .slice none 0 0] 41)) = w14 at hBW lc0 lc1 lc2 lc3 lcR kS11 kT11 ⊢
        generalize w1.heap.size = c at lcge lc0 lc1 lc2 lc3 lcR ⊢
        refine hK.out _ _ (kp6 (W := W) hBW ⟨Qq00, Qq01, Qq02, Qq10, Qq11, Qq12, hB⟩) ?_
        intro hHeld
        clear hK K
        try simp only [Act.put, List.setIfInBounds_toArray, List.set_cons_zero, List.set_cons_succ]
        refine wpAnyH_ready (rs := [3, 5]) (by kernel_rfl) (by simp) ?_
        refine consT rfl (fun K hK => ?_) ?_
        · skip
          go_simp
          refine Calls.mono (HR1.out _ (sb hS1 hB hBW) (sb hT1 hB hBW)) ?_
          rintro e w143 ⟨zs12, zp12, zn12, zc12, zX12, zq12, zm12, zd12, rfl, ga12, gb12, gc12, gd12, kS12, kT12, ge12, bb12⟩
          replace hBW := hBW.trans (bb12.mono hBW.size)
          replace kS11 := kS11.later bb12
          replace kT11 := kT11.later bb12
          replace lc0 := below_cell bb12 lc0
          replace lc1 := below_cell bb12 lc1
          replace lc2 := below_cell bb12 lc2
          replace lc3 := below_cell bb12 lc3
          replace lcR := below_row bb12 lcR
          clear bb12
          go_wp2_with fail
          refine hK.out _ _ (kp6 (W := W) hBW ⟨Qq00, Qq01, Qq02, Qq10, Qq11, Qq12, hB⟩) ?_
          clear hHeld
          intro hHeld
          clear hK K
          try simp only [Act.put, List.setIfInBounds_toArray, List.set_cons_zero, List.set_cons_succ]
          refine wpAnyH_ready (rs := [5]) (by kernel_rfl) (by simp) ?_
          refine consT rfl (fun K hK => ?_) ?_
          · skip
            go_simp
            have bb := below_alloc (w := w143) (.cells #[.bool false, .slice none 0 0, .bool false, .slice none 0 0] 41)
            have ldge := hBW.size
            have lab := lcR.lt
            replace hBW := hBW.trans (bb.mono hBW.size)
            replace kS11 := kS11.later bb
            replace kT11 := kT11.later bb
            replace kS12 := kS12.later bb
            replace kT12 := kT12.later bb
            replace lc0 := below_cell bb lc0
            replace lc1 := below_cell bb lc1
            replace lc2 := below_cell bb lc2
            replace lc3 := below_cell bb lc3
            replace lcR := below_row bb lcR
            clear bb
            have ld0 : (w143.alloc (.cells #[.bool false, .slice none 0 0, .bool false, .slice none 0 0] 41)).cell? ⟨w143.heap.size, 0, none⟩ = some (.bool false) := by go_simp
            have ld1 : (w143.alloc (.cells #[.bool false, .slice none 0 0, .bool false, .slice none 0 0] 41)).cell? ⟨w143.heap.size, 1, none⟩ = some (.slice none 0 0) := by go_simp
            have ld2 : (w143.alloc (.cells #[.bool false, .slice none 0 0, .bool false, .slice none 0 0] 41)).cell? ⟨w143.heap.size, 2, none⟩ = some (.bool false) := by go_simp
            have ld3 : (w143.alloc (.cells #[.bool false, .slice none 0 0, .bool false, .slice none 0 0] 41)).cell? ⟨w143.heap.size, 3, none⟩ = some (.slice none 0 0) := by go_simp
            have ldR : Row (w143.alloc (.cells #[.bool false, .slice none 0 0, .bool false, .slice none 0 0] 41)) w143.heap.size := row_new w143 _ 41
            clear hHeld
            generalize (w143.alloc (.cells #[.bool false, .slice none 0 0, .bool false, .slice none 0 0] 41)) = w1435 at hBW ld0 ld1 ld2 ld3 ldR lc0 lc1 lc2 lc3 lcR kS11 kT11 kS12 kT12 ⊢
            generalize w143.heap.size = d at ldge ld0 ld1 ld2 ld3 ldR lab ⊢
            refine hK.out _ _ (kp6 (W := W) hBW ⟨Qq00, Qq01, Qq02, Qq10, Qq11, Qq12, hB⟩) ?_
            intro hHeld
            clear hK K
            try simp only [Act.put, List.setIfInBounds_toArray, List.set_cons_zero, List.set_cons_succ]
            have lcd : c ≠ d := by omega
            clear lab
            refine wpAnyH_ready (rs := [6]) (by kernel_rfl) (by simp) ?_
            refine cons' rfl (fun K hK => ?_)
            have lf := fun o => lcR.frozen o
            have X := stored4 (u0 := .bool zs11) (u1 := .slice zp11 zn11 zc11) (u2 := .bool false) (u3 := .slice zq11 zm11 zd11) lc0 lc1 lc2 lc3 ld0 ld1 ld2 ld3 ldR hBW lcge lcd kS11 kT11 kS12 kT12
            go_simp
            clear lc0 lc1 lc2 lc3 ld0 ld1 ld2 ld3 lf lcR ldR hHeld hBW kS11 kT11 kS12 kT12
            generalize ((((w1435.setCell ⟨c, 0, none⟩ (.bool zs11)).setCell ⟨c, 1, none⟩ (.slice zp11 zn11 zc11)).setCell ⟨c, 2, none⟩ (.bool false)).setCell ⟨c, 3, none⟩ (.slice zq11 zm11 zd11)) = wl1 at X ⊢
            obtain ⟨lc0, lc1, lc2, lc3, ld0, ld1, ld2, ld3, ldR, hBW, kS11, kT11, kS12, kT12⟩ := X
            have lcR := ldR
            refine hK.out _ _ (kp6 (W := W) hBW ⟨Qq00, Qq01, Qq02, Qq10, Qq11, Qq12, hB⟩) ?_
            intro hHeld
            clear hK K
            try simp only [Act.put, List.setIfInBounds_toArray, List.set_cons_zero, List.set_cons_succ]
            refine wpAnyH_ready (rs := [7]) (by kernel_rfl) (by simp) ?_
            refine cons' rfl (fun K hK => ?_)
            have lf := fun o => ldR.frozen o
            have X := stored4 (u0 := .bool zs12) (u1 := .slice zp12 zn12 zc12) (u2 := .bool false) (u3 := .slice zq12 zm12 zd12) ld0 ld1 ld2 ld3 lc0 lc1 lc2 lc3 lcR hBW ldge lcd.symm kS11 kT11 kS12 kT12
            go_simp
            clear ld0 ld1 ld2 ld3 lc0 lc1 lc2 lc3 lf ldR lcR hHeld hBW kS11 kT11 kS12 kT12
            generalize ((((wl1.setCell ⟨d, 0, none⟩ (.bool zs12)).setCell ⟨d, 1, none⟩ (.slice zp12 zn12 zc12)).setCell ⟨d, 2, none⟩ (.bool false)).setCell ⟨d, 3, none⟩ (.slice zq12 zm12 zd12)) = wl2 at X ⊢
            obtain ⟨ld0, ld1, ld2, ld3, lc0, lc1, lc2, lc3, lcR, hBW, kS11, kT11, kS12, kT12⟩ := X
            have ldR := lcR
            refine hK.out _ _ (kp6 (W := W) hBW ⟨Qq00, Qq01, Qq02, Qq10, Qq11, Qq12, hB⟩) ?_
            intro hHeld
            clear hK K
            try simp only [Act.put, List.setIfInBounds_toArray, List.set_cons_zero, List.set_cons_succ]
            refine wpAnyH_done (by kernel_rfl) ?_ _
            go_wp2_with fail
            go_meet
            exact ⟨c, d, zs11, zp11, zn11, zc11, zX11, zq11, zm11, zd11, zs12, zp12, zn12, zc12, zX12, zq12, zm12, zd12, rfl, rfl, lcge, ldge, hBW, lc0, lc1, lc2, lc3, ld0, ld1, ld2, ld3, ga11, gb11, gc11, gd11, kS11, kT11, ge11, ga12, gb12, gc12, gd12, kS12, kT12, ge12⟩
          exact AllReadyH.nil
        refine consT rfl (fun K hK => ?_) ?_
        · skip
          go_simp
          have bb := below_alloc (w := w14) (.cells #[.bool false, .slice none 0 0, .bool false, .slice none 0 0] 41)
          have ldge := hBW.size
          have lab := lcR.lt
          replace hBW := hBW.trans (bb.mono hBW.size)
          replace kS11 := kS11.later bb
          replace kT11 := kT11.later bb
          replace lc0 := below_cell bb lc0
          replace lc1 := below_cell bb lc1
          replace lc2 := below_cell bb lc2
          replace lc3 := below_cell bb lc3
          replace lcR := below_row bb lcR
          clear bb
          have ld0 : (w14.alloc (.cells #[.bool false, .slice none 0 0, .bool false, .slice none 0 0] 41)).cell? ⟨w14.heap.size, 0, none⟩ = some (.bool false) := by go_simp
          have ld1 : (w14.alloc (.cells #[.bool false, .slice none 0 0, .bool false, .slice none 0 0] 41)).cell? ⟨w14.heap.size, 1, none⟩ = some (.slice none 0 0) := by go_simp
          have ld2 : (w14.alloc (.cells #[.bool false, .slice none 0 0, .bool false, .slice none 0 0] 41)).cell? ⟨w14.heap.size, 2, none⟩ = some (.bool false) := by go_simp
          have ld3 : (w14.alloc (.cells #[.bool false, .slice none 0 0, .bool false, .slice none 0 0] 41)).cell? ⟨w14.heap.size, 3, none⟩ = some (.slice none 0 0) := by go_simp
          have ldR : Row (w14.alloc (.cells #[.bool false, .slice none 0 0, .bool false, .slice none 0 0] 41)) w14.heap.size := row_new w14 _ 41
          clear hHeld
          generalize (w14.alloc (.cells #[.bool false, .slice none 0 0, .bool false, .slice none 0 0] 41)) = w145 at hBW ld0 ld1 ld2 ld3 ldR lc0 lc1 lc2 lc3 lcR kS11 kT11 ⊢
          generalize w14.heap.size = d at ldge ld0 ld1 ld2 ld3 ldR lab ⊢
          refine hK.out _ _ (kp6 (W := W) hBW ⟨Qq00, Qq01, Qq02, Qq10, Qq11, Qq12, hB⟩) ?_
          intro hHeld
          clear hK K
          try simp only [Act.put, List.setIfInBounds_toArray, List.set_cons_zero, List.set_cons_succ]
          refine wpAnyH_ready (rs := [3]) (by kernel_rfl) (by simp) ?_
          refine consT rfl (fun K hK => ?_) ?_
          · skip
            go_simp
            refine Calls.mono (HR1.out _ (sb hS1 hB hBW) (sb hT1 hB hBW)) ?_
            rintro e w1453 ⟨zs12, zp12, zn12, zc12, zX12, zq12, zm12, zd12, rfl, ga12, gb12, gc12, gd12, kS12, kT12, ge12, bb12⟩
            replace hBW := hBW.trans (bb12.mono hBW.size)
            replace kS11 := kS11.later bb12
            replace kT11 := kT11.later bb12
            replace lc0 := below_cell bb12 lc0
            replace lc1 := below_cell bb12 lc1
            replace lc2 := below_cell bb12 lc2
            replace lc3 := below_cell bb12 lc3
            replace lcR := below_row bb12 lcR
            replace ld0 := below_cell bb12 ld0
            replace ld1 := below_cell bb12 ld1
            replace ld2 := below_cell bb12 ld2
            replace ld3 := below_cell bb12 ld3
            replace ldR := below_row bb12 ldR
            clear bb12
            go_wp2_with fail
            refine hK.out _ _ (kp6 (W := W) hBW ⟨Qq00, Qq01, Qq02, Qq10, Qq11, Qq12, hB⟩) ?_
            clear hHeld
            intro hHeld
            clear hK K
            try simp only [Act.put, List.setIfInBounds_toArray, List.set_cons_zero, List.set_cons_succ]
            have lcd : c ≠ d := by omega
            clear lab
            refine wpAnyH_ready (rs := [6]) (by kernel_rfl) (by simp) ?_
            refine cons' rfl (fun K hK => ?_)
            have lf := fun o => lcR.frozen o
            have X := stored4 (u0 := .bool zs11) (u1 := .slice zp11 zn11 zc11) (u2 := .bool false) (u3 := .slice zq11 zm11 zd11) lc0 lc1 lc2 lc3 ld0 ld1 ld2 ld3 ldR hBW lcge lcd kS11 kT11 kS12 kT12
            go_simp
            clear lc0 lc1 lc2 lc3 ld0 ld1 ld2 ld3 lf lcR ldR hHeld hBW kS11 kT11 kS12 kT12
            generalize ((((w1453.setCell ⟨c, 0, none⟩ (.bool zs11)).setCell ⟨c, 1, none⟩ (.slice zp11 zn11 zc11)).setCell ⟨c, 2, none⟩ (.bool false)).setCell ⟨c, 3, none⟩ (.slice zq11 zm11 zd11)) = wl1 at X ⊢
            obtain ⟨lc0, lc1, lc2, lc3, ld0, ld1, ld2, ld3, ldR, hBW, kS11, kT11, kS12, kT12⟩ := X
            have lcR := ldR
            refine hK.out _ _ (kp6 (W := W) hBW ⟨Qq00, Qq01, Qq02, Qq10, Qq11, Qq12, hB⟩) ?_
            intro hHeld
            clear hK K
            try simp only [Act.put, List.setIfInBounds_toArray, List.set_cons_zero, List.set_cons_succ]
            refine wpAnyH_ready (rs := [7]) (by kernel_rfl) (by simp) ?_
            refine cons' rfl (fun K hK => ?_)
            have lf := fun o => ldR.frozen o
            have X := stored4 (u0 := .bool zs12) (u1 := .slice zp12 zn12 zc12) (u2 := .bool false) (u3 := .slice zq12 zm12 zd12) ld0 ld1 ld2 ld3 lc0 lc1 lc2 lc3 lcR hBW ldge lcd.symm kS11 kT11 kS12 kT12
            go_simp
            clear ld0 ld1 ld2 ld3 lc0 lc1 lc2 lc3 lf ldR lcR hHeld hBW kS11 kT11 kS12 kT12
            generalize ((((wl1.setCell ⟨d, 0, none⟩ (.bool zs12)).setCell ⟨d, 1, none⟩ (.slice zp12 zn12 zc12)).setCell ⟨d, 2, none⟩ (.bool false)).setCell ⟨d, 3, none⟩ (.slice zq12 zm12 zd12)) = wl2 at X ⊢
            obtain ⟨ld0, ld1, ld2, ld3, lc0, lc1, lc2, lc3, lcR, hBW, kS11, kT11, kS12, kT12⟩ := X
            have ldR := lcR
            refine hK.out _ _ (kp6 (W := W) hBW ⟨Qq00, Qq01, Qq02, Qq10, Qq11, Qq12, hB⟩) ?_
            intro hHeld
            clear hK K
            try simp only [Act.put, List.setIfInBounds_toArray, List.set_cons_zero, List.set_cons_succ]
            refine wpAnyH_done (by kernel_rfl) ?_ _
            go_wp2_with fail
            go_meet
            exact ⟨c, d, zs11, zp11, zn11, zc11, zX11, zq11, zm11, zd11, zs12, zp12, zn12, zc12, zX12, zq12, zm12, zd12, rfl, rfl, lcge, ldge, hBW, lc0, lc1, lc2, lc3, ld0, ld1, ld2, ld3, ga11, gb11, gc11, gd11, kS11, kT11, ge11, ga12, gb12, gc12, gd12, kS12, kT12, ge12⟩
          exact AllReadyH.nil
        exact AllReadyH.nil
      refine consT rfl (fun K hK => ?_) ?_
      · skip
        go_simp
        have bb := below_alloc (w := w1) (.cells #[.bool false, .slice none 0 0, .bool false, .slice none 0 0] 41)
        have ldge := hBW.size
        replace hBW := hBW.trans (bb.mono hBW.size)
        replace kS11 := kS11.later bb
        replace kT11 := kT11.later bb
        clear bb
        have ld0 : (w1.alloc (.cells #[.bool false, .slice none 0 0, .bool false, .slice none 0 0] 41)).cell? ⟨w1.heap.size, 0, none⟩ = some (.bool false) := by go_simp
        have ld1 : (w1.alloc (.cells #[.bool false, .slice none 0 0, .bool false, .slice none 0 0] 41)).cell? ⟨w1.heap.size, 1, none⟩ = some (.slice none 0 0) := by go_simp
        have ld2 : (w1.alloc (.cells #[.bool false, .slice none 0 0, .bool false, .slice none 0 0] 41)).cell? ⟨w1.heap.size, 2, none⟩ = some (.bool false) := by go_simp
        have ld3 : (w1.alloc (.cells #[.bool false, .slice none 0 0, .bool false, .slice none 0 0] 41)).cell? ⟨w1.heap.size, 3, none⟩ = some (.slice none 0 0) := by go_simp
        have ldR : Row (w1.alloc (.cells #[.bool false, .slice none 0 0, .bool false, .slice none 0 0] 41)) w1.heap.size := row_new w1 _ 41
        clear hHeld
        generalize (w1.alloc (.cells #[.bool false, .slice none 0 0, .bool false, .slice none 0 0] 41)) = w15 at hBW ld0 ld1 ld2 ld3 ldR kS11 kT11 ⊢
        generalize w1.heap.size = d at ldge ld0 ld1 ld2 ld3 ldR ⊢
        refine hK.out _ _ (kp6 (W := W) hBW ⟨Qq00, Qq01, Qq02, Qq10, Qq11, Qq12, hB⟩) ?_
        intro hHeld
        clear hK K
        try simp only [Act.put, List.setIfInBounds_toArray, List.set_cons_zero, List.set_cons_succ]
        refine wpAnyH_ready (rs := [3, 4]) (by kernel_rfl) (by simp) ?_
        refine consT rfl (fun K hK => ?_) ?_
        · skip
          go_simp
          refine Calls.mono (HR1.out _ (sb hS1 hB hBW) (sb hT1 hB hBW)) ?_
          rintro e w153 ⟨zs12, zp12, zn12, zc12, zX12, zq12, zm12, zd12, rfl, ga12, gb12, gc12, gd12, kS12, kT12, ge12, bb12⟩
          replace hBW := hBW.trans (bb12.mono hBW.size)
          replace kS11 := kS11.later bb12
          replace kT11 := kT11.later bb12
          replace ld0 := below_cell bb12 ld0
          replace ld1 := below_cell bb12 ld1
          replace ld2 := below_cell bb12 ld2
          replace ld3 := below_cell bb12 ld3
          replace ldR := below_row bb12 ldR
          clear bb12
          go_wp2_with fail
          refine hK.out _ _ (kp6 (W := W) hBW ⟨Qq00, Qq01, Qq02, Qq10, Qq11, Qq12, hB⟩) ?_
          clear hHeld
          intro hHeld
          clear hK K
          try simp only [Act.put, List.setIfInBounds_toArray, List.set_cons_zero, List.set_cons_succ]
          refine wpAnyH_ready (rs := [4]) (by kernel_rfl) (by simp) ?_
          refine consT rfl (fun K hK => ?_) ?_
          · skip
            go_simp
            have bb := below_alloc (w := w153) (.cells #[.bool false, .slice none 0 0, .bool false, .slice none 0 0] 41)
            have lcge := hBW.size
            have lab := ldR.lt
            replace hBW := hBW.trans (bb.mono hBW.size)
            replace kS11 := kS11.later bb
            replace kT11 := kT11.later bb
            replace kS12 := kS12.later bb
            replace kT12 := kT12.later bb
            replace ld0 := below_cell bb ld0
            replace ld1 := below_cell bb ld1
            replace ld2 := below_cell bb ld2
            replace ld3 := below_cell bb ld3
            replace ldR := below_row bb ldR
            clear bb
            have lc0 : (w153.alloc (.cells #[.bool false, .slice none 0 0, .bool false, .slice none 0 0] 41)).cell? ⟨w153.heap.size, 0, none⟩ = some (.bool false) := by go_simp
            have lc1 : (w153.alloc (.cells #[.bool false, .slice none 0 0, .bool false, .slice none 0 0] 41)).cell? ⟨w153.heap.size, 1, none⟩ = some (.slice none 0 0) := by go_simp
            have lc2 : (w153.alloc (.cells #[.bool false, .slice none 0 0, .bool false, .slice none 0 0] 41)).cell? ⟨w153.heap.size, 2, none⟩ = some (.bool false) := by go_simp
            have lc3 : (w153.alloc (.cells #[.bool false, .slice none 0 0, .bool false, .slice none 0 0] 41)).cell? ⟨w153.heap.size, 3, none⟩ = some (.slice none 0 0) := by go_simp
            have lcR : Row (w153.alloc (.cells #[.bool false, .slice none 0 0, .bool false, .slice none 0 0] 41)) w153.heap.size := row_new w153 _ 41
            clear hHeld
            generalize (w153.alloc (.cells #[.bool false, .slice none 0 0, .bool false, .slice none 0 0] 41)) = w1534 at hBW lc0 lc1 lc2 lc3 lcR ld0 ld1 ld2 ld3 ldR kS11 kT11 kS12 kT12 ⊢
            generalize w153.heap.size = c at lcge lc0 lc1 lc2 lc3 lcR lab ⊢
            refine hK.out _ _ (kp6 (W := W) hBW ⟨Qq00, Qq01, Qq02, Qq10, Qq11, Qq12, hB⟩) ?_
            intro hHeld
            clear hK K
            try simp only [Act.put, List.setIfInBounds_toArray, List.set_cons_zero, List.set_cons_succ]
            have lcd : c ≠ d := by omega
            clear lab
            refine wpAnyH_ready (rs := [6]) (by kernel_rfl) (by simp) ?_
            refine cons' rfl (fun K hK => ?_)
            have lf := fun o => lcR.frozen o
            have X := stored4 (u0 := .bool zs11) (u1 := .slice zp11 zn11 zc11) (u2 := .bool false) (u3 := .slice zq11 zm11 zd11) lc0 lc1 lc2 lc3 ld0 ld1 ld2 ld3 ldR hBW lcge lcd kS11 kT11 kS12 kT12
            go_simp
            clear lc0 lc1 lc2 lc3 ld0 ld1 ld2 ld3 lf lcR ldR hHeld hBW kS11 kT11 kS12 kT12
            generalize ((((w1534.setCell ⟨c, 0, none⟩ (.bool zs11)).setCell ⟨c, 1, none⟩ (.slice zp11 zn11 zc11)).setCell ⟨c, 2, none⟩ (.bool false)).setCell ⟨c, 3, none⟩ (.slice zq11 zm11 zd11)) = wl1 at X ⊢
            obtain ⟨lc0, lc1, lc2, lc3, ld0, ld1, ld2, ld3, ldR, hBW, kS11, kT11, kS12, kT12⟩ := X
            have lcR := ldR
            refine hK.out _ _ (kp6 (W := W) hBW ⟨Qq00, Qq01, Qq02, Qq10, Qq11, Qq12, hB⟩) ?_
            intro hHeld
            clear hK K
            try simp only [Act.put, List.setIfInBounds_toArray, List.set_cons_zero, List.set_cons_succ]
            refine wpAnyH_ready (rs := [7]) (by kernel_rfl) (by simp) ?_
            refine cons' rfl (fun K hK => ?_)
            have lf := fun o => ldR.frozen o
            have X := stored4 (u0 := .bool zs12) (u1 := .slice zp12 zn12 zc12) (u2 := .bool false) (u3 := .slice zq12 zm12 zd12) ld0 ld1 ld2 ld3 lc0 lc1 lc2 lc3 lcR hBW ldge lcd.symm kS11 kT11 kS12 kT12
            go_simp
            clear ld0 ld1 ld2 ld3 lc0 lc1 lc2 lc3 lf ldR lcR hHeld hBW kS11 kT11 kS12 kT12
            generalize ((((wl1.setCell ⟨d, 0, none⟩ (.bool zs12)).setCell ⟨d, 1, none⟩ (.slice zp12 zn12 zc12)).setCell ⟨d, 2, none⟩ (.bool false)).setCell ⟨d, 3, none⟩ (.slice zq12 zm12 zd12)) = wl2 at X ⊢
            obtain ⟨ld0, ld1, ld2, ld3, lc0, lc1, lc2, lc3, lcR, hBW, kS11, kT11, kS12, kT12⟩ := X
            have ldR := lcR
            refine hK.out _ _ (kp6 (W := W) hBW ⟨Qq00, Qq01, Qq02, Qq10, Qq11, Qq12, hB⟩) ?_
            intro hHeld
            clear hK K
            try simp only [Act.put, List.setIfInBounds_toArray, List.set_cons_zero, List.set_cons_succ]
            refine wpAnyH_done (by kernel_rfl) ?_ _
            go_wp2_with fail
            go_meet
            exact ⟨c, d, zs11, zp11, zn11, zc11, zX11, zq11, zm11, zd11, zs12, zp12, zn12, zc12, zX12, zq12, zm12, zd12, rfl, rfl, lcge, ldge, hBW, lc0, lc1, lc2, lc3, ld0, ld1, ld2, ld3, ga11, gb11, gc11, gd11, kS11, kT11, ge11, ga12, gb12, gc12, gd12, kS12, kT12, ge12⟩
          exact AllReadyH.nil
        refine consT rfl (fun K hK => ?_) ?_
        · skip
          go_simp
          have bb := below_alloc (w := w15) (.cells #[.bool false, .slice none 0 0, .bool false, .slice none 0 0] 41)
          have lcge := hBW.size
          have lab := ldR.lt
          replace hBW := hBW.trans (bb.mono hBW.size)
          replace kS11 := kS11.later bb
          replace kT11 := kT11.later bb
          replace ld0 := below_cell bb ld0
          replace ld1 := below_cell bb ld1
          replace ld2 := below_cell bb ld2
          replace ld3 := below_cell bb ld3
          replace ldR := below_row bb ldR
          clear bb
          have lc0 : (w15.alloc (.cells #[.bool false, .slice none 0 0, .bool false, .slice none 0 0] 41)).cell? ⟨w15.heap.size, 0, none⟩ = some (.bool false) := by go_simp
          have lc1 : (w15.alloc (.cells #[.bool false, .slice none 0 0, .bool false, .slice none 0 0] 41)).cell? ⟨w15.heap.size, 1, none⟩ = some (.slice none 0 0) := by go_simp
          have lc2 : (w15.alloc (.cells #[.bool false, .slice none 0 0, .bool false, .slice none 0 0] 41)).cell? ⟨w15.heap.size, 2, none⟩ = some (.bool false) := by go_simp
          have lc3 : (w15.alloc (.cells #[.bool false, .slice none 0 0, .bool false, .slice none 0 0] 41)).cell? ⟨w15.heap.size, 3, none⟩ = some (.slice none 0 0) := by go_simp
          have lcR : Row (w15.alloc (.cells #[.bool false, .slice none 0 0, .bool false, .slice none 0 0] 41)) w15.heap.size := row_new w15 _ 41
          clear hHeld
          generalize (w15.alloc (.cells #[.bool false, .slice none 0 0, .bool false, .slice none 0 0] 41)) = w154 at hBW lc0 lc1 lc2 lc3 lcR ld0 ld1 ld2 ld3 ldR kS11 kT11 ⊢
          generalize w15.heap.size = c at lcge lc0 lc1 lc2 lc3 lcR lab ⊢
          refine hK.out _ _ (kp6 (W := W) hBW ⟨Qq00, Qq01, Qq02, Qq10, Qq11, Qq12, hB⟩) ?_
          intro hHeld
          clear hK K
          try simp only [Act.put, List.setIfInBounds_toArray, List.set_cons_zero, List.set_cons_succ]
          refine wpAnyH_ready (rs := [3]) (by kernel_rfl) (by simp) ?_
          refine consT rfl (fun K hK => ?_) ?_
          · skip
            go_simp
            refine Calls.mono (HR1.out _ (sb hS1 hB hBW) (sb hT1 hB hBW)) ?_
            rintro e w1543 ⟨zs12, zp12, zn12, zc12, zX12, zq12, zm12, zd12, rfl, ga12, gb12, gc12, gd12, kS12, kT12, ge12, bb12⟩
            replace hBW := hBW.trans (bb12.mono hBW.size)
            replace kS11 := kS11.later bb12
            replace kT11 := kT11.later bb12
            replace lc0 := below_cell bb12 lc0
            replace lc1 := below_cell bb12 lc1
            replace lc2 := below_cell bb12 lc2
            replace lc3 := below_cell bb12 lc3
            replace lcR := below_row bb12 lcR
            replace ld0 := below_cell bb12 ld0
            replace ld1 := below_cell bb12 ld1
            replace ld2 := below_cell bb12 ld2
            replace ld3 := below_cell bb12 ld3
            replace ldR := below_row bb12 ldR
            clear bb12
            go_wp2_with fail
            refine hK.out _ _ (kp6 (W := W) hBW ⟨Qq00, Qq01, Qq02, Qq10, Qq11, Qq12, hB⟩) ?_
            clear hHeld
            intro hHeld
            clear hK K
            try simp only [Act.put, List.setIfInBounds_toArray, List.set_cons_zero, List.set_cons_succ]
            have lcd : c ≠ d := by omega
            clear lab
            refine wpAnyH_ready (rs := [6]) (by kernel_rfl) (by simp) ?_
            refine cons' rfl (fun K hK => ?_)
            have lf := fun o => lcR.frozen o
            have X := stored4 (u0 := .bool zs11) (u1 := .slice zp11 zn11 zc11) (u2 := .bool false) (u3 := .slice zq11 zm11 zd11) lc0 lc1 lc2 lc3 ld0 ld1 ld2 ld3 ldR hBW lcge lcd kS11 kT11 kS12 kT12
            go_simp
            clear lc0 lc1 lc2 lc3 ld0 ld1 ld2 ld3 lf lcR ldR hHeld hBW kS11 kT11 kS12 kT12
            generalize ((((w1543.setCell ⟨c, 0, none⟩ (.bool zs11)).setCell ⟨c, 1, none⟩ (.slice zp11 zn11 zc11)).setCell ⟨c, 2, none⟩ (.bool false)).setCell ⟨c, 3, none⟩ (.slice zq11 zm11 zd11)) = wl1 at X ⊢
            obtain ⟨lc0, lc1, lc2, lc3, ld0, ld1, ld2, ld3, ldR, hBW, kS11, kT11, kS12, kT12⟩ := X
            have lcR := ldR
            refine hK.out _ _ (kp6 (W := W) hBW ⟨Qq00, Qq01, Qq02, Qq10, Qq11, Qq12, hB⟩) ?_
            intro hHeld
            clear hK K
            try simp only [Act.put, List.setIfInBounds_toArray, List.set_cons_zero, List.set_cons_succ]
            refine wpAnyH_ready (rs := [7]) (by kernel_rfl) (by simp) ?_
            refine cons' rfl (fun K hK => ?_)
            have lf := fun o => ldR.frozen o
            have X := stored4 (u0 := .bool zs12) (u1 := .slice zp12 zn12 zc12) (u2 := .bool false) (u3 := .slice zq12 zm12 zd12) ld0 ld1 ld2 ld3 lc0 lc1 lc2 lc3 lcR hBW ldge lcd.symm kS11 kT11 kS12 kT12
            go_simp
            clear ld0 ld1 ld2 ld3 lc0 lc1 lc2 lc3 lf ldR lcR hHeld hBW kS11 kT11 kS12 kT12
            generalize ((((wl1.setCell ⟨d, 0, none⟩ (.bool zs12)).setCell ⟨d, 1, none⟩ (.slice zp12 zn12 zc12)).setCell ⟨d, 2, none⟩ (.bool false)).setCell ⟨d, 3, none⟩ (.slice zq12 zm12 zd12)) = wl2 at X ⊢
            obtain ⟨ld0, ld1, ld2, ld3, lc0, lc1, lc2, lc3, lcR, hBW, kS11, kT11, kS12, kT12⟩ := X
            have ldR := lcR
            refine hK.out _ _ (kp6 (W := W) hBW ⟨Qq00, Qq01, Qq02, Qq10, Qq11, Qq12, hB⟩) ?_
            intro hHeld
            clear hK K
            try simp only [Act.put, List.setIfInBounds_toArray, List.set_cons_zero, List.set_cons_succ]
            refine wpAnyH_done (by kernel_rfl) ?_ _
            go_wp2_with fail
            go_meet
            exact ⟨c, d, zs11, zp11, zn11, zc11, zX11, zq11, zm11, zd11, zs12, zp12, zn12, zc12, zX12, zq12, zm12, zd12, rfl, rfl, lcge, ldge, hBW, lc0, lc1, lc2, lc3, ld0, ld1, ld2, ld3, ga11, gb11, gc11, gd11, kS11, kT11, ge11, ga12, gb12, gc12, gd12, kS12, kT12, ge12⟩
          exact AllReadyH.nil
        exact AllReadyH.nil
      exact AllReadyH.nil
    refine consT rfl (fun K hK => ?_) ?_
    · skip
      go_simp
      have bb := below_alloc (w := w0) (.cells #[.bool false, .slice none 0 0, .bool false, .slice none 0 0] 41)
      have lcge := hBW.size
      replace hBW := hBW.trans (bb.mono hBW.size)
      clear bb
      have lc0 : (w0.alloc (.cells #[.bool false, .slice none 0 0, .bool false, .slice none 0 0] 41)).cell? ⟨w0.heap.size, 0, none⟩ = some (.bool false) := by go_simp
      have lc1 : (w0.alloc (.cells #[.bool false, .slice none 0 0, .bool false, .slice none 0 0] 41)).cell? ⟨w0.heap.size, 1, none⟩ = some (.slice none 0 0) := by go_simp
      have lc2 : (w0.alloc (.cells #[.bool false, .slice none 0 0, .bool false, .slice none 0 0] 41)).cell? ⟨w0.heap.size, 2, none⟩ = some (.bool false) := by go_simp
      have lc3 : (w0.alloc (.cells #[.bool false, .slice none 0 0, .bool false, .slice none 0 0] 41)).cell? ⟨w0.heap.size, 3, none⟩ = some (.slice none 0 0) := by go_simp
      have lcR : Row (w0.alloc (.cells #[.bool false, .slice none 0 0, .bool false, .slice none 0 0] 41)) w0.heap.size := row_new w0 _ 41
      clear hHeld
      generalize (w0.alloc (.cells #[.bool false, .slice none 0 0, .bool false, .slice none 0 0] 41)) = w4 at hBW lc0 lc1 lc2 lc3 lcR ⊢
      generalize w0.heap.size = c at lcge lc0 lc1 lc2 lc3 lcR ⊢
      refine hK.out _ _ (kp6 (W := W) hBW ⟨Qq00, Qq01, Qq02, Qq10, Qq11, Qq12, hB⟩) ?_
      intro hHeld
      clear hK K
      try simp only [Act.put, List.setIfInBounds_toArray, List.set_cons_zero, List.set_cons_succ]
      refine wpAnyH_ready (rs := [1, 5]) (by kernel_rfl) (by simp) ?_
      refine consT rfl (fun K hK => ?_) ?_
      · skip
        go_simp
        refine Calls.mono (HR0.out _ (sb hS0 hB hBW) (sb hT0 hB hBW)) ?_
        rintro e w41 ⟨zs11, zp11, zn11, zc11, zX11, zq11, zm11, zd11, rfl, ga11, gb11, gc11, gd11, kS11, kT11, ge11, bb11⟩
        replace hBW := hBW.trans (bb11.mono hBW.size)
        replace lc0 := below_cell bb11 lc0
        replace lc1 := below_cell bb11 lc1
        replace lc2 := below_cell bb11 lc2
        replace lc3 := below_cell bb11 lc3
        replace lcR := below_row bb11 lcR
        clear bb11
        go_wp2_with fail
        refine hK.out _ _ (kp6 (W := W) hBW ⟨Qq00, Qq01, Qq02, Qq10, Qq11, Qq12, hB⟩) ?_
        clear hHeld
        intro hHeld
        clear hK K
        try simp only [Act.put, List.setIfInBounds_toArray, List.set_cons_zero, List.set_cons_succ]
        refine wpAnyH_ready (rs := [3, 5]) (by kernel_rfl) (by simp) ?_
        refine consT rfl (fun K hK => ?_) ?_
        · skip
          go_simp
          refine Calls.mono (HR1.out _ (sb hS1 hB hBW) (sb hT1 hB hBW)) ?_
          rintro e w413 ⟨zs12, zp12, zn12, zc12, zX12, zq12, zm12, zd12, rfl, ga12, gb12, gc12, gd12, kS12, kT12, ge12, bb12⟩
          replace hBW := hBW.trans (bb12.mono hBW.size)
          replace kS11 := kS11.later bb12
          replace kT11 := kT11.later bb12
          replace lc0 := below_cell bb12 lc0
          replace lc1 := below_cell bb12 lc1
          replace lc2 := below_cell bb12 lc2
          replace lc3 := below_cell bb12 lc3
          replace lcR := below_row bb12 lcR
          clear bb12
          go_wp2_with fail
          refine hK.out _ _ (kp6 (W := W) hBW ⟨Qq00, Qq01, Qq02, Qq10, Qq11, Qq12, hB⟩) ?_
          clear hHeld
          intro hHeld
          clear hK K
          try simp only [Act.put, List.setIfInBounds_toArray, List.set_cons_zero, List.set_cons_succ]
          refine wpAnyH_ready (rs := [5]) (by kernel_rfl) (by simp) ?_
          refine consT rfl (fun K hK => ?_) ?_
          · skip
            go_simp
            have bb := below_alloc (w := w413) (.cells #[.bool false, .slice none 0 0, .bool false, .slice none 0 0] 41)
            have ldge := hBW.size
            have lab := lcR.lt
            replace hBW := hBW.trans (bb.mono hBW.size)
            replace kS11 := kS11.later bb
            replace kT11 := kT11.later bb
            replace kS12 := kS12.later bb
            replace kT12 := kT12.later bb
            replace lc0 := below_cell bb lc0
            replace lc1 := below_cell bb lc1
            replace lc2 := below_cell bb lc2
            replace lc3 := below_cell bb lc3
            replace lcR := below_row bb lcR
            clear bb
            have ld0 : (w413.alloc (.cells #[.bool false, .slice none 0 0, .bool false, .slice none 0 0] 41)).cell? ⟨w413.heap.size, 0, none⟩ = some (.bool false) := by go_simp
            have ld1 : (w413.alloc (.cells #[.bool false, .slice none 0 0, .bool false, .slice none 0 0] 41)).cell? ⟨w413.heap.size, 1, none⟩ = some (.slice none 0 0) := by go_simp
            have ld2 : (w413.alloc (.cells #[.bool false, .slice none 0 0, .bool false, .slice none 0 0] 41)).cell? ⟨w413.heap.size, 2, none⟩ = some (.bool false) := by go_simp
            have ld3 : (w413.alloc (.cells #[.bool false, .slice none 0 0, .bool false, .slice none 0 0] 41)).cell? ⟨w413.heap.size, 3, none⟩ = some (.slice none 0 0) := by go_simp
            have ldR : Row (w413.alloc (.cells #[.bool false, .slice none 0 0, .bool false, .slice none 0 0] 41)) w413.heap.size := row_new w413 _ 41
            clear hHeld
            generalize (w413.alloc (.cells #[.bool false, .slice none 0 0, .bool false, .slice none 0 0] 41)) = w4135 at hBW ld0 ld1 ld2 ld3 ldR lc0 lc1 lc2 lc3 lcR kS11 kT11 kS12 kT12 ⊢
            generalize w413.heap.size = d at ldge ld0 ld1 ld2 ld3 ldR lab ⊢
            refine hK.out _ _ (kp6 (W := W) hBW ⟨Qq00, Qq01, Qq02, Qq10, Qq11, Qq12, hB⟩) ?_
            intro hHeld
            clear hK K
            try simp only [Act.put, List.setIfInBounds_toArray, List.set_cons_zero, List.set_cons_succ]
            have lcd : c ≠ d := by omega
            clear lab
            refine wpAnyH_ready (rs := [6]) (by kernel_rfl) (by simp) ?_
            refine cons' rfl (fun K hK => ?_)
            have lf := fun o => lcR.frozen o
            have X := stored4 (u0 := .bool zs11) (u1 := .slice zp11 zn11 zc11) (u2 := .bool false) (u3 := .slice zq11 zm11 zd11) lc0 lc1 lc2 lc3 ld0 ld1 ld2 ld3 ldR hBW lcge lcd kS11 kT11 kS12 kT12
            go_simp
            clear lc0 lc1 lc2 lc3 ld0 ld1 ld2 ld3 lf lcR ldR hHeld hBW kS11 kT11 kS12 kT12
            generalize ((((w4135.setCell ⟨c, 0, none⟩ (.bool zs11)).setCell ⟨c, 1, none⟩ (.slice zp11 zn11 zc11)).setCell ⟨c, 2, none⟩ (.bool false)).setCell ⟨c, 3, none⟩ (.slice zq11 zm11 zd11)) = wl1 at X ⊢
            obtain ⟨lc0, lc1, lc2, lc3, ld0, ld1, ld2, ld3, ldR, hBW, kS11, kT11, kS12, kT12⟩ := X
            have lcR := ldR
            refine hK.out _ _ (kp6 (W := W) hBW ⟨Qq00, Qq01, Qq02, Qq10, Qq11, Qq12, hB⟩) ?_
            intro hHeld
            clear hK K
            try simp only [Act.put, List.setIfInBounds_toArray, List.set_cons_zero, List.set_cons_succ]
            refine wpAnyH_ready (rs := [7]) (by kernel_rfl) (by simp) ?_
            refine cons' rfl (fun K hK => ?_)
            have lf := fun o => ldR.frozen o
            have X := stored4 (u0 := .bool zs12) (u1 := .slice zp12 zn12 zc12) (u2 := .bool false) (u3 := .slice zq12 zm12 zd12) ld0 ld1 ld2 ld3 lc0 lc1 lc2 lc3 lcR hBW ldge lcd.symm kS11 kT11 kS12 kT12
            go_simp
            clear ld0 ld1 ld2 ld3 lc0 lc1 lc2 lc3 lf ldR lcR hHeld hBW kS11 kT11 kS12 kT12
            generalize ((((wl1.setCell ⟨d, 0, none⟩ (.bool zs12)).setCell ⟨d, 1, none⟩ (.slice zp12 zn12 zc12)).setCell ⟨d, 2, none⟩ (.bool false)).setCell ⟨d, 3, none⟩ (.slice zq12 zm12 zd12)) = wl2 at X ⊢
            obtain ⟨ld0, ld1, ld2, ld3, lc0, lc1, lc2, lc3, lcR, hBW, kS11, kT11, kS12, kT12⟩ := X
            have ldR := lcR
            refine hK.out _ _ (kp6 (W := W) hBW ⟨Qq00, Qq01, Qq02, Qq10, Qq11, Qq12, hB⟩) ?_
            intro hHeld
            clear hK K
            try simp only [Act.put, List.setIfInBounds_toArray, List.set_cons_zero, List.set_cons_succ]
            refine wpAnyH_done (by kernel_rfl) ?_ _
            go_wp2_with fail
            go_meet
            exact ⟨c, d, zs11, zp11, zn11, zc11, zX11, zq11, zm11, zd11, zs12, zp12, zn12, zc12, zX12, zq12, zm12, zd12, rfl, rfl, lcge, ldge, hBW, lc0, lc1, lc2, lc3, ld0, ld1, ld2, ld3, ga11, gb11, gc11, gd11, kS11, kT11, ge11, ga12, gb12, gc12, gd12, kS12, kT12, ge12⟩
          exact AllReadyH.nil
        refine consT rfl (fun K hK => ?_) ?_
        · skip
          go_simp
          have bb := below_alloc (w := w41) (.cells #[.bool false, .slice none 0 0, .bool false, .slice none 0 0] 41)
          have ldge := hBW.size
          have lab := lcR.lt
          replace hBW := hBW.trans (bb.mono hBW.size)
          replace kS11 := kS11.later bb
          replace kT11 := kT11.later bb
          replace lc0 := below_cell bb lc0
          replace lc1 := below_cell bb lc1
          replace lc2 := below_cell bb lc2
          replace lc3 := below_cell bb lc3
          replace lcR := below_row bb lcR
          clear bb
          have ld0 : (w41.alloc (.cells #[.bool false, .slice none 0 0, .bool false, .slice none 0 0] 41)).cell? ⟨w41.heap.size, 0, none⟩ = some (.bool false) := by go_simp
          have ld1 : (w41.alloc (.cells #[.bool false, .slice none 0 0, .bool false, .slice none 0 0] 41)).cell? ⟨w41.heap.size, 1, none⟩ = some (.slice none 0 0) := by go_simp
          have ld2 : (w41.alloc (.cells #[.bool false, .slice none 0 0, .bool false, .slice none 0 0] 41)).cell? ⟨w41.heap.size, 2, none⟩ = some (.bool false) := by go_simp
          have ld3 : (w41.alloc (.cells #[.bool false, .slice none 0 0, .bool false, .slice none 0 0] 41)).cell? ⟨w41.heap.size, 3, none⟩ = some (.slice none 0 0) := by go_simp
          have ldR : Row (w41.alloc (.cells #[.bool false, .slice none 0 0, .bool false, .slice none 0 0] 41)) w41.heap.size := row_new w41 _ 41
          clear hHeld
          generalize (w41.alloc (.cells #[.bool false, .slice none 0 0, .bool false, .slice none 0 0] 41)) = w415 at hBW ld0 ld1 ld2 ld3 ldR lc0 lc1 lc2 lc3 lcR kS11 kT11 ⊢
          generalize w41.heap.size = d at ldge ld0 ld1 ld2 ld3 ldR lab ⊢
          refine hK.out _ _ (kp6 (W := W) hBW ⟨Qq00, Qq01, Qq02, Qq10, Qq11, Qq12, hB⟩) ?_
          intro hHeld
          clear hK K
          try simp only [Act.put, List.setIfInBounds_toArray, List.set_cons_zero, List.set_cons_succ]
          refine wpAnyH_ready (rs := [3]) (by kernel_rfl) (by simp) ?_
          refine consT rfl (fun K hK => ?_) ?_
          · skip
            go_simp
            refine Calls.mono (HR1.out _ (sb hS1 hB hBW) (sb hT1 hB hBW)) ?_
            rintro e w4153 ⟨zs12, zp12, zn12, zc12, zX12, zq12, zm12, zd12, rfl, ga12, gb12, gc12, gd12, kS12, kT12, ge12, bb12⟩
            replace hBW := hBW.trans (bb12.mono hBW.size)
            replace kS11 := kS11.later bb12
            replace kT11 := kT11.later bb12
            replace lc0 := below_cell bb12 lc0
            replace lc1 := below_cell bb12 lc1
            replace lc2 := below_cell bb12 lc2
            replace lc3 := below_cell bb12 lc3
            replace lcR := below_row bb12 lcR
            replace ld0 := below_cell bb12 ld0
            replace ld1 := below_cell bb12 ld1
            replace ld2 := below_cell bb12 ld2
            replace ld3 := below_cell bb12 ld3
            replace ldR := below_row bb12 ldR
            clear bb12
            go_wp2_with fail
            refine hK.out _ _ (kp6 (W := W) hBW ⟨Qq00, Qq01, Qq02, Qq10, Qq11, Qq12, hB⟩) ?_
            clear hHeld
            intro hHeld
            clear hK K
            try simp only [Act.put, List.setIfInBounds_toArray, List.set_cons_zero, List.set_cons_succ]
            have lcd : c ≠ d := by omega
            clear lab
            refine wpAnyH_ready (rs := [6]) (by kernel_rfl) (by simp) ?_
            refine cons' rfl (fun K hK => ?_)
            have lf := fun o => lcR.frozen o
            have X := stored4 (u0 := .bool zs11) (u1 := .slice zp11 zn11 zc11) (u2 := .bool false) (u3 := .slice zq11 zm11 zd11) lc0 lc1 lc2 lc3 ld0 ld1 ld2 ld3 ldR hBW lcge lcd kS11 kT11 kS12 kT12
            go_simp
            clear lc0 lc1 lc2 lc3 ld0 ld1 ld2 ld3 lf lcR ldR hHeld hBW kS11 kT11 kS12 kT12
            generalize ((((w4153.setCell ⟨c, 0, none⟩ (.bool zs11)).setCell ⟨c, 1, none⟩ (.slice zp11 zn11 zc11)).setCell ⟨c, 2, none⟩ (.bool false)).setCell ⟨c, 3, none⟩ (.slice zq11 zm11 zd11)) = wl1 at X ⊢
            obtain ⟨lc0, lc1, lc2, lc3, ld0, ld1, ld2, ld3, ldR, hBW, kS11, kT11, kS12, kT12⟩ := X
            have lcR := ldR
            refine hK.out _ _ (kp6 (W := W) hBW ⟨Qq00, Qq01, Qq02, Qq10, Qq11, Qq12, hB⟩) ?_
            intro hHeld
            clear hK K
            try simp only [Act.put, List.setIfInBounds_toArray, List.set_cons_zero, List.set_cons_succ]
            refine wpAnyH_ready (rs := [7]) (by kernel_rfl) (by simp) ?_
            refine cons' rfl (fun K hK => ?_)
            have lf := fun o => ldR.frozen o
            have X := stored4 (u0 := .bool zs12) (u1 := .slice zp12 zn12 zc12) (u2 := .bool false) (u3 := .slice zq12 zm12 zd12) ld0 ld1 ld2 ld3 lc0 lc1 lc2 lc3 lcR hBW ldge lcd.symm kS11 kT11 kS12 kT12
            go_simp
            clear ld0 ld1 ld2 ld3 lc0 lc1 lc2 lc3 lf ldR lcR hHeld hBW kS11 kT11 kS12 kT12
            generalize ((((wl1.setCell ⟨d, 0, none⟩ (.bool zs12)).setCell ⟨d, 1, none⟩ (.slice zp12 zn12 zc12)).setCell ⟨d, 2, none⟩ (.bool false)).setCell ⟨d, 3, none⟩ (.slice zq12 zm12 zd12)) = wl2 at X ⊢
            obtain ⟨ld0, ld1, ld2, ld3, lc0, lc1, lc2, lc3, lcR, hBW, kS11, kT11, kS12, kT12⟩ := X
            have ldR := lcR
            refine hK.out _ _ (kp6 (W := W) hBW ⟨Qq00, Qq01, Qq02, Qq10, Qq11, Qq12, hB⟩) ?_
            intro hHeld
            clear hK K
            try simp only [Act.put, List.setIfInBounds_toArray, List.set_cons_zero, List.set_cons_succ]
            refine wpAnyH_done (by kernel_rfl) ?_ _
            go_wp2_with fail
            go_meet
            exact ⟨c, d, zs11, zp11, zn11, zc11, zX11, zq11, zm11, zd11, zs12, zp12, zn12, zc12, zX12, zq12, zm12, zd12, rfl, rfl, lcge, ldge, hBW, lc0, lc1, lc2, lc3, ld0, ld1, ld2, ld3, ga11, gb11, gc11, gd11, kS11, kT11, ge11, ga12, gb12, gc12, gd12, kS12, kT12, ge12⟩
          exact AllReadyH.nil
        exact AllReadyH.nil
      refine consT rfl (fun K hK => ?_) ?_
      · skip
        go_simp
        have bb := below_alloc (w := w4) (.cells #[.bool false, .slice none 0 0, .bool false, .slice none 0 0] 41)
        have ldge := hBW.size
        have lab := lcR.lt
        replace hBW := hBW.trans (bb.mono hBW.size)
        replace lc0 := below_cell bb lc0
        replace lc1 := below_cell bb lc1
        replace lc2 := below_cell bb lc2
        replace lc3 := below_cell bb lc3
        replace lcR := below_row bb lcR
        clear bb
        have ld0 : (w4.alloc (.cells #[.bool false, .slice none 0 0, .bool false, .slice none 0 0] 41)).cell? ⟨w4.heap.size, 0, none⟩ = some (.bool false) := by go_simp
        have ld1 : (w4.alloc (.cells #[.bool false, .slice none 0 0, .bool false, .slice none 0 0] 41)).cell? ⟨w4.heap.size, 1, none⟩ = some (.slice none 0 0) := by go_simp
        have ld2 : (w4.alloc (.cells #[.bool false, .slice none 0 0, .bool false, .slice none 0 0] 41)).cell? ⟨w4.heap.size, 2, none⟩ = some (.bool false) := by go_simp
        have ld3 : (w4.alloc (.cells #[.bool false, .slice none 0 0, .bool false, .slice none 0 0] 41)).cell? ⟨w4.heap.size, 3, none⟩ = some (.slice none 0 0) := by go_simp
        have ldR : Row (w4.alloc (.cells #[.bool false, .slice none 0 0, .bool false, .slice none 0 0] 41)) w4.heap.size := row_new w4 _ 41
        clear hHeld
        generalize (w4.alloc (.cells #[.bool false, .slice none 0 0, .bool false, .slice none 0 0] 41)) = w45 at hBW ld0 ld1 ld2 ld3 ldR lc0 lc1 lc2 lc3 lcR ⊢
        generalize w4.heap.size = d at ldge ld0 ld1 ld2 ld3 ldR lab ⊢
        refine hK.out _ _ (kp6 (W := W) hBW ⟨Qq00, Qq01, Qq02, Qq10, Qq11, Qq12, hB⟩) ?_
        intro hHeld
        clear hK K
        try simp only [Act.put, List.setIfInBounds_toArray, List.set_cons_zero, List.set_cons_succ]
        refine wpAnyH_ready (rs := [1]) (by kernel_rfl) (by simp) ?_
        refine consT rfl (fun K hK => ?_) ?_
        · skip
          go_simp
          refine Calls.mono (HR0.out _ (sb hS0 hB hBW) (sb hT0 hB hBW)) ?_
          rintro e w451 ⟨zs11, zp11, zn11, zc11, zX11, zq11, zm11, zd11, rfl, ga11, gb11, gc11, gd11, kS11, kT11, ge11, bb11⟩
          replace hBW := hBW.trans (bb11.mono hBW.size)
          replace lc0 := below_cell bb11 lc0
          replace lc1 := below_cell bb11 lc1
          replace lc2 := below_cell bb11 lc2
          replace lc3 := below_cell bb11 lc3
          replace lcR := below_row bb11 lcR
          replace ld0 := below_cell bb11 ld0
          replace ld1 := below_cell bb11 ld1
          replace ld2 := below_cell bb11 ld2
          replace ld3 := below_cell bb11 ld3
          replace ldR := below_row bb11 ldR
          clear bb11
          go_wp2_with fail
          refine hK.out _ _ (kp6 (W := W) hBW ⟨Qq00, Qq01, Qq02, Qq10, Qq11, Qq12, hB⟩) ?_
          clear hHeld
          intro hHeld
          clear hK K
          try simp only [Act.put, List.setIfInBounds_toArray, List.set_cons_zero, List.set_cons_succ]
          refine wpAnyH_ready (rs := [3]) (by kernel_rfl) (by simp) ?_
          refine consT rfl (fun K hK => ?_) ?_
          · skip
            go_simp
            refine Calls.mono (HR1.out _ (sb hS1 hB hBW) (sb hT1 hB hBW)) ?_
            rintro e w4513 ⟨zs12, zp12, zn12, zc12, zX12, zq12, zm12, zd12, rfl, ga12, gb12, gc12, gd12, kS12, kT12, ge12, bb12⟩
            replace hBW := hBW.trans (bb12.mono hBW.size)
            replace kS11 := kS11.later bb12
            replace kT11 := kT11.later bb12
            replace lc0 := below_cell bb12 lc0
            replace lc1 := below_cell bb12 lc1
            replace lc2 := below_cell bb12 lc2
            replace lc3 := below_cell bb12 lc3
            replace lcR := below_row bb12 lcR
            replace ld0 := below_cell bb12 ld0
            replace ld1 := below_cell bb12 ld1
            replace ld2 := below_cell bb12 ld2
            replace ld3 := below_cell bb12 ld3
            replace ldR := below_row bb12 ldR
            clear bb12
            go_wp2_with fail
            refine hK.out _ _ (kp6 (W := W) hBW ⟨Qq00, Qq01, Qq02, Qq10, Qq11, Qq12, hB⟩) ?_
            clear hHeld
            intro hHeld
            clear hK K
            try simp only [Act.put, List.setIfInBounds_toArray, List.set_cons_zero, List.set_cons_succ]
            have lcd : c ≠ d := by omega
            clear lab
            refine wpAnyH_ready (rs := [6]) (by kernel_rfl) (by simp) ?_
            refine cons' rfl (fun K hK => ?_)
            have lf := fun o => lcR.frozen o
            have X := stored4 (u0 := .bool zs11) (u1 := .slice zp11 zn11 zc11) (u2 := .bool false) (u3 := .slice zq11 zm11 zd11) lc0 lc1 lc2 lc3 ld0 ld1 ld2 ld3 ldR hBW lcge lcd kS11 kT11 kS12 kT12
            go_simp
            clear lc0 lc1 lc2 lc3 ld0 ld1 ld2 ld3 lf lcR ldR hHeld hBW kS11 kT11 kS12 kT12
            generalize ((((w4513.setCell ⟨c, 0, none⟩ (.bool zs11)).setCell ⟨c, 1, none⟩ (.slice zp11 zn11 zc11)).setCell ⟨c, 2, none⟩ (.bool false)).setCell ⟨c, 3, none⟩ (.slice zq11 zm11 zd11)) = wl1 at X ⊢
            obtain ⟨lc0, lc1, lc2, lc3, ld0, ld1, ld2, ld3, ldR, hBW, kS11, kT11, kS12, kT12⟩ := X
            have lcR := ldR
            refine hK.out _ _ (kp6 (W := W) hBW ⟨Qq00, Qq01, Qq02, Qq10, Qq11, Qq12, hB⟩) ?_
            intro hHeld
            clear hK K
            try simp only [Act.put, List.setIfInBounds_toArray, List.set_cons_zero, List.set_cons_succ]
            refine wpAnyH_ready (rs := [7]) (by kernel_rfl) (by simp) ?_
            refine cons' rfl (fun K hK => ?_)
            have lf := fun o => ldR.frozen o
            have X := stored4 (u0 := .bool zs12) (u1 := .slice zp12 zn12 zc12) (u2 := .bool false) (u3 := .slice zq12 zm12 zd12) ld0 ld1 ld2 ld3 lc0 lc1 lc2 lc3 lcR hBW ldge lcd.symm kS11 kT11 kS12 kT12
            go_simp
            clear ld0 ld1 ld2 ld3 lc0 lc1 lc2 lc3 lf ldR lcR hHeld hBW kS11 kT11 kS12 kT12
            generalize ((((wl1.setCell ⟨d, 0, none⟩ (.bool zs12)).setCell ⟨d, 1, none⟩ (.slice zp12 zn12 zc12)).setCell ⟨d, 2, none⟩ (.bool false)).setCell ⟨d, 3, none⟩ (.slice zq12 zm12 zd12)) = wl2 at X ⊢
            obtain ⟨ld0, ld1, ld2, ld3, lc0, lc1, lc2, lc3, lcR, hBW, kS11, kT11, kS12, kT12⟩ := X
            have ldR := lcR
            refine hK.out _ _ (kp6 (W := W) hBW ⟨Qq00, Qq01, Qq02, Qq10, Qq11, Qq12, hB⟩) ?_
            intro hHeld
            clear hK K
            try simp only [Act.put, List.setIfInBounds_toArray, List.set_cons_zero, List.set_cons_succ]
            refine wpAnyH_done (by kernel_rfl) ?_ _
            go_wp2_with fail
            go_meet
            exact ⟨c, d, zs11, zp11, zn11, zc11, zX11, zq11, zm11, zd11, zs12, zp12, zn12, zc12, zX12, zq12, zm12, zd12, rfl, rfl, lcge, ldge, hBW, lc0, lc1, lc2, lc3, ld0, ld1, ld2, ld3, ga11, gb11, gc11, gd11, kS11, kT11, ge11, ga12, gb12, gc12, gd12, kS12, kT12, ge12⟩
          exact AllReadyH.nil
        exact AllReadyH.nil
      exact AllReadyH.nil
    refine consT rfl (fun K hK => ?_) ?_
    · skip
      go_simp
      have bb := below_alloc (w := w0) (.cells #[.bool false, .slice none 0 0, .bool false, .slice none 0 0] 41)
      have ldge := hBW.size
      replace hBW := hBW.trans (bb.mono hBW.size)
      clear bb
      have ld0 : (w0.alloc (.cells #[.bool false, .slice none 0 0, .bool false, .slice none 0 0] 41)).cell? ⟨w0.heap.size, 0, none⟩ = some (.bool false) := by go_simp
      have ld1 : (w0.alloc (.cells #[.bool false, .slice none 0 0, .bool false, .slice none 0 0] 41)).cell? ⟨w0.heap.size, 1, none⟩ = some (.slice none 0 0) := by go_simp
      have ld2 : (w0.alloc (.cells #[.bool false, .slice none 0 0, .bool false, .slice none 0 0] 41)).cell? ⟨w0.heap.size, 2, none⟩ = some (.bool false) := by go_simp
      have ld3 : (w0.alloc (.cells #[.bool false, .slice none 0 0, .bool false, .slice none 0 0] 41)).cell? ⟨w0.heap.size, 3, none⟩ = some (.slice none 0 0) := by go_simp
      have ldR : Row (w0.alloc (.cells #[.bool false, .slice none 0 0, .bool false, .slice none 0 0] 41)) w0.heap.size := row_new w0 _ 41
      clear hHeld
      generalize (w0.alloc (.cells #[.bool false, .slice none 0 0, .bool false, .slice none 0 0] 41)) = w5 at hBW ld0 ld1 ld2 ld3 ldR ⊢
      generalize w0.heap.size = d at ldge ld0 ld1 ld2 ld3 ldR ⊢
      refine hK.out _ _ (kp6 (W := W) hBW ⟨Qq00, Qq01, Qq02, Qq10, Qq11, Qq12, hB⟩) ?_
      intro hHeld
      clear hK K
      try simp only [Act.put, List.setIfInBounds_toArray, List.set_cons_zero, List.set_cons_succ]
      refine wpAnyH_ready (rs := [1, 4]) (by kernel_rfl) (by simp) ?_
      refine consT rfl (fun K hK => ?_) ?_
      · skip
        go_simp
        refine Calls.mono (HR0.out _ (sb hS0 hB hBW) (sb hT0 hB hBW)) ?_
        rintro e w51 ⟨zs11, zp11, zn11, zc11, zX11, zq11, zm11, zd11, rfl, ga11, gb11, gc11, gd11, kS11, kT11, ge11, bb11⟩
        replace hBW := hBW.trans (bb11.mono hBW.size)
        replace ld0 := below_cell bb11 ld0
        replace ld1 := below_cell bb11 ld1
        replace ld2 := below_cell bb11 ld2
        replace ld3 := below_cell bb11 ld3
        replace ldR := below_row bb11 ldR
        clear bb11
        go_wp2_with fail
        refine hK.out _ _ (kp6 (W := W) hBW ⟨Qq00, Qq01, Qq02, Qq10, Qq11, Qq12, hB⟩) ?_
        clear hHeld
        intro hHeld
        clear hK K
        try simp only [Act.put, List.setIfInBounds_toArray, List.set_cons_zero, List.set_cons_succ]
        refine wpAnyH_ready (rs := [3, 4]) (by kernel_rfl) (by simp) ?_
        refine consT rfl (fun K hK => ?_) ?_
        · skip
          go_simp
          refine Calls.mono (HR1.out _ (sb hS1 hB hBW) (sb hT1 hB hBW)) ?_
          rintro e w513 ⟨zs12, zp12, zn12, zc12, zX12, zq12, zm12, zd12, rfl, ga12, gb12, gc12, gd12, kS12, kT12, ge12, bb12⟩
          replace hBW := hBW.trans (bb12.mono hBW.size)
          replace kS11 := kS11.later bb12
          replace kT11 := kT11.later bb12
          replace ld0 := below_cell bb12 ld0
          replace ld1 := below_cell bb12 ld1
          replace ld2 := below_cell bb12 ld2
          replace ld3 := below_cell bb12 ld3
          replace ldR := below_row bb12 ldR
          clear bb12
          go_wp2_with fail
          refine hK.out _ _ (kp6 (W := W) hBW ⟨Qq00, Qq01, Qq02, Qq10, Qq11, Qq12, hB⟩) ?_
          clear hHeld
          intro hHeld
          clear hK K
          try simp only [Act.put, List.setIfInBounds_toArray, List.set_cons_zero, List.set_cons_succ]
          refine wpAnyH_ready (rs := [4]) (by kernel_rfl) (by simp) ?_
          refine consT rfl (fun K hK => ?_) ?_
          · skip
            go_simp
            have bb := below_alloc (w := w513) (.cells #[.bool false, .slice none 0 0, .bool false, .slice none 0 0] 41)
            have lcge := hBW.size
            have lab := ldR.lt
            replace hBW := hBW.trans (bb.mono hBW.size)
            replace kS11 := kS11.later bb
            replace kT11 := kT11.later bb
            replace kS12 := kS12.later bb
            replace kT12 := kT12.later bb
            replace ld0 := below_cell bb ld0
            replace ld1 := below_cell bb ld1
            replace ld2 := below_cell bb ld2
            replace ld3 := below_cell bb ld3
            replace ldR := below_row bb ldR
            clear bb
            have lc0 : (w513.alloc (.cells #[.bool false, .slice none 0 0, .bool false, .slice none 0 0] 41)).cell? ⟨w513.heap.size, 0, none⟩ = some (.bool false) := by go_simp
            have lc1 : (w513.alloc (.cells #[.bool false, .slice none 0 0, .bool false, .slice none 0 0] 41)).cell? ⟨w513.heap.size, 1, none⟩ = some (.slice none 0 0) := by go_simp
            have lc2 : (w513.alloc (.cells #[.bool false, .slice none 0 0, .bool false, .slice none 0 0] 41)).cell? ⟨w513.heap.size, 2, none⟩ = some (.bool false) := by go_simp
            have lc3 : (w513.alloc (.cells #[.bool false, .slice none 0 0, .bool false, .slice none 0 0] 41)).cell? ⟨w513.heap.size, 3, none⟩ = some (.slice none 0 0) := by go_simp
            have lcR : Row (w513.alloc (.cells #[.bool false, .slice none 0 0, .bool false, .slice none 0 0] 41)) w513.heap.size := row_new w513 _ 41
            clear hHeld
            generalize (w513.alloc (.cells #[.bool false, .slice none 0 0, .bool false, .slice none 0 0] 41)) = w5134 at hBW lc0 lc1 lc2 lc3 lcR ld0 ld1 ld2 ld3 ldR kS11 kT11 kS12 kT12 ⊢
            generalize w513.heap.size = c at lcge lc0 lc1 lc2 lc3 lcR lab ⊢
            refine hK.out _ _ (kp6 (W := W) hBW ⟨Qq00, Qq01, Qq02, Qq10, Qq11, Qq12, hB⟩) ?_
            intro hHeld
            clear hK K
            try simp only [Act.put, List.setIfInBounds_toArray, List.set_cons_zero, List.set_cons_succ]
            have lcd : c ≠ d := by omega
            clear lab
            refine wpAnyH_ready (rs := [6]) (by kernel_rfl) (by simp) ?_
            refine cons' rfl (fun K hK => ?_)
            have lf := fun o => lcR.frozen o
            have X := stored4 (u0 := .bool zs11) (u1 := .slice zp11 zn11 zc11) (u2 := .bool false) (u3 := .slice zq11 zm11 zd11) lc0 lc1 lc2 lc3 ld0 ld1 ld2 ld3 ldR hBW lcge lcd kS11 kT11 kS12 kT12
            go_simp
            clear lc0 lc1 lc2 lc3 ld0 ld1 ld2 ld3 lf lcR ldR hHeld hBW kS11 kT11 kS12 kT12
            generalize ((((w5134.setCell ⟨c, 0, none⟩ (.bool zs11)).setCell ⟨c, 1, none⟩ (.slice zp11 zn11 zc11)).setCell ⟨c, 2, none⟩ (.bool false)).setCell ⟨c, 3, none⟩ (.slice zq11 zm11 zd11)) = wl1 at X ⊢
            obtain ⟨lc0, lc1, lc2, lc3, ld0, ld1, ld2, ld3, ldR, hBW, kS11, kT11, kS12, kT12⟩ := X
            have lcR := ldR
            refine hK.out _ _ (kp6 (W := W) hBW ⟨Qq00, Qq01, Qq02, Qq10, Qq11, Qq12, hB⟩) ?_
            intro hHeld
            clear hK K
            try simp only [Act.put, List.setIfInBounds_toArray, List.set_cons_zero, List.set_cons_succ]
            refine wpAnyH_ready (rs := [7]) (by kernel_rfl) (by simp) ?_
            refine cons' rfl (fun K hK => ?_)
            have lf := fun o => ldR.frozen o
            have X := stored4 (u0 := .bool zs12) (u1 := .slice zp12 zn12 zc12) (u2 := .bool false) (u3 := .slice zq12 zm12 zd12) ld0 ld1 ld2 ld3 lc0 lc1 lc2 lc3 lcR hBW ldge lcd.symm kS11 kT11 kS12 kT12
            go_simp
            clear ld0 ld1 ld2 ld3 lc0 lc1 lc2 lc3 lf ldR lcR hHeld hBW kS11 kT11 kS12 kT12
            generalize ((((wl1.setCell ⟨d, 0, none⟩ (.bool zs12)).setCell ⟨d, 1, none⟩ (.slice zp12 zn12 zc12)).setCell ⟨d, 2, none⟩ (.bool false)).setCell ⟨d, 3, none⟩ (.slice zq12 zm12 zd12)) = wl2 at X ⊢
            obtain ⟨ld0, ld1, ld2, ld3, lc0, lc1, lc2, lc3, lcR, hBW, kS11, kT11, kS12, kT12⟩ := X
            have ldR := lcR
            refine hK.out _ _ (kp6 (W := W) hBW ⟨Qq00, Qq01, Qq02, Qq10, Qq11, Qq12, hB⟩) ?_
            intro hHeld
            clear hK K
            try simp only [Act.put, List.setIfInBounds_toArray, List.set_cons_zero, List.set_cons_succ]
            refine wpAnyH_done (by kernel_rfl) ?_ _
            go_wp2_with fail
            go_meet
            exact ⟨c, d, zs11, zp11, zn11, zc11, zX11, zq11, zm11, zd11, zs12, zp12, zn12, zc12, zX12, zq12, zm12, zd12, rfl, rfl, lcge, ldge, hBW, lc0, lc1, lc2, lc3, ld0, ld1, ld2, ld3, ga11, gb11, gc11, gd11, kS11, kT11, ge11, ga12, gb12, gc12, gd12, kS12, kT12, ge12⟩
          exact AllReadyH.nil
        refine consT rfl (fun K hK => ?_) ?_
        · skip
          go_simp
          have bb := below_alloc (w := w51) (.cells #[.bool false, .slice none 0 0, .bool false, .slice none 0 0] 41)
          have lcge := hBW.size
          have lab := ldR.lt
          replace hBW := hBW.trans (bb.mono hBW.size)
          replace kS11 := kS11.later bb
          replace kT11 := kT11.later bb
          replace ld0 := below_cell bb ld0
          replace ld1 := below_cell bb ld1
          replace ld2 := below_cell bb ld2
          replace ld3 := below_cell bb ld3
          replace ldR := below_row bb ldR
          clear bb
          have lc0 : (w51.alloc (.cells #[.bool false, .slice none 0 0, .bool false, .slice none 0 0] 41)).cell? ⟨w51.heap.size, 0, none⟩ = some (.bool false) := by go_simp
          have lc1 : (w51.alloc (.cells #[.bool false, .slice none 0 0, .bool false, .slice none 0 0] 41)).cell? ⟨w51.heap.size, 1, none⟩ = some (.slice none 0 0) := by go_simp
          have lc2 : (w51.alloc (.cells #[.bool false, .slice none 0 0, .bool false, .slice none 0 0] 41)).cell? ⟨w51.heap.size, 2, none⟩ = some (.bool false) := by go_simp
          have lc3 : (w51.alloc (.cells #[.bool false, .slice none 0 0, .bool false, .slice none 0 0] 41)).cell? ⟨w51.heap.size, 3, none⟩ = some (.slice none 0 0) := by go_simp
          have lcR : Row (w51.alloc (.cells #[.bool false, .slice none 0 0, .bool false, .slice none 0 0] 41)) w51.heap.size := row_new w51 _ 41
          clear hHeld
          generalize (w51.alloc (.cells #[.bool false, .slice none 0 0, .bool false, .slice none 0 0] 41)) = w514 at hBW lc0 lc1 lc2 lc3 lcR ld0 ld1 ld2 ld3 ldR kS11 kT11 ⊢
          generalize w51.heap.size = c at lcge lc0 lc1 lc2 lc3 lcR lab ⊢
          refine hK.out _ _ (kp6 (W := W) hBW ⟨Qq00, Qq01, Qq02, Qq10, Qq11, Qq12, hB⟩) ?_
          intro hHeld
          clear hK K
          try simp only [Act.put, List.setIfInBounds_toArray, List.set_cons_zero, List.set_cons_succ]
          refine wpAnyH_ready (rs := [3]) (by kernel_rfl) (by simp) ?_
          refine consT rfl (fun K hK => ?_) ?_
          · skip
            go_simp
            refine Calls.mono (HR1.out _ (sb hS1 hB hBW) (sb hT1 hB hBW)) ?_
            rintro e w5143 ⟨zs12, zp12, zn12, zc12, zX12, zq12, zm12, zd12, rfl, ga12, gb12, gc12, gd12, kS12, kT12, ge12, bb12⟩
            replace hBW := hBW.trans (bb12.mono hBW.size)
            replace kS11 := kS11.later bb12
            replace kT11 := kT11.later bb12
            replace lc0 := below_cell bb12 lc0
            replace lc1 := below_cell bb12 lc1
            replace lc2 := below_cell bb12 lc2
            replace lc3 := below_cell bb12 lc3
            replace lcR := below_row bb12 lcR
            replace ld0 := below_cell bb12 ld0
            replace ld1 := below_cell bb12 ld1
            replace ld2 := below_cell bb12 ld2
            replace ld3 := below_cell bb12 ld3
            replace ldR := below_row bb12 ldR
            clear bb12
            go_wp2_with fail
            refine hK.out _ _ (kp6 (W := W) hBW ⟨Qq00, Qq01, Qq02, Qq10, Qq11, Qq12, hB⟩) ?_
            clear hHeld
            intro hHeld
            clear hK K
            try simp only [Act.put, List.setIfInBounds_toArray, List.set_cons_zero, List.set_cons_succ]
            have lcd : c ≠ d := by omega
            clear lab
            refine wpAnyH_ready (rs := [6]) (by kernel_rfl) (by simp) ?_
            refine cons' rfl (fun K hK => ?_)
            have lf := fun o => lcR.frozen o
            have X := stored4 (u0 := .bool zs11) (u1 := .slice zp11 zn11 zc11) (u2 := .bool false) (u3 := .slice zq11 zm11 zd11) lc0 lc1 lc2 lc3 ld0 ld1 ld2 ld3 ldR hBW lcge lcd kS11 kT11 kS12 kT12
            go_simp
            clear lc0 lc1 lc2 lc3 ld0 ld1 ld2 ld3 lf lcR ldR hHeld hBW kS11 kT11 kS12 kT12
            generalize ((((w5143.setCell ⟨c, 0, none⟩ (.bool zs11)).setCell ⟨c, 1, none⟩ (.slice zp11 zn11 zc11)).setCell ⟨c, 2, none⟩ (.bool false)).setCell ⟨c, 3, none⟩ (.slice zq11 zm11 zd11)) = wl1 at X ⊢
            obtain ⟨lc0, lc1, lc2, lc3, ld0, ld1, ld2, ld3, ldR, hBW, kS11, kT11, kS12, kT12⟩ := X
            have lcR := ldR
            refine hK.out _ _ (kp6 (W := W) hBW ⟨Qq00, Qq01, Qq02, Qq10, Qq11, Qq12, hB⟩) ?_
            intro hHeld
            clear hK K
            try simp only [Act.put, List.setIfInBounds_toArray, List.set_cons_zero, List.set_cons_succ]
            refine wpAnyH_ready (rs := [7]) (by kernel_rfl) (by simp) ?_
            refine cons' rfl (fun K hK => ?_)
            have lf := fun o => ldR.frozen o
            have X := stored4 (u0 := .bool zs12) (u1 := .slice zp12 zn12 zc12) (u2 := .bool false) (u3 := .slice zq12 zm12 zd12) ld0 ld1 ld2 ld3 lc0 lc1 lc2 lc3 lcR hBW ldge lcd.symm kS11 kT11 kS12 kT12
            go_simp
            clear ld0 ld1 ld2 ld3 lc0 lc1 lc2 lc3 lf ldR lcR hHeld hBW kS11 kT11 kS12 kT12
            generalize ((((wl1.setCell ⟨d, 0, none⟩ (.bool zs12)).setCell ⟨d, 1, none⟩ (.slice zp12 zn12 zc12)).setCell ⟨d, 2, none⟩ (.bool false)).setCell ⟨d, 3, none⟩ (.slice zq12 zm12 zd12)) = wl2 at X ⊢
            obtain ⟨ld0, ld1, ld2, ld3, lc0, lc1, lc2, lc3, lcR, hBW, kS11, kT11, kS12, kT12⟩ := X
            have ldR := lcR
            refine hK.out _ _ (kp6 (W := W) hBW ⟨Qq00, Qq01, Qq02, Qq10, Qq11, Qq12, hB⟩) ?_
            intro hHeld
            clear hK K
            try simp only [Act.put, List.setIfInBounds_toArray, List.set_cons_zero, List.set_cons_succ]
            refine wpAnyH_done (by kernel_rfl) ?_ _
            go_wp2_with fail
            go_meet
            exact ⟨c, d, zs11, zp11, zn11, zc11, zX11, zq11, zm11, zd11, zs12, zp12, zn12, zc12, zX12, zq12, zm12, zd12, rfl, rfl, lcge, ldge, hBW, lc0, lc1, lc2, lc3, ld0, ld1, ld2, ld3, ga11, gb11, gc11, gd11, kS11, kT11, ge11, ga12, gb12, gc12, gd12, kS12, kT12, ge12⟩
          exact AllReadyH.nil
        exact AllReadyH.nil
      refine consT rfl (fun K hK => ?_) ?_
      · skip
        go_simp
        have bb := below_alloc (w := w5) (.cells #[.bool false, .slice none 0 0, .bool false, .slice none 0 0] 41)
        have lcge := hBW.size
        have lab := ldR.lt
        replace hBW := hBW.trans (bb.mono hBW.size)
        replace ld0 := below_cell bb ld0
        replace ld1 := below_cell bb ld1
        replace ld2 := below_cell bb ld2
        replace ld3 := below_cell bb ld3
        replace ldR := below_row bb ldR
        clear bb
        have lc0 : (w5.alloc (.cells #[.bool false, .slice none 0 0, .bool false, .slice none 0 0] 41)).cell? ⟨w5.heap.size, 0, none⟩ = some (.bool false) := by go_simp
        have lc1 : (w5.alloc (.cells #[.bool false, .slice none 0 0, .bool false, .slice none 0 0] 41)).cell? ⟨w5.heap.size, 1, none⟩ = some (.slice none 0 0) := by go_simp
        have lc2 : (w5.alloc (.cells #[.bool false, .slice none 0 0, .bool false, .slice none 0 0] 41)).cell? ⟨w5.heap.size, 2, none⟩ = some (.bool false) := by go_simp
        have lc3 : (w5.alloc (.cells #[.bool false, .slice none 0 0, .bool false, .slice none 0 0] 41)).cell? ⟨w5.heap.size, 3, none⟩ = some (.slice none 0 0) := by go_simp
        have lcR : Row (w5.alloc (.cells #[.bool false, .slice none 0 0, .bool false, .slice none 0 0] 41)) w5.heap.size := row_new w5 _ 41
        clear hHeld
        generalize (w5.alloc (.cells #[.bool false, .slice none 0 0, .bool false, .slice none 0 0] 41)) = w54 at hBW lc0 lc1 lc2 lc3 lcR ld0 ld1 ld2 ld3 ldR ⊢
        generalize w5.heap.size = c at lcge lc0 lc1 lc2 lc3 lcR lab ⊢
        refine hK.out _ _ (kp6 (W := W) hBW ⟨Qq00, Qq01, Qq02, Qq10, Qq11, Qq12, hB⟩) ?_
        intro hHeld
        clear hK K
        try simp only [Act.put, List.setIfInBounds_toArray, List.set_cons_zero, List.set_cons_succ]
        refine wpAnyH_ready (rs := [1]) (by kernel_rfl) (by simp) ?_
        refine consT rfl (fun K hK => ?_) ?_
        · skip
          go_simp
          refine Calls.mono (HR0.out _ (sb hS0 hB hBW) (sb hT0 hB hBW)) ?_
          rintro e w541 ⟨zs11, zp11, zn11, zc11, zX11, zq11, zm11, zd11, rfl, ga11, gb11, gc11, gd11, kS11, kT11, ge11, bb11⟩
          replace hBW := hBW.trans (bb11.mono hBW.size)
          replace lc0 := below_cell bb11 lc0
          replace lc1 := below_cell bb11 lc1
          replace lc2 := below_cell bb11 lc2
          replace lc3 := below_cell bb11 lc3
          replace lcR := below_row bb11 lcR
          replace ld0 := below_cell bb11 ld0
          replace ld1 := below_cell bb11 ld1
          replace ld2 := below_cell bb11 ld2
          replace ld3 := below_cell bb11 ld3
          replace ldR := below_row bb11 ldR
          clear bb11
          go_wp2_with fail
          refine hK.out _ _ (kp6 (W := W) hBW ⟨Qq00, Qq01, Qq02, Qq10, Qq11, Qq12, hB⟩) ?_
          clear hHeld
          intro hHeld
          clear hK K
          try simp only [Act.put, List.setIfInBounds_toArray, List.set_cons_zero, List.set_cons_succ]
          refine wpAnyH_ready (rs := [3]) (by kernel_rfl) (by simp) ?_
          refine consT rfl (fun K hK => ?_) ?_
          · skip
            go_simp
            refine Calls.mono (HR1.out _ (sb hS1 hB hBW) (sb hT1 hB hBW)) ?_
            rintro e w5413 ⟨zs12, zp12, zn12, zc12, zX12, zq12, zm12, zd12, rfl, ga12, gb12, gc12, gd12, kS12, kT12, ge12, bb12⟩
            replace hBW := hBW.trans (bb12.mono hBW.size)
            replace kS11 := kS11.later bb12
            replace kT11 := kT11.later bb12
            replace lc0 := below_cell bb12 lc0
            replace lc1 := below_cell bb12 lc1
            replace lc2 := below_cell bb12 lc2
            replace lc3 := below_cell bb12 lc3
            replace lcR := below_row bb12 lcR
            replace ld0 := below_cell bb12 ld0
            replace ld1 := below_cell bb12 ld1
            replace ld2 := below_cell bb12 ld2
            replace ld3 := below_cell bb12 ld3
            replace ldR := below_row bb12 ldR
            clear bb12
            go_wp2_with fail
            refine hK.out _ _ (kp6 (W := W) hBW ⟨Qq00, Qq01, Qq02, Qq10, Qq11, Qq12, hB⟩) ?_
            clear hHeld
            intro hHeld
            clear hK K
            try simp only [Act.put, List.setIfInBounds_toArray, List.set_cons_zero, List.set_cons_succ]
            have lcd : c ≠ d := by omega
            clear lab
            refine wpAnyH_ready (rs := [6]) (by kernel_rfl) (by simp) ?_
            refine cons' rfl (fun K hK => ?_)
            have lf := fun o => lcR.frozen o
            have X := stored4 (u0 := .bool zs11) (u1 := .slice zp11 zn11 zc11) (u2 := .bool false) (u3 := .slice zq11 zm11 zd11) lc0 lc1 lc2 lc3 ld0 ld1 ld2 ld3 ldR hBW lcge lcd kS11 kT11 kS12 kT12
            go_simp
            clear lc0 lc1 lc2 lc3 ld0 ld1 ld2 ld3 lf lcR ldR hHeld hBW kS11 kT11 kS12 kT12
            generalize ((((w5413.setCell ⟨c, 0, none⟩ (.bool zs11)).setCell ⟨c, 1, none⟩ (.slice zp11 zn11 zc11)).setCell ⟨c, 2, none⟩ (.bool false)).setCell ⟨c, 3, none⟩ (.slice zq11 zm11 zd11)) = wl1 at X ⊢
            obtain ⟨lc0, lc1, lc2, lc3, ld0, ld1, ld2, ld3, ldR, hBW, kS11, kT11, kS12, kT12⟩ := X
            have lcR := ldR
            refine hK.out _ _ (kp6 (W := W) hBW ⟨Qq00, Qq01, Qq02, Qq10, Qq11, Qq12, hB⟩) ?_
            intro hHeld
            clear hK K
            try simp only [Act.put, List.setIfInBounds_toArray, List.set_cons_zero, List.set_cons_succ]
            refine wpAnyH_ready (rs := [7]) (by kernel_rfl) (by simp) ?_
            refine cons' rfl (fun K hK => ?_)
            have lf := fun o => ldR.frozen o
            have X := stored4 (u0 := .bool zs12) (u1 := .slice zp12 zn12 zc12) (u2 := .bool false) (u3 := .slice zq12 zm12 zd12) ld0 ld1 ld2 ld3 lc0 lc1 lc2 lc3 lcR hBW ldge lcd.symm kS11 kT11 kS12 kT12
            go_simp
            clear ld0 ld1 ld2 ld3 lc0 lc1 lc2 lc3 lf ldR lcR hHeld hBW kS11 kT11 kS12 kT12
            generalize ((((wl1.setCell ⟨d, 0, none⟩ (.bool zs12)).setCell ⟨d, 1, none⟩ (.slice zp12 zn12 zc12)).setCell ⟨d, 2, none⟩ (.bool false)).setCell ⟨d, 3, none⟩ (.slice zq12 zm12 zd12)) = wl2 at X ⊢
            obtain ⟨ld0, ld1, ld2, ld3, lc0, lc1, lc2, lc3, lcR, hBW, kS11, kT11, kS12, kT12⟩ := X
            have ldR := lcR
            refine hK.out _ _ (kp6 (W := W) hBW ⟨Qq00, Qq01, Qq02, Qq10, Qq11, Qq12, hB⟩) ?_
            intro hHeld
            clear hK K
            try simp only [Act.put, List.setIfInBounds_toArray, List.set_cons_zero, List.set_cons_succ]
            refine wpAnyH_done (by kernel_rfl) ?_ _
            go_wp2_with fail
            go_meet
            exact ⟨c, d, zs11, zp11, zn11, zc11, zX11, zq11, zm11, zd11, zs12, zp12, zn12, zc12, zX12, zq12, zm12, zd12, rfl, rfl, lcge, ldge, hBW, lc0, lc1, lc2, lc3, ld0, ld1, ld2, ld3, ga11, gb11, gc11, gd11, kS11, kT11, ge11, ga12, gb12, gc12, gd12, kS12, kT12, ge12⟩
          exact AllReadyH.nil
        exact AllReadyH.nil
      exact AllReadyH.nil
    exact AllReadyH.nil
  case rest =>
  clear hBW HR0 HR1
  obtain ⟨c, d, zs11, zp11, zn11, zc11, zX11, zq11, zm11, zd11, zs12, zp12, zn12, zc12, zX12, zq12, zm12, zd12, rfl, rfl, lcge, ldge, hBW, lc0, lc1, lc2, lc3, ld0, ld1, ld2, ld3, ga11, gb11, gc11, gd11, kS11, kT11, ge11, ga12, gb12, gc12, gd12, kS12, kT12, ge12⟩ := hcut
  replace q00 := below_cell hBW q00
  replace q01 := below_cell hBW q01
  replace q02 := below_cell hBW q02
  replace q10 := below_cell hBW q10
  replace q11 := below_cell hBW q11
  replace q12 := below_cell hBW q12
  replace r00 := below_cell hBW r00
  replace r01 := below_cell hBW r01
  replace r02 := below_cell hBW r02
  replace hR0 := below_row hBW hR0
  have hp : sg zs11 zX11 * sg false (rd Y1) = P := by rw [ge11]; exact HP.out
  have hd : sg false (rd Y0) * sg zs12 zX12 = D := by rw [ge12]; exact HD.out
  go_wp2_with fail
  replace hBW := hBW.drew
  replace kS11 := kS11.drew
  replace kT11 := kT11.drew
  replace kS12 := kS12.drew
  replace kT12 := kT12.drew
  first
    | go_region_held3 (fun w' => w'.cell? ⟨c, 0, none⟩ = some (.bool zs11) ∧ w'.cell? ⟨c, 1, none⟩ = some (.slice zp11 zn11 zc11) ∧ w'.cell? ⟨c, 2, none⟩ = some (.bool false) ∧ w'.cell? ⟨c, 3, none⟩ = some (.slice zq11 zm11 zd11) ∧ w'.cell? ⟨d, 0, none⟩ = some (.bool zs12) ∧ w'.cell? ⟨d, 1, none⟩ = some (.slice zp12 zn12 zc12) ∧ w'.cell? ⟨d, 2, none⟩ = some (.bool false) ∧ w'.cell? ⟨d, 3, none⟩ = some (.slice zq12 zm12 zd12) ∧ Below w.heap.size w w')
        (first | exact ⟨lc0, lc1, lc2, lc3, ld0, ld1, ld2, ld3, hB.trans (hBW.mono hB.size)⟩ | exact kp8 b21 (by assumption) | exact kp8 b22 (by assumption) | exact kp8 b23 (by assumption) | exact kp8 (below_alloc _) (by assumption) | exact kp8 (below_alloc _) ⟨lc0, lc1, lc2, lc3, ld0, ld1, ld2, ld3, hB.trans (hBW.mono hB.size)⟩ | exact kpT8_3 (by assumption) (by omega) (by omega) (by omega) (by omega) (by omega) (by omega) (by omega) (by omega) (by omega))
        (first
          | (go_at_call 40; go_at_call_of 40 (Value.agg #[Value.bool zs11, Value.slice zp11 zn11 zc11]); go_at_call_of 40 (Value.agg #[Value.bool false, Value.slice zq12 zm12 zd12]); refine (wMul_is zs11 zp11 zn11 zc11 zX11 false zq12 zm12 zd12 (rd Y1) P _ ga11 (by omega) kS11 gc12 (by omega) kT12 hp).mono ?_; rintro e w21 ⟨a21, rfl, h1⟩; have b21 := h1.below; replace h1 := h1.back hBW; replace hBW := hBW.trans (b21.mono hBW.size); replace q00 := below_cell b21 q00; replace q01 := below_cell b21 q01; replace q02 := below_cell b21 q02; replace q10 := below_cell b21 q10; replace q11 := below_cell b21 q11; replace q12 := below_cell b21 q12; replace r00 := below_cell b21 r00; replace r01 := below_cell b21 r01; replace r02 := below_cell b21 r02; replace lc0 := below_cell b21 lc0; replace lc1 := below_cell b21 lc1; replace lc2 := below_cell b21 lc2; replace lc3 := below_cell b21 lc3; replace ld0 := below_cell b21 ld0; replace ld1 := below_cell b21 ld1; replace ld2 := below_cell b21 ld2; replace ld3 := below_cell b21 ld3; replace hR0 := below_row b21 hR0; replace kS11 := kS11.later b21; replace kT11 := kT11.later b21; replace kS12 := kS12.later b21; replace kT12 := kT12.later b21)
          | (go_at_call 40; go_at_call_of 40 (Value.agg #[Value.bool false, Value.slice zq11 zm11 zd11]); go_at_call_of 40 (Value.agg #[Value.bool zs12, Value.slice zp12 zn12 zc12]); refine (wMul_is false zq11 zm11 zd11 (rd Y0) zs12 zp12 zn12 zc12 zX12 D _ gc11 (by omega) kT11 ga12 (by omega) kS12 hd).mono ?_; rintro e w22 ⟨a22, rfl, h2⟩; have b22 := h2.below; replace h2 := h2.back hBW; replace hBW := hBW.trans (b22.mono hBW.size); replace q00 := below_cell b22 q00; replace q01 := below_cell b22 q01; replace q02 := below_cell b22 q02; replace q10 := below_cell b22 q10; replace q11 := below_cell b22 q11; replace q12 := below_cell b22 q12; replace r00 := below_cell b22 r00; replace r01 := below_cell b22 r01; replace r02 := below_cell b22 r02; replace lc0 := below_cell b22 lc0; replace lc1 := below_cell b22 lc1; replace lc2 := below_cell b22 lc2; replace lc3 := below_cell b22 lc3; replace ld0 := below_cell b22 ld0; replace ld1 := below_cell b22 ld1; replace ld2 := below_cell b22 ld2; replace ld3 := below_cell b22 ld3; replace hR0 := below_row b22 hR0; replace kS11 := kS11.later b22; replace kT11 := kT11.later b22; replace kS12 := kS12.later b22; replace kT12 := kT12.later b22; replace h1 := h1.later b22)
          | (go_at_call 41; (fail_if_success clear b23); refine (H5.out _ a21 a22 h1.seg h2.seg).mono ?_; rintro e w23 ⟨p23, q23, rfl, hp23, hq23⟩; have b23 := hp23.below; replace hp23 := hp23.back hBW; replace hq23 := hq23.back hBW; replace hBW := hBW.trans (b23.mono hBW.size); replace q00 := below_cell b23 q00; replace q01 := below_cell b23 q01; replace q02 := below_cell b23 q02; replace q10 := below_cell b23 q10; replace q11 := below_cell b23 q11; replace q12 := below_cell b23 q12; replace r00 := below_cell b23 r00; replace r01 := below_cell b23 r01; replace r02 := below_cell b23 r02; replace lc0 := below_cell b23 lc0; replace lc1 := below_cell b23 lc1; replace lc2 := below_cell b23 lc2; replace lc3 := below_cell b23 lc3; replace ld0 := below_cell b23 ld0; replace ld1 := below_cell b23 ld1; replace ld2 := below_cell b23 ld2; replace ld3 := below_cell b23 ld3; replace hR0 := below_row b23 hR0; replace kS11 := kS11.later b23; replace kT11 := kT11.later b23; replace kS12 := kS12.later b23; replace kT12 := kT12.later b23; replace h1 := h1.later b23; replace h2 := h2.later b23; have fz := fun o => hR0.frozen o))
    | fail
  have fz0 := fun o => hR0.frozen o
  go_wp2
  all_goals refine bodyPost_ret (v := .tuple #[Value.agg #[Value.bool (ng Z), Value.slice p23 (ln (am Z)) (ln (am Z)), Value.slice q23 (ln V) (ln V)], .int .i64 0]) (by rw [results_ct rfl]; go_simp) rfl ?_
  all_goals exact ⟨p23, q23, rfl, hp23.mid hB (((((Mid.refl _ _ _).set _ _ (by omega) (by omega) _).set _ _ (by omega) (by omega) _).set _ _ (by omega) (by omega) _)), hq23.mid hB (((((Mid.refl _ _ _).set _ _ (by omega) (by omega) _).set _ _ (by omega) (by omega) _).set _ _ (by omega) (by omega) _))⟩
end Go.Proofs.Ytkdmciiighjffaa
