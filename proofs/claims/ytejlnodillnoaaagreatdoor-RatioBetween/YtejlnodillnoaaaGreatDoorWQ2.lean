import Derived.Test.YtejlnodillnoaaaGreatDoorWQ1
set_option linter.unusedSimpArgs false
namespace Go.Proofs.YtejlnodillnoaaaGreatDoor
open Go.RowKit
set_option linter.unusedVariables false
theorem lowest_is (s : Bool) (ao : Option Addr) (n cap X : Nat) (ao2 : Option Addr) (m cap2 Y V : Nat) (Z : Int) (w : World) (hc : n ≤ cap) (hm : n ≤ 70368744177660) (hS : Seg w ao X n) (hc2 : m ≤ cap2) (hm2 : m ≤ 70368744177660) (hS2 : Seg w ao2 Y m) (hL : Low (sg s X) (Y : Int) Z V) :
    Calls Tryz.prog 69 #[.agg #[.bool s, .slice ao n cap, .bool false, .slice ao2 m cap2]] w fun e w' => ∃ p q, e = .returned (.agg #[.bool (ng Z), .slice p (ln (am Z)) (ln (am Z)), .slice q (ln V) (ln V)]) ∧ New w w' p (am Z) (ln (am Z)) ∧ New w w' q V (ln V) := by
  have hY : Y ≠ 0 := by have := hL.ne; omega
  obtain ⟨P, Q, hP, hQ⟩ := gcd_parts X Y
  have h := low_made s false hY rfl hP hQ
  simp only [Bool.false_eq_true, if_false] at h
  obtain ⟨rfl, rfl⟩ := hL.uniq h rfl
  exact lowest_pos s ao n cap X ao2 m cap2 Y P V _ w hc hm hS hc2 hm2 hS2 hY hP hQ rfl
set_option maxHeartbeats 1000000 in
theorem opposite_is (s : Bool) (ao : Option Addr) (n cap : Nat) (t : Bool) (ao2 : Option Addr) (m cap2 : Nat) (w : World) :
    Calls Tryz.prog 29 #[.agg #[.bool s, .slice ao n cap, .bool t, .slice ao2 m cap2]] w fun e w' => e = .returned (.agg #[.bool (!s), .slice ao n cap, .bool t, .slice ao2 m cap2]) ∧ Below w.heap.size w w' := by
  go_enter Tryz.func29, Tryz.ntmps29
  have hB : Below w.heap.size w ((w.alloc (.cells #[.bool (!s), .slice ao n cap, .bool t, .slice ao2 m cap2] 43)).alloc (.cells #[.bool (!s), .slice ao n cap, .bool t, .slice ao2 m cap2] 43)) := ((Below.refl _ _).alloc (Nat.le_refl _) _).alloc (by rw [World.size_alloc]; omega) _
  go_wp2
  refine bodyPost_ret (v := .agg #[.bool (!s), .slice ao n cap, .bool t, .slice ao2 m cap2]) (by rw [results_cell rfl]; go_simp) rfl ?_
  exact ⟨rfl, hB⟩
set_option maxHeartbeats 2000000 in
set_option maxRecDepth 100000 in
theorem order_is (s0 : Bool) (a0 : Option Addr) (n0 c0 X0 : Nat) (b0 : Option Addr) (m0 d0 Y0 : Nat) (s1 : Bool) (a1 : Option Addr) (n1 c1 X1 : Nat) (b1 : Option Addr) (m1 d1 Y1 : Nat) (A0 A1 C : Int) (w : World) (hc0 : n0 ≤ c0) (hm0 : n0 ≤ 35184372088000) (hS0 : Seg w a0 X0 n0) (hd0 : m0 ≤ d0) (hk0 : m0 ≤ 35184372088000) (hT0 : Seg w b0 Y0 m0) (hc1 : n1 ≤ c1) (hm1 : n1 ≤ 35184372088000) (hS1 : Seg w a1 X1 n1) (hd1 : m1 ≤ d1) (hk1 : m1 ≤ 35184372088000) (hT1 : Seg w b1 Y1 m1) (h0 : sg s0 X0 = A0) (h1 : sg s1 X1 = A1) (hC : sgn (A0 * (Y1 : Int) - A1 * (Y0 : Int)) = C) :
    Calls Tryz.prog 23 #[Value.agg #[Value.bool s0, Value.slice a0 n0 c0, Value.bool false, Value.slice b0 m0 d0], Value.agg #[Value.bool s1, Value.slice a1 n1 c1, Value.bool false, Value.slice b1 m1 d1]] w fun e w' => e = .returned (.int .i64 C) ∧ Below w.heap.size w w' := by
  obtain ⟨P, hP⟩ : ∃ P, A0 * (Y1 : Int) = P := ⟨_, rfl⟩
  obtain ⟨Q, hQ⟩ : ∃ Q, A1 * (Y0 : Int) = Q := ⟨_, rfl⟩
  rw [hP, hQ] at hC
  have hp : sg s0 X0 * sg false Y1 = P := by rw [h0]; exact hP
  have hq : sg s1 X1 * sg false Y0 = Q := by rw [h1]; exact hQ
  have lp : ln (am P) ≤ 70368744176010 := by rw [← hp, am_mul, am_sg, am_sg]; have := ln_prod hS0.1 hT1.1; omega
  have lq : ln (am Q) ≤ 70368744176010 := by rw [← hq, am_mul, am_sg, am_sg]; have := ln_prod hS1.1 hT0.1; omega
  have KC : ∀ w' p q, Seg w' p (am P) (ln (am P)) → Seg w' q (am Q) (ln (am Q)) → Calls Tryz.prog 49 #[.agg #[.bool (ng P), .slice p (ln (am P)) (ln (am P))], .agg #[.bool (ng Q), .slice q (ln (am Q)) (ln (am Q))]] w' fun e w'' => e = .returned (.int .i64 C) ∧ Below w'.heap.size w' w'' := fun w' p q k1 k2 => by
    have := wCmp_is (ng P) p _ _ (am P) (ng Q) q _ _ (am Q) w' (Nat.le_refl _) (by omega) k1 (Nat.le_refl _) (by omega) k2
    rwa [sg_na, sg_na, hC] at this
  have H1 := hide' (fun w' k1 k2 => wMul_is s0 a0 n0 c0 X0 false b1 m1 d1 Y1 P w' hc0 (by omega) k1 hd1 (by omega) k2 hp)
  have H2 := hide' (fun w' k1 k2 => wMul_is s1 a1 n1 c1 X1 false b0 m0 d0 Y0 Q w' hc1 (by omega) k1 hd0 (by omega) k2 hq)
  have H3 := hide' KC
  clear KC hC hP hQ hp hq h0 h1
  go_enter Tryz.func23, Tryz.ntmps23
  go_wp2_with fail
  obtain ⟨W, hW⟩ : ∃ W, ((w.alloc (.cells #[.bool s0, .slice a0 n0 c0, .bool false, .slice b0 m0 d0] 43)).alloc (.cells #[.bool s1, .slice a1 n1 c1, .bool false, .slice b1 m1 d1] 43)) = W := ⟨_, rfl⟩
  have q00 : W.cell? ⟨w.heap.size, 0, none⟩ = some (.bool s0) := by subst hW; go_simp
  have q01 : W.cell? ⟨w.heap.size, 1, none⟩ = some (.slice a0 n0 c0) := by subst hW; go_simp
  have q02 : W.cell? ⟨w.heap.size, 2, none⟩ = some (.bool false) := by subst hW; go_simp
  have q03 : W.cell? ⟨w.heap.size, 3, none⟩ = some (.slice b0 m0 d0) := by subst hW; go_simp
  have q10 : W.cell? ⟨w.heap.size + 1, 0, none⟩ = some (.bool s1) := by subst hW; go_simp
  have q11 : W.cell? ⟨w.heap.size + 1, 1, none⟩ = some (.slice a1 n1 c1) := by subst hW; go_simp
  have q12 : W.cell? ⟨w.heap.size + 1, 2, none⟩ = some (.bool false) := by subst hW; go_simp
  have q13 : W.cell? ⟨w.heap.size + 1, 3, none⟩ = some (.slice b1 m1 d1) := by subst hW; go_simp
  have hB : Below w.heap.size w W := by subst hW; exact (((Below.refl _ _).alloc (by (try simp only [World.size_alloc]); omega) _).alloc (by (try simp only [World.size_alloc]); omega) _)
  have hz : W.heap.size = w.heap.size + 1 + 1 := by subst hW; simp only [World.size_alloc]
  rw [hW]
  clear hW
  have hBW : Below W.heap.size W W := Below.refl _ _
  replace hBW := hBW.drew
  first
    | go_region_held3 (fun w' => w'.cell? ⟨w.heap.size, 0, none⟩ = some (.bool s0) ∧ w'.cell? ⟨w.heap.size, 1, none⟩ = some (.slice a0 n0 c0) ∧ w'.cell? ⟨w.heap.size, 2, none⟩ = some (.bool false) ∧ w'.cell? ⟨w.heap.size, 3, none⟩ = some (.slice b0 m0 d0) ∧ w'.cell? ⟨w.heap.size + 1, 0, none⟩ = some (.bool s1) ∧ w'.cell? ⟨w.heap.size + 1, 1, none⟩ = some (.slice a1 n1 c1) ∧ w'.cell? ⟨w.heap.size + 1, 2, none⟩ = some (.bool false) ∧ w'.cell? ⟨w.heap.size + 1, 3, none⟩ = some (.slice b1 m1 d1) ∧ Below w.heap.size w w')
        (first | exact ⟨q00, q01, q02, q03, q10, q11, q12, q13, hB.trans (hBW.mono hB.size)⟩ | exact kp8 b11 (by assumption) | exact kp8 b12 (by assumption) | exact kp8 b13 (by assumption) | exact kp8 (below_alloc _) (by assumption))
        (first
          | (go_at_call 63; go_at_call_of 63 (Value.agg #[Value.bool s0, Value.slice a0 n0 c0]); go_at_call_of 63 (Value.agg #[Value.bool false, Value.slice b1 m1 d1]); refine (H1.out _ (sb hS0 hB hBW) (sb hT1 hB hBW)).mono ?_; rintro e w11 ⟨a11, rfl, h1⟩; have b11 := h1.below; replace h1 := h1.back hBW; replace hBW := hBW.trans (b11.mono hBW.size); replace q00 := below_cell b11 q00; replace q01 := below_cell b11 q01; replace q02 := below_cell b11 q02; replace q03 := below_cell b11 q03; replace q10 := below_cell b11 q10; replace q11 := below_cell b11 q11; replace q12 := below_cell b11 q12; replace q13 := below_cell b11 q13)
          | (go_at_call 63; go_at_call_of 63 (Value.agg #[Value.bool s1, Value.slice a1 n1 c1]); go_at_call_of 63 (Value.agg #[Value.bool false, Value.slice b0 m0 d0]); refine (H2.out _ (sb hS1 hB hBW) (sb hT0 hB hBW)).mono ?_; rintro e w12 ⟨a12, rfl, h2⟩; have b12 := h2.below; replace h2 := h2.back hBW; replace hBW := hBW.trans (b12.mono hBW.size); replace q00 := below_cell b12 q00; replace q01 := below_cell b12 q01; replace q02 := below_cell b12 q02; replace q03 := below_cell b12 q03; replace q10 := below_cell b12 q10; replace q11 := below_cell b12 q11; replace q12 := below_cell b12 q12; replace q13 := below_cell b12 q13; replace h1 := h1.later b12)
          | (go_at_call 49; refine (H3.out _ a11 a12 h1.seg h2.seg).mono ?_; rintro e w13 ⟨rfl, b13⟩; replace hBW := hBW.trans (b13.mono hBW.size); replace q00 := below_cell b13 q00; replace q01 := below_cell b13 q01; replace q02 := below_cell b13 q02; replace q03 := below_cell b13 q03; replace q10 := below_cell b13 q10; replace q11 := below_cell b13 q11; replace q12 := below_cell b13 q12; replace q13 := below_cell b13 q13; replace h1 := h1.later b13; replace h2 := h2.later b13))
    | fail
  go_wp2
  go_ret
  exact ⟨rfl, hB.trans (hBW.mono hB.size)⟩
set_option maxHeartbeats 2000000 in
set_option maxRecDepth 100000 in
theorem qNeg_is (s0 : Bool) (a0 : Option Addr) (n0 c0 X0 : Nat) (b0 : Option Addr) (m0 d0 Y0 : Nat) (Z : Int) (V : Nat) (w : World) (hc0 : n0 ≤ c0) (hm0 : n0 ≤ 35184372088000) (hS0 : Seg w a0 X0 n0) (hd0 : m0 ≤ d0) (hk0 : m0 ≤ 35184372088000) (hT0 : Seg w b0 Y0 m0) (hL : Low (-(rn s0 X0 Y0)) (rd Y0 : Nat) Z V) :
    Calls Tryz.prog 28 #[Value.agg #[Value.bool s0, Value.slice a0 n0 c0, Value.slice b0 m0 d0]] w fun e w' => ∃ p q, e = .returned (.agg #[.bool (ng Z), .slice p (ln (am Z)) (ln (am Z)), .slice q (ln V) (ln V)]) ∧ New w w' p (am Z) (ln (am Z)) ∧ New w w' q V (ln V) := by
  have HL := hide' hL
  clear hL
  go_enter Tryz.func28, Tryz.ntmps28
  go_wp2_with fail
  obtain ⟨W, hW⟩ : ∃ W, ((w.alloc (.cells #[.bool s0, .slice a0 n0 c0, .slice b0 m0 d0] 27)).alloc (.cells #[.bool false, .slice none 0 0, .slice none 0 0] 27)) = W := ⟨_, rfl⟩
  have q00 : W.cell? ⟨w.heap.size, 0, none⟩ = some (.bool s0) := by subst hW; go_simp
  have q01 : W.cell? ⟨w.heap.size, 1, none⟩ = some (.slice a0 n0 c0) := by subst hW; go_simp
  have q02 : W.cell? ⟨w.heap.size, 2, none⟩ = some (.slice b0 m0 d0) := by subst hW; go_simp
  have r00 : W.cell? ⟨w.heap.size + 1, 0, none⟩ = some (.bool false) := by subst hW; go_simp
  have r01 : W.cell? ⟨w.heap.size + 1, 1, none⟩ = some (.slice none 0 0) := by subst hW; go_simp
  have r02 : W.cell? ⟨w.heap.size + 1, 2, none⟩ = some (.slice none 0 0) := by subst hW; go_simp
  have hB : Below w.heap.size w W := by subst hW; exact (((Below.refl _ _).alloc (by (try simp only [World.size_alloc]); omega) _).alloc (by (try simp only [World.size_alloc]); omega) _)
  have hR0 : Row W (w.heap.size + 1) := by
    have := row_new ((w.alloc (.cells #[.bool s0, .slice a0 n0 c0, .slice b0 m0 d0] 27))) #[.bool false, .slice none 0 0, .slice none 0 0] 27
    try simp only [World.size_alloc] at this
    subst hW; exact this
  have hz : W.heap.size = w.heap.size + 1 + 1 := by subst hW; simp only [World.size_alloc]
  rw [hW]
  clear hW
  have hBW : Below W.heap.size W W := Below.refl _ _
  go_wp2_with fail
  refine (read_is s0 a0 n0 c0 X0 b0 m0 d0 Y0 35184372088000 _ hc0 hm0 (sb hS0 hB hBW) hd0 hk0 (sb hT0 hB hBW) (by omega) (by omega)).mono ?_
  rintro e w11 ⟨zs11, zp11, zn11, zc11, zX11, zq11, zm11, zd11, rfl, ga11, gb11, gc11, gd11, kS11, kT11, ge11, bb11⟩
  have b11 := bb11
  replace hBW := hBW.trans (b11.mono hBW.size)
  replace q00 := below_cell b11 q00
  replace q01 := below_cell b11 q01
  replace q02 := below_cell b11 q02
  replace r00 := below_cell b11 r00
  replace r01 := below_cell b11 r01
  replace r02 := below_cell b11 r02
  replace hR0 := below_row b11 hR0
  go_wp2_with fail
  refine (opposite_is zs11 zp11 zn11 zc11 false zq11 zm11 zd11 _).mono ?_
  rintro e w12 ⟨rfl, b12⟩
  replace hBW := hBW.trans (b12.mono hBW.size)
  replace q00 := below_cell b12 q00
  replace q01 := below_cell b12 q01
  replace q02 := below_cell b12 q02
  replace r00 := below_cell b12 r00
  replace r01 := below_cell b12 r01
  replace r02 := below_cell b12 r02
  replace hR0 := below_row b12 hR0
  replace kS11 := kS11.later b12
  replace kT11 := kT11.later b12
  go_wp2_with fail
  refine (lowest_is (!zs11) zp11 zn11 zc11 zX11 zq11 zm11 zd11 (rd Y0) V Z _ ga11 (by omega) kS11 gc11 (by omega) kT11 (by rw [sg_not, ge11]; exact HL.out)).mono ?_
  rintro e w13 ⟨p13, q13, rfl, hp13, hq13⟩
  have b13 := hp13.below
  replace hp13 := hp13.back hBW
  replace hq13 := hq13.back hBW
  replace hBW := hBW.trans (b13.mono hBW.size)
  replace q00 := below_cell b13 q00
  replace q01 := below_cell b13 q01
  replace q02 := below_cell b13 q02
  replace r00 := below_cell b13 r00
  replace r01 := below_cell b13 r01
  replace r02 := below_cell b13 r02
  replace hR0 := below_row b13 hR0
  replace kS11 := kS11.later b13
  replace kT11 := kT11.later b13
  have fz0 := fun o => hR0.frozen o
  go_wp2
  all_goals refine bodyPost_ret (v := Value.agg #[Value.bool (ng Z), Value.slice p13 (ln (am Z)) (ln (am Z)), Value.slice q13 (ln V) (ln V)]) (by rw [results_cell rfl]; go_simp) rfl ?_
  all_goals exact ⟨p13, q13, rfl, hp13.mid hB (((((Mid.refl _ _ _).set _ _ (by omega) (by omega) _).set _ _ (by omega) (by omega) _).set _ _ (by omega) (by omega) _)), hq13.mid hB (((((Mid.refl _ _ _).set _ _ (by omega) (by omega) _).set _ _ (by omega) (by omega) _).set _ _ (by omega) (by omega) _))⟩
end Go.Proofs.YtejlnodillnoaaaGreatDoor
