/-
  Layer 3: floors of both.
-/
import Derived.Test.YtbbbimelmjdmnaaGreatDoorWQ7
import Derived.Test.YtbbbimelmjdmnaaGreatDoorWIA
import Derived.Test.YtbbbimelmjdmnaaGreatDoorWIC
import Derived.Test.YtbbbimelmjdmnaaGreatDoorWQA
namespace Go.Proofs.YtbbbimelmjdmnaaGreatDoor
open Go.RowKit
set_option linter.unusedVariables false

theorem uniqF {t : Bool} {Y : Nat} {u v u' v' : Int} (hY : Y ≠ 0) (h : u * sg t Y + v = u' * sg t Y + v') (h0 : 0 ≤ v) (h1 : am v < Y) (h0' : 0 ≤ v') (h1' : am v' < Y) : u = u' ∧ v = v' := by
  have hd : (u - u') * sg t Y = v' - v := by rw [Int.sub_mul]; omega
  have habs : (u - u').natAbs * Y = (v' - v).natAbs := by rw [← hd, Int.natAbs_mul, sg_abs]
  have hlt : (v' - v).natAbs < Y := by unfold am at h1 h1'; omega
  have hz : (u - u').natAbs = 0 := by
    rcases Nat.eq_zero_or_pos (u - u').natAbs with h' | h'
    · exact h'
    · have : 1 * Y ≤ (u - u').natAbs * Y := Nat.mul_le_mul_right _ h'
      omega
  have e : u = u' := by omega
  subst e
  exact ⟨rfl, by omega⟩

/-- Z is the greatest whole number not above A / D -/
structure Fl (A D Z G : Int) : Prop where
  eq : Z * D + G = A
  ge : 0 ≤ G
  lt : G < D
theorem fl_ex (A : Int) {D : Int} (h : 0 < D) : ∃ Z G, Fl A D Z G := ⟨A / D, A % D, by have := Int.mul_ediv_add_emod A D; rw [Int.mul_comm]; exact this, Int.emod_nonneg _ (by omega), Int.emod_lt_of_pos _ h⟩
theorem Fl.am {A D Z G : Int} (h : Fl A D Z G) (hD : 0 < D) : am Z ≤ am A + 1 := by
  have h1 := h.eq
  have h2 := h.ge
  have h3 := h.lt
  unfold Proofs.YtbbbimelmjdmnaaGreatDoor.am
  rcases Int.lt_or_le Z 0 with k | k
  · have e1 : Z * D ≤ Z * 1 := Int.mul_le_mul_of_nonpos_left (by omega) (by omega)
    have e2 : (Z + 1) * D ≤ (Z + 1) * 1 := Int.mul_le_mul_of_nonpos_left (by omega) (by omega)
    rw [Int.add_mul] at e2
    omega
  · have e1 : Z * 1 ≤ Z * D := Int.mul_le_mul_of_nonneg_left (by omega) k
    omega

theorem Fl.same {A D Z G A' D' Z' G' : Int} (h : Fl A D Z G) (hD : 0 < D) (h' : Fl A' D' Z' G') (hD' : 0 < D') (e : A' * D = A * D') : Z' = Z := by
  have h1 := h.eq
  have h2 := h'.eq
  have a1 := h.ge
  have a2 := h.lt
  have b1 := h'.ge
  have b2 := h'.lt
  -- both are within 1 of the same number
  have e2 : (Z' - Z) * (D * D') = G * D' - G' * D := by
    rw [← h1, ← h2] at e
    grind
  have c1 : 0 ≤ G * D' := Int.mul_nonneg a1 (by omega)
  have c2 : 0 ≤ G' * D := Int.mul_nonneg b1 (by omega)
  have c3 : G * D' < D * D' := Int.mul_lt_mul_of_pos_right a2 hD'
  have c4 : G' * D < D' * D := Int.mul_lt_mul_of_pos_right b2 hD
  have c5 : D' * D = D * D' := Int.mul_comm _ _
  have hp : 0 < D * D' := Int.mul_pos hD hD'
  rcases Int.lt_trichotomy (Z' - Z) 0 with k | k | k
  · have : (Z' - Z) * (D * D') ≤ (-1) * (D * D') := Int.mul_le_mul_of_nonneg_right (by omega) (by omega)
    omega
  · omega
  · have : 1 * (D * D') ≤ (Z' - Z) * (D * D') := Int.mul_le_mul_of_nonneg_right (by omega) (by omega)
    omega

theorem wfloor_pos (s : Bool) (ao : Option Addr) (n cap X : Nat) (ao2 : Option Addr) (m cap2 Y : Nat) (Z G : Int) (w : World) (hc : n ≤ cap) (hm : n ≤ 70368744177640) (hS : Seg w ao X n) (hc2 : m ≤ cap2) (hm2 : m ≤ 70368744177640) (hS2 : Seg w ao2 Y m) (h : Fl (sg s X) (Y : Int) Z G) :
    Calls Tryz.prog 35 #[.agg #[.bool s, .slice ao n cap], .agg #[.bool false, .slice ao2 m cap2]] w fun e w' => ∃ aq ar, e = .returned (.tuple #[.agg #[.bool (ng Z), .slice aq (ln (am Z)) (ln (am Z))], .agg #[.bool (ng G), .slice ar (ln (am G)) (ln (am G))], .int .i64 0]) ∧ New w w' aq (am Z) (ln (am Z)) ∧ New w w' ar (am G) (ln (am G)) := by
  have hY : Y ≠ 0 := by have := h.ge; have := h.lt; omega
  obtain ⟨Zf, Zg, e, hs, hl, _, K⟩ := floor_of s ao n cap X false ao2 m cap2 Y hc (by omega) hc2 (by omega) hY
  have hg : 0 ≤ Zg := by
    rcases Int.lt_or_le Zg 0 with k | k
    · rw [sgn_neg k, sgn_sg hY] at hs
      simp [sd] at hs
    · exact k
  obtain ⟨rfl, rfl⟩ := uniqF (t := false) hY (h.eq.trans e.symm) h.ge (by have := h.lt; have := h.ge; unfold am; omega) hg hl
  exact K w hS hS2


set_option maxHeartbeats 2000000 in
set_option maxRecDepth 100000 in
theorem qfloor_is (s0 : Bool) (a0 : Option Addr) (n0 c0 X0 : Nat) (b0 : Option Addr) (m0 d0 Y0 : Nat) (Z G : Int) (w : World) (hc0 : n0 ≤ c0) (hm0 : n0 ≤ 70368744177600) (hS0 : Seg w a0 X0 n0) (hd0 : m0 ≤ d0) (hk0 : m0 ≤ 70368744177600) (hT0 : Seg w b0 Y0 m0) (h : Fl (sg s0 X0) (Y0 : Int) Z G) :
    Calls Tryz.prog 16 #[Value.agg #[Value.bool s0, Value.slice a0 n0 c0, Value.bool false, Value.slice b0 m0 d0]] w fun e w' => ∃ p, e = .returned (.agg #[.bool (ng Z), .slice p (ln (am Z)) (ln (am Z))]) ∧ New w w' p (am Z) (ln (am Z)) := by
  have HF := hide' (fun w' k1 k2 => wfloor_pos s0 a0 n0 c0 X0 b0 m0 d0 Y0 Z G w' hc0 (by omega) k1 hd0 (by omega) k2 h)
  clear h
  go_enter Tryz.func16, Tryz.ntmps16
  go_wp2_with fail
  obtain ⟨W, hW⟩ : ∃ W, ((w.alloc (.cells #[.bool s0, .slice a0 n0 c0, .bool false, .slice b0 m0 d0] 41)).alloc (.cells #[.bool false, .slice none 0 0] 25)) = W := ⟨_, rfl⟩
  have q00 : W.cell? ⟨w.heap.size, 0, none⟩ = some (.bool s0) := by subst hW; go_simp
  have q01 : W.cell? ⟨w.heap.size, 1, none⟩ = some (.slice a0 n0 c0) := by subst hW; go_simp
  have q02 : W.cell? ⟨w.heap.size, 2, none⟩ = some (.bool false) := by subst hW; go_simp
  have q03 : W.cell? ⟨w.heap.size, 3, none⟩ = some (.slice b0 m0 d0) := by subst hW; go_simp
  have r00 : W.cell? ⟨w.heap.size + 1, 0, none⟩ = some (.bool false) := by subst hW; go_simp
  have r01 : W.cell? ⟨w.heap.size + 1, 1, none⟩ = some (.slice none 0 0) := by subst hW; go_simp
  have hB : Below w.heap.size w W := by subst hW; exact (((Below.refl _ _).alloc (by (try simp only [World.size_alloc]); omega) _).alloc (by (try simp only [World.size_alloc]); omega) _)
  have hR0 : Row W (w.heap.size + 1) := by
    have := row_new ((w.alloc (.cells #[.bool s0, .slice a0 n0 c0, .bool false, .slice b0 m0 d0] 41))) #[.bool false, .slice none 0 0] 25
    try simp only [World.size_alloc] at this
    subst hW; exact this
  have hz : W.heap.size = w.heap.size + 1 + 1 := by subst hW; simp only [World.size_alloc]
  rw [hW]
  clear hW
  have hBW : Below W.heap.size W W := Below.refl _ _
  refine (HF.out _ (sb hS0 hB hBW) (sb hT0 hB hBW)).mono ?_
  rintro e w41 ⟨p41, q41, rfl, hp41, hq41⟩
  have b41 := hp41.below
  replace hp41 := hp41.back hBW
  replace hq41 := hq41.back hBW
  replace hBW := hBW.trans (b41.mono hBW.size)
  replace q00 := below_cell b41 q00
  replace q01 := below_cell b41 q01
  replace q02 := below_cell b41 q02
  replace q03 := below_cell b41 q03
  replace r00 := below_cell b41 r00
  replace r01 := below_cell b41 r01
  replace hR0 := below_row b41 hR0
  have hsz41 := hBW.size
  have hlt41hR0 := hR0.lt
  have l4100 : (((w41.alloc (.cells #[.bool (ng Z), .slice p41 (ln (am Z)) (ln (am Z))] 25)).alloc (.cells #[.bool (ng G), .slice q41 (ln (am G)) (ln (am G))] 25))).cell? ⟨w41.heap.size, 0, none⟩ = some (.bool (ng Z)) := by go_simp
  have l4101 : (((w41.alloc (.cells #[.bool (ng Z), .slice p41 (ln (am Z)) (ln (am Z))] 25)).alloc (.cells #[.bool (ng G), .slice q41 (ln (am G)) (ln (am G))] 25))).cell? ⟨w41.heap.size, 1, none⟩ = some (.slice p41 (ln (am Z)) (ln (am Z))) := by go_simp
  have l4110 : (((w41.alloc (.cells #[.bool (ng Z), .slice p41 (ln (am Z)) (ln (am Z))] 25)).alloc (.cells #[.bool (ng G), .slice q41 (ln (am G)) (ln (am G))] 25))).cell? ⟨w41.heap.size + 1, 0, none⟩ = some (.bool (ng G)) := by go_simp
  have l4111 : (((w41.alloc (.cells #[.bool (ng Z), .slice p41 (ln (am Z)) (ln (am Z))] 25)).alloc (.cells #[.bool (ng G), .slice q41 (ln (am G)) (ln (am G))] 25))).cell? ⟨w41.heap.size + 1, 1, none⟩ = some (.slice q41 (ln (am G)) (ln (am G))) := by go_simp
  have cb41 : Below w41.heap.size w41 (((w41.alloc (.cells #[.bool (ng Z), .slice p41 (ln (am Z)) (ln (am Z))] 25)).alloc (.cells #[.bool (ng G), .slice q41 (ln (am G)) (ln (am G))] 25))) := (((Below.refl _ _).alloc (by (try simp only [World.size_alloc]); omega) _).alloc (by (try simp only [World.size_alloc]); omega) _)
  replace hBW := hBW.trans (cb41.mono hBW.size)
  replace q00 := below_cell cb41 q00
  replace q01 := below_cell cb41 q01
  replace q02 := below_cell cb41 q02
  replace q03 := below_cell cb41 q03
  replace r00 := below_cell cb41 r00
  replace r01 := below_cell cb41 r01
  replace hR0 := below_row cb41 hR0
  replace hp41 := hp41.later cb41
  replace hq41 := hq41.later cb41
  have hL410 : Row (((w41.alloc (.cells #[.bool (ng Z), .slice p41 (ln (am Z)) (ln (am Z))] 25)).alloc (.cells #[.bool (ng G), .slice q41 (ln (am G)) (ln (am G))] 25))) (w41.heap.size) := by
    have := row_new (w41) #[.bool (ng Z), .slice p41 (ln (am Z)) (ln (am Z))] 25
    try simp only [World.size_alloc] at this
    exact (this.alloc _)
  have hL411 : Row (((w41.alloc (.cells #[.bool (ng Z), .slice p41 (ln (am Z)) (ln (am Z))] 25)).alloc (.cells #[.bool (ng G), .slice q41 (ln (am G)) (ln (am G))] 25))) (w41.heap.size + 1) := by
    have := row_new ((w41.alloc (.cells #[.bool (ng Z), .slice p41 (ln (am Z)) (ln (am Z))] 25))) #[.bool (ng G), .slice q41 (ln (am G)) (ln (am G))] 25
    try simp only [World.size_alloc] at this
    exact this
  go_upto_region 2 with fail
  generalize ((w41.alloc (.cells #[.bool (ng Z), .slice p41 (ln (am Z)) (ln (am Z))] 25)).alloc (.cells #[.bool (ng G), .slice q41 (ln (am G)) (ln (am G))] 25)) = w41x at q00 q01 q02 q03 r00 r01 l4100 l4101 l4110 l4111 hR0 hL410 hL411 hp41 hq41 hBW cb41 ⊢
  clear cb41
  have fz0 := fun o => hR0.frozen o
  go_wp2
  all_goals refine bodyPost_ret (v := .agg #[.bool (ng Z), .slice p41 (ln (am Z)) (ln (am Z))]) (by rw [results_cell rfl]; go_simp) rfl ?_
  all_goals exact ⟨p41, rfl, hp41.mid hB ((((Mid.refl _ _ _).set _ _ (by omega) (by omega) _).set _ _ (by omega) (by omega) _))⟩

set_option maxHeartbeats 4000000 in
set_option maxRecDepth 100000 in
theorem qFloor_is (s0 : Bool) (a0 : Option Addr) (n0 c0 X0 : Nat) (b0 : Option Addr) (m0 d0 Y0 : Nat) (Z G : Int) (w : World) (hc0 : n0 ≤ c0) (hm0 : n0 ≤ 35184372087808) (hS0 : Seg w a0 X0 n0) (hd0 : m0 ≤ d0) (hk0 : m0 ≤ 35184372087808) (hT0 : Seg w b0 Y0 m0) (h : Fl (rn s0 X0 Y0) (rd Y0 : Nat) Z G) :
    Calls Tryz.prog 5 #[Value.agg #[Value.bool s0, Value.slice a0 n0 c0, Value.slice b0 m0 d0]] w fun e w' => ∃ p, e = .returned (.agg #[.bool (ng Z), .slice p (ln (am Z)) (ln (am Z))]) ∧ New w w' p (am Z) (ln (am Z)) := by
  have HL := hide' h
  clear h
  go_enter Tryz.func5, Tryz.ntmps5
  go_wp2_with fail
  obtain ⟨W, hW⟩ : ∃ W, ((w.alloc (.cells #[.bool s0, .slice a0 n0 c0, .slice b0 m0 d0] 27)).alloc (.cells #[.bool false, .slice none 0 0] 25)) = W := ⟨_, rfl⟩
  have q00 : W.cell? ⟨w.heap.size, 0, none⟩ = some (.bool s0) := by subst hW; go_simp
  have q01 : W.cell? ⟨w.heap.size, 1, none⟩ = some (.slice a0 n0 c0) := by subst hW; go_simp
  have q02 : W.cell? ⟨w.heap.size, 2, none⟩ = some (.slice b0 m0 d0) := by subst hW; go_simp
  have r00 : W.cell? ⟨w.heap.size + 1, 0, none⟩ = some (.bool false) := by subst hW; go_simp
  have r01 : W.cell? ⟨w.heap.size + 1, 1, none⟩ = some (.slice none 0 0) := by subst hW; go_simp
  have hB : Below w.heap.size w W := by subst hW; exact (((Below.refl _ _).alloc (by (try simp only [World.size_alloc]); omega) _).alloc (by (try simp only [World.size_alloc]); omega) _)
  have hR0 : Row W (w.heap.size + 1) := by
    have := row_new ((w.alloc (.cells #[.bool s0, .slice a0 n0 c0, .slice b0 m0 d0] 27))) #[.bool false, .slice none 0 0] 25
    try simp only [World.size_alloc] at this
    subst hW; exact this
  have hz : W.heap.size = w.heap.size + 1 + 1 := by subst hW; simp only [World.size_alloc]
  rw [hW]
  clear hW
  have hBW : Below W.heap.size W W := Below.refl _ _
  go_wp2_with fail
  refine (read_is s0 a0 n0 c0 X0 b0 m0 d0 Y0 35184372087808 _ hc0 hm0 (sb hS0 hB hBW) hd0 hk0 (sb hT0 hB hBW) (by omega) (by omega)).mono ?_
  rintro e w41 ⟨zs41, zp41, zn41, zc41, zX41, zq41, zm41, zd41, rfl, ga41, gb41, gc41, gd41, kS41, kT41, ge41, bb41⟩
  have b41 := bb41
  replace hBW := hBW.trans (b41.mono hBW.size)
  replace q00 := below_cell b41 q00
  replace q01 := below_cell b41 q01
  replace q02 := below_cell b41 q02
  replace r00 := below_cell b41 r00
  replace r01 := below_cell b41 r01
  replace hR0 := below_row b41 hR0
  go_wp2_with fail
  refine (qfloor_is zs41 zp41 zn41 zc41 zX41 zq41 zm41 zd41 (rd Y0) Z G _ ga41 (by omega) kS41 gc41 (by omega) kT41 (by rw [ge41]; exact HL.out)).mono ?_
  rintro e w42 ⟨p42, rfl, hp42⟩
  have b42 := hp42.below
  replace hp42 := hp42.back hBW
  replace hBW := hBW.trans (b42.mono hBW.size)
  replace q00 := below_cell b42 q00
  replace q01 := below_cell b42 q01
  replace q02 := below_cell b42 q02
  replace r00 := below_cell b42 r00
  replace r01 := below_cell b42 r01
  replace hR0 := below_row b42 hR0
  replace kS41 := kS41.later b42
  replace kT41 := kT41.later b42
  have fz0 := fun o => hR0.frozen o
  go_wp2
  all_goals refine bodyPost_ret (v := .agg #[.bool (ng Z), .slice p42 (ln (am Z)) (ln (am Z))]) (by rw [results_cell rfl]; go_simp) rfl ?_
  all_goals exact ⟨p42, rfl, hp42.mid hB ((((Mid.refl _ _ _).set _ _ (by omega) (by omega) _).set _ _ (by omega) (by omega) _))⟩

set_option maxHeartbeats 4000000 in
set_option maxRecDepth 100000 in
theorem qCeil_is (s0 : Bool) (a0 : Option Addr) (n0 c0 X0 : Nat) (b0 : Option Addr) (m0 d0 Y0 : Nat) (Z G Z2 : Int) (w : World) (hc0 : n0 ≤ c0) (hm0 : n0 ≤ 35184372087808) (hS0 : Seg w a0 X0 n0) (hd0 : m0 ≤ d0) (hk0 : m0 ≤ 35184372087808) (hT0 : Seg w b0 Y0 m0) (h : Fl (-(rn s0 X0 Y0)) (rd Y0 : Nat) Z G) (h2 : -Z = Z2) :
    Calls Tryz.prog 7 #[Value.agg #[Value.bool s0, Value.slice a0 n0 c0, Value.slice b0 m0 d0]] w fun e w' => ∃ p, e = .returned (.agg #[.bool (ng Z2), .slice p (ln (am Z2)) (ln (am Z2))]) ∧ New w w' p (am Z2) (ln (am Z2)) := by
  have lZ : ln (am Z) ≤ 35184372087810 := by
    have h3 := h.am (by have := rd_pos Y0; omega)
    rw [am_neg] at h3
    have h4 := rn_am s0 X0 Y0
    have h5 := ln_sum (Nat.lt_of_le_of_lt h4 hS0.1) (show 1 < BB ^ 1 by rw [Nat.pow_one, BB_eq]; omega) (k := 35184372087810) (by omega) (by omega)
    exact Nat.le_trans (ln_mono h3) h5
  have HN := hide' (fun w' p k => wNeg_is (ng Z) p (ln (am Z)) (ln (am Z)) (am Z) Z2 w' (Nat.le_refl _) (by omega) k (by rw [sg_na]; exact h2))
  have HL := hide' h
  clear h h2
  go_enter Tryz.func7, Tryz.ntmps7
  go_wp2_with fail
  obtain ⟨W, hW⟩ : ∃ W, ((w.alloc (.cells #[.bool s0, .slice a0 n0 c0, .slice b0 m0 d0] 27)).alloc (.cells #[.bool false, .slice none 0 0] 25)) = W := ⟨_, rfl⟩
  have q00 : W.cell? ⟨w.heap.size, 0, none⟩ = some (.bool s0) := by subst hW; go_simp
  have q01 : W.cell? ⟨w.heap.size, 1, none⟩ = some (.slice a0 n0 c0) := by subst hW; go_simp
  have q02 : W.cell? ⟨w.heap.size, 2, none⟩ = some (.slice b0 m0 d0) := by subst hW; go_simp
  have r00 : W.cell? ⟨w.heap.size + 1, 0, none⟩ = some (.bool false) := by subst hW; go_simp
  have r01 : W.cell? ⟨w.heap.size + 1, 1, none⟩ = some (.slice none 0 0) := by subst hW; go_simp
  have hB : Below w.heap.size w W := by subst hW; exact (((Below.refl _ _).alloc (by (try simp only [World.size_alloc]); omega) _).alloc (by (try simp only [World.size_alloc]); omega) _)
  have hR0 : Row W (w.heap.size + 1) := by
    have := row_new ((w.alloc (.cells #[.bool s0, .slice a0 n0 c0, .slice b0 m0 d0] 27))) #[.bool false, .slice none 0 0] 25
    try simp only [World.size_alloc] at this
    subst hW; exact this
  have hz : W.heap.size = w.heap.size + 1 + 1 := by subst hW; simp only [World.size_alloc]
  rw [hW]
  clear hW
  have hBW : Below W.heap.size W W := Below.refl _ _
  go_wp2_with fail
  refine (read_is s0 a0 n0 c0 X0 b0 m0 d0 Y0 35184372087808 _ hc0 hm0 (sb hS0 hB hBW) hd0 hk0 (sb hT0 hB hBW) (by omega) (by omega)).mono ?_
  rintro e w41 ⟨zs41, zp41, zn41, zc41, zX41, zq41, zm41, zd41, rfl, ga41, gb41, gc41, gd41, kS41, kT41, ge41, bb41⟩
  have b41 := bb41
  replace hBW := hBW.trans (b41.mono hBW.size)
  replace q00 := below_cell b41 q00
  replace q01 := below_cell b41 q01
  replace q02 := below_cell b41 q02
  replace r00 := below_cell b41 r00
  replace r01 := below_cell b41 r01
  replace hR0 := below_row b41 hR0
  go_wp2_with fail
  refine (opposite_is zs41 zp41 zn41 zc41 false zq41 zm41 zd41 _).mono ?_
  rintro e w42 ⟨rfl, b42⟩
  replace hBW := hBW.trans (b42.mono hBW.size)
  replace q00 := below_cell b42 q00
  replace q01 := below_cell b42 q01
  replace q02 := below_cell b42 q02
  replace r00 := below_cell b42 r00
  replace r01 := below_cell b42 r01
  replace hR0 := below_row b42 hR0
  replace kS41 := kS41.later b42
  replace kT41 := kT41.later b42
  go_wp2_with fail
  refine (qfloor_is (!zs41) zp41 zn41 zc41 zX41 zq41 zm41 zd41 (rd Y0) Z G _ ga41 (by omega) kS41 gc41 (by omega) kT41 (by rw [sg_not, ge41]; exact HL.out)).mono ?_
  rintro e w43 ⟨p43, rfl, hp43⟩
  have b43 := hp43.below
  replace hp43 := hp43.back hBW
  replace hBW := hBW.trans (b43.mono hBW.size)
  replace q00 := below_cell b43 q00
  replace q01 := below_cell b43 q01
  replace q02 := below_cell b43 q02
  replace r00 := below_cell b43 r00
  replace r01 := below_cell b43 r01
  replace hR0 := below_row b43 hR0
  replace kS41 := kS41.later b43
  replace kT41 := kT41.later b43
  go_wp2_with fail
  refine (HN.out _ p43 hp43.seg).mono ?_
  rintro e w44 ⟨a44, rfl, h9⟩
  have b44 := h9.below
  replace h9 := h9.back hBW
  replace hBW := hBW.trans (b44.mono hBW.size)
  replace q00 := below_cell b44 q00
  replace q01 := below_cell b44 q01
  replace q02 := below_cell b44 q02
  replace r00 := below_cell b44 r00
  replace r01 := below_cell b44 r01
  replace hR0 := below_row b44 hR0
  replace kS41 := kS41.later b44
  replace kT41 := kT41.later b44
  replace hp43 := hp43.later b44
  have fz0 := fun o => hR0.frozen o
  go_wp2
  all_goals refine bodyPost_ret (v := .agg #[.bool (ng Z2), .slice a44 (ln (am Z2)) (ln (am Z2))]) (by rw [results_cell rfl]; go_simp) rfl ?_
  all_goals exact ⟨a44, rfl, h9.mid hB ((((Mid.refl _ _ _).set _ _ (by omega) (by omega) _).set _ _ (by omega) (by omega) _))⟩

set_option maxHeartbeats 1000000 in
theorem sameInt_is (Z : Int) (p p2 : Option Addr) (w : World) (hm : ln (am Z) ≤ 70368744177664) (hS : Seg w p (am Z) (ln (am Z))) (hS2 : Seg w p2 (am Z) (ln (am Z))) :
    Calls Tryz.prog 12 #[.agg #[.bool (ng Z), .slice p (ln (am Z)) (ln (am Z))], .agg #[.bool (ng Z), .slice p2 (ln (am Z)) (ln (am Z))]] w fun e w' => e = .returned (.bool true) ∧ Below w.heap.size w w' := by
  have hs := sameB_self (ln (am Z)) (am Z)
  have hbb : (ng Z == ng Z) = true := by simp
  have H1 := hide' (fun w' k1 k2 => Same_any p p2 (ln (am Z)) (ln (am Z)) (am Z) (ln (am Z)) (ln (am Z)) (am Z) w' hm hm k1 k2)
  go_enter Tryz.func12, Tryz.ntmps12
  go_wp2_with fail
  obtain ⟨W, hW⟩ : ∃ W, ((w.alloc (.cells #[.bool (ng Z), .slice p (ln (am Z)) (ln (am Z))] 25)).alloc (.cells #[.bool (ng Z), .slice p2 (ln (am Z)) (ln (am Z))] 25)) = W := ⟨_, rfl⟩
  have q00 : W.cell? ⟨w.heap.size, 0, none⟩ = some (.bool (ng Z)) := by subst hW; go_simp
  have q01 : W.cell? ⟨w.heap.size, 1, none⟩ = some (.slice p (ln (am Z)) (ln (am Z))) := by subst hW; go_simp
  have q10 : W.cell? ⟨w.heap.size + 1, 0, none⟩ = some (.bool (ng Z)) := by subst hW; go_simp
  have q11 : W.cell? ⟨w.heap.size + 1, 1, none⟩ = some (.slice p2 (ln (am Z)) (ln (am Z))) := by subst hW; go_simp
  have hB : Below w.heap.size w W := by subst hW; exact (((Below.refl _ _).alloc (by (try simp only [World.size_alloc]); omega) _).alloc (by (try simp only [World.size_alloc]); omega) _)
  have hz : W.heap.size = w.heap.size + 1 + 1 := by subst hW; simp only [World.size_alloc]
  rw [hW]
  clear hW
  have hBW : Below W.heap.size W W := Below.refl _ _
  refine (H1.out _ (sb hS hB hBW) (sb hS2 hB hBW)).mono ?_
  rintro e w41 ⟨rfl, dd41⟩
  have b41 := dd41.below W.heap.size
  replace hBW := hBW.trans (b41.mono hBW.size)
  replace q00 := below_cell b41 q00
  replace q01 := below_cell b41 q01
  replace q10 := below_cell b41 q10
  replace q11 := below_cell b41 q11
  go_wp2
  go_ret
  exact ⟨rfl, hB.trans (hBW.mono hB.size)⟩
end Go.Proofs.YtbbbimelmjdmnaaGreatDoor
