/-
  RatioFloorLeast.
-/
import Derived.Test.YtbbbimelmjdmnaaGreatDoorWQF
import Derived.Test.YtbbbimelmjdmnaaGreatDoorWQ9
import Derived.Test.YtbbbimelmjdmnaaGreatDoorWQE
import Derived.Test.YtbbbimelmjdmnaaGreatDoorWQA
import Derived.Test.YtbbbimelmjdmnaaGreatDoorWH
import Derived.Test.YtbbbimelmjdmnaaGreatDoorOpenQ
import Derived.Test.YtbbbimelmjdmnaaGreatDoorCards
import Derived.Test.YtbbbimelmjdmnaaGreatDoorTie
import Derived.Deep.DeepHandedRow
import Derived.Lib.LaidTab
namespace Go.Proofs.YtbbbimelmjdmnaaGreatDoor.ratioFloorLeast
open Go.ChangeShapes Go.WideShapes Go.ChangeAt Go.RowKit Go.Proofs.YtbbbimelmjdmnaaGreatDoor
set_option linter.unusedVariables false

theorem rd_ltM2 {Y m : Nat} (h : Y < BB ^ m) : rd Y < BB ^ (max m 1) := by
  unfold rd
  split
  · exact Nat.lt_of_lt_of_le (show 1 < BB ^ 1 by rw [Nat.pow_one, BB_eq]; omega) (pow_mono (by omega))
  · exact Nat.lt_of_lt_of_le h (pow_mono (by omega))
theorem fl_ln {A D Z G : Int} {i k : Nat} (h : Fl A D Z G) (hD : 0 < D) (hA : am A < BB ^ i) (hi : i + 1 ≤ k) (h1 : 2 ≤ k) : ln (am Z) ≤ k := by
  have h3 := h.am hD
  have h5 := ln_sum hA (show 1 < BB ^ 1 by rw [Nat.pow_one, BB_eq]; omega) (k := k) hi h1
  exact Nat.le_trans (ln_mono h3) h5
theorem seg_one {w : World} {b : Nat} (h : w.cell? ⟨b, 0, none⟩ = some (.int .u32 1)) : Seg w (some ⟨b, 0, none⟩) 1 1 :=
  Seg.mk' (by rw [Nat.pow_one, BB_eq]; omega) (World.block_lt_of_cell? w _ h) (fun i hi => by
    obtain rfl : i = 0 := by omega
    rw [Nat.zero_add, h, show dg 1 0 = 1 by rw [dg0]]
    rfl)
theorem sgn_np {Z : Int} (h : Z ≤ 0) : sgn Z = -1 ∨ sgn Z = 0 := by
  rcases Int.lt_or_le Z 0 with k | k
  · exact Or.inl (sgn_neg k)
  · have : Z = 0 := by omega
    rw [this]; exact Or.inr rfl

set_option maxHeartbeats 2000000 in
set_option maxRecDepth 100000 in
theorem vqInt_is (Z : Int) (p0 : Option Addr) (w : World) (lZ : ln (am Z) ≤ 35184372087812) (hS : Seg w p0 (am Z) (ln (am Z))) :
    Calls Tryz.prog 4 #[.agg #[.bool (ng Z), .slice p0 (ln (am Z)) (ln (am Z))]] w fun e w' => ∃ p q, e = .returned (.agg #[.bool (ng Z), .slice p (ln (am Z)) (ln (am Z)), .slice q (ln 1) (ln 1)]) ∧ New w w' p (am Z) (ln (am Z)) ∧ New w w' q 1 (ln 1) := by
  have hL : Low (rn (ng Z) (am Z) 1) ((rd 1 : Nat) : Int) Z 1 := Low.nf (Low.self (by omega) (by simp)) (by omega)
  obtain ⟨V, hV⟩ : ∃ V : Nat, 1 = V := ⟨_, rfl⟩
  have P2 : ∀ w' p q, Seg w' p (am Z) (ln (am Z)) → Seg w' q 1 1 → Calls Tryz.prog 15 #[.agg #[.bool (ng Z), .slice p (ln (am Z)) (ln (am Z)), .slice q 1 1]] w' fun e w'' => ∃ p q, e = .returned (.agg #[.bool (ng Z), .slice p (ln (am Z)) (ln (am Z)), .slice q (ln V) (ln V)]) ∧ New w' w'' p (am Z) (ln (am Z)) ∧ New w' w'' q V (ln V) := fun w' p q k1 k2 => by
    subst hV
    exact vqNorm_is (ng Z) p (ln (am Z)) (ln (am Z)) (am Z) q 1 1 1 1 Z w' (by omega) k1 (by omega) k2 hL
  have H2 := hide' P2
  rw [show ln 1 = ln V by rw [hV]]
  have e1 : ∀ w' q, New w w' q 1 (ln V) ↔ New w w' q V (ln V) := fun w' q => by rw [← hV]
  simp only [e1]
  clear P2 hL hV e1
  go_enter Tryz.func4, Tryz.ntmps4
  go_wp2_with fail
  obtain ⟨W, hW⟩ : ∃ W, (((w.alloc (.cells #[.bool (ng Z), .slice p0 (ln (am Z)) (ln (am Z))] 25)).alloc (.cells #[.bool false, .slice none 0 0, .slice none 0 0] 27)).alloc (.cells #[.int .u32 1] 38)) = W := ⟨_, rfl⟩
  have q00 : W.cell? ⟨w.heap.size, 0, none⟩ = some (.bool (ng Z)) := by subst hW; go_simp
  have q01 : W.cell? ⟨w.heap.size, 1, none⟩ = some (.slice p0 (ln (am Z)) (ln (am Z))) := by subst hW; go_simp
  have r00 : W.cell? ⟨w.heap.size + 1, 0, none⟩ = some (.bool false) := by subst hW; go_simp
  have r01 : W.cell? ⟨w.heap.size + 1, 1, none⟩ = some (.slice none 0 0) := by subst hW; go_simp
  have r02 : W.cell? ⟨w.heap.size + 1, 2, none⟩ = some (.slice none 0 0) := by subst hW; go_simp
  have r10 : W.cell? ⟨w.heap.size + 1 + 1, 0, none⟩ = some (.int .u32 1) := by subst hW; go_simp
  have hB : Below w.heap.size w W := by subst hW; exact ((((Below.refl _ _).alloc (by (try simp only [World.size_alloc]); omega) _).alloc (by (try simp only [World.size_alloc]); omega) _).alloc (by (try simp only [World.size_alloc]); omega) _)
  have hR0 : Row W (w.heap.size + 1) := by
    have := row_new ((w.alloc (.cells #[.bool (ng Z), .slice p0 (ln (am Z)) (ln (am Z))] 25))) #[.bool false, .slice none 0 0, .slice none 0 0] 27
    try simp only [World.size_alloc] at this
    subst hW; exact (this.alloc _)
  have hR1 : Row W (w.heap.size + 1 + 1) := by
    have := row_new (((w.alloc (.cells #[.bool (ng Z), .slice p0 (ln (am Z)) (ln (am Z))] 25)).alloc (.cells #[.bool false, .slice none 0 0, .slice none 0 0] 27))) #[.int .u32 1] 38
    try simp only [World.size_alloc] at this
    subst hW; exact this
  have hz : W.heap.size = w.heap.size + 1 + 1 + 1 := by subst hW; simp only [World.size_alloc]
  rw [hW]
  clear hW
  have hBW : Below W.heap.size W W := Below.refl _ _
  refine (H2.out _ p0 _ (sb hS hB hBW) (seg_one r10)).mono ?_
  rintro e w41 ⟨p41, q41, rfl, hp41, hq41⟩
  have b41 := hp41.below
  replace hp41 := hp41.back hBW
  replace hq41 := hq41.back hBW
  replace hBW := hBW.trans (b41.mono hBW.size)
  replace q00 := below_cell b41 q00
  replace q01 := below_cell b41 q01
  replace r00 := below_cell b41 r00
  replace r01 := below_cell b41 r01
  replace r02 := below_cell b41 r02
  replace r10 := below_cell b41 r10
  replace hR0 := below_row b41 hR0
  replace hR1 := below_row b41 hR1
  have fz0 := fun o => hR0.frozen o
  have fz1 := fun o => hR1.frozen o
  go_wp2
  all_goals refine bodyPost_ret (v := Value.agg #[Value.bool (ng Z), Value.slice p41 (ln (am Z)) (ln (am Z)), Value.slice q41 (ln V) (ln V)]) (by rw [results_cell rfl]; go_simp) rfl ?_
  all_goals exact ⟨p41, q41, rfl, hp41.mid hB (((((Mid.refl _ _ _).set _ _ (by omega) (by omega) _).set _ _ (by omega) (by omega) _).set _ _ (by omega) (by omega) _)), hq41.mid hB (((((Mid.refl _ _ _).set _ _ (by omega) (by omega) _).set _ _ (by omega) (by omega) _).set _ _ (by omega) (by omega) _))⟩


set_option maxHeartbeats 8000000 in
set_option maxRecDepth 100000 in
theorem walk (s0 : Bool) (a0 : Option Addr) (n0 c0 X0 : Nat) (b0 : Option Addr) (m0 d0 Y0 : Nat) (w : World) (hc0 : n0 ≤ c0) (hm0 : n0 ≤ 35184372087808) (hS0 : Seg w a0 X0 n0) (hd0 : m0 ≤ d0) (hk0 : m0 ≤ 35184372087808) (hT0 : Seg w b0 Y0 m0) (hDg : Digits w) :
    Calls Tryz.prog 3 #[Value.agg #[Value.bool s0, Value.slice a0 n0 c0, Value.slice b0 m0 d0]] w fun e w' => e = .returned (.bool true) ∧ Below w.heap.size w w' := by
  have hD : (0 : Int) < ((rd Y0 : Nat) : Int) := by have := rd_pos Y0; omega
  have l0 := Nat.lt_of_le_of_lt (rn_am s0 X0 Y0) hS0.1
  obtain ⟨Z, G, h1⟩ := fl_ex (rn s0 X0 Y0) hD
  obtain ⟨Y, H, h2⟩ := fl_ex (-(rn s0 X0 Y0)) hD
  obtain ⟨Y2, h3⟩ : ∃ Y2, -Y = Y2 := ⟨_, rfl⟩
  obtain ⟨ZN, VN, hN⟩ := low_ex (-(rn s0 X0 Y0)) (rd Y0 : Nat) (rd_ne Y0)
  obtain ⟨Y', H', h4⟩ := fl_ex ZN (D := (VN : Int)) (by have := hN.pos; omega)
  have eY : Y' = Y := h2.same hD h4 (by have := hN.pos; omega) (by have := hN.eq; omega)
  rw [eY] at h4
  have h5 : Fl (rn (ng ZN) (am ZN) VN) ((rd VN : Nat) : Int) Y H' := by rw [rn_nf hN.pos, rd_nf hN.pos]; exact h4
  have lZ : ln (am Z) ≤ 35184372087812 := fl_ln h1 hD l0 (by omega) (by omega)
  have lY : ln (am Y) ≤ 35184372087812 := fl_ln h2 hD (by rw [am_neg]; exact l0) (by omega) (by omega)
  have lY2 : ln (am Y2) ≤ 35184372087812 := by rw [← h3, am_neg]; exact lY
  have hlN := hN.le
  rw [am_neg, am_nat] at hlN
  have lZN : ln (am ZN) ≤ n0 := ln_le_of_lt (Nat.lt_of_le_of_lt hlN.1 l0)
  have lVN : ln VN ≤ max m0 1 := ln_le_of_lt (Nat.lt_of_le_of_lt hlN.2 (rd_ltM2 hT0.1))
  obtain ⟨O1, hO1⟩ : ∃ O1 : Nat, 1 = O1 := ⟨_, rfl⟩
  obtain ⟨J1, hJ1⟩ : ∃ J1 : Int, 1 = J1 := ⟨_, rfl⟩
  have lO : ln O1 ≤ 2 := by rw [← hO1, ln_one]; omega
  have lJ : ln (am J1) ≤ 2 := by rw [← hJ1]; exact ln_le_of_lt (by rw [BB2]; decide)
  have hO0 : 0 < O1 := by omega
  -- f less r, and r less f less 1
  have hDD : (((rd Y0 : Nat) : Int) * ((rd O1 : Nat) : Int)) ≠ 0 := Int.mul_ne_zero (rd_ne Y0) (rd_ne O1)
  obtain ⟨ZD, VD, hS2⟩ := low_ex (rn s0 X0 Y0 * ((rd O1 : Nat) : Int) + -(rn (ng Z) (am Z) O1) * ((rd Y0 : Nat) : Int)) _ hDD
  obtain ⟨C1, hC1⟩ : ∃ C1, sgn (rn (ng Z) (am Z) O1 * ((rd Y0 : Nat) : Int) - rn s0 X0 Y0 * ((rd O1 : Nat) : Int)) = C1 := ⟨_, rfl⟩
  obtain ⟨C2, hC2⟩ : ∃ C2, sgn (rn (ng ZD) (am ZD) VD * ((rd O1 : Nat) : Int) - rn (ng J1) (am J1) O1 * ((rd VD : Nat) : Int)) = C2 := ⟨_, rfl⟩
  have b1 : (C1 ≤ 0) = True := by
    rw [rn_nf hO0, rd_nf hO0, ← hO1] at hC1
    have e := h1.eq
    have g := h1.ge
    have hle : Z * ((rd Y0 : Nat) : Int) - rn s0 X0 Y0 * ((1 : Nat) : Int) ≤ 0 := by omega
    rcases sgn_np hle with k | k <;> rw [k] at hC1 <;> simp [← hC1]
  have b2 : (C2 < 0) = True := by
    rw [rn_nf hS2.pos, rd_nf hO0, rn_nf hO0, rd_nf hS2.pos, ← hO1, ← hJ1] at hC2
    have e := h1.eq
    have g := h1.lt
    have e2 := hS2.eq
    rw [rn_nf hO0, rd_nf hO0, ← hO1] at e2
    have p2 := hS2.pos
    have key : ZD < (VD : Int) := by
      have e3 : ZD * ((rd Y0 : Nat) : Int) = G * VD := by
        have e4 : rn s0 X0 Y0 * ((1 : Nat) : Int) + -Z * ((rd Y0 : Nat) : Int) = G := by rw [Int.neg_mul]; omega
        rw [e4] at e2
        have e5 : ((rd Y0 : Nat) : Int) * ((1 : Nat) : Int) = ((rd Y0 : Nat) : Int) := by omega
        rw [e5] at e2
        exact e2
      have e6 : G * (VD : Int) < ((rd Y0 : Nat) : Int) * VD := Int.mul_lt_mul_of_pos_right g (by omega)
      rw [← e3, Int.mul_comm ((rd Y0 : Nat) : Int)] at e6
      exact Int.lt_of_mul_lt_mul_right e6 (Int.le_of_lt hD)
    rw [sgn_neg (by omega)] at hC2
    simp [← hC2]
  have eG : rn s0 X0 Y0 * ((rd O1 : Nat) : Int) + -(rn (ng Z) (am Z) O1) * ((rd Y0 : Nat) : Int) = G := by
    rw [rn_nf hO0, rd_nf hO0, ← hO1]
    have e := h1.eq
    rw [Int.neg_mul]
    omega
  have eE : (((rd Y0 : Nat) : Int) * ((rd O1 : Nat) : Int)) = ((rd Y0 : Nat) : Int) := by rw [rd_nf hO0, ← hO1]; omega
  have hG9 : am G < BB ^ (m0 + 1) := by
    have g1 := h1.ge
    have g2 := h1.lt
    have g3 := rd_lt hT0.1
    unfold am
    omega
  have eD := ln1 hS2 (by rw [eG]; exact hG9) (by rw [eE, am_nat]; exact rd_lt hT0.1) (k := 35184372087812) (by omega) (by omega)
  clear eG eE hG9
  obtain ⟨eD0, eD1⟩ := eD
  have HI : ∀ w' p0, Seg w' p0 (am Z) (ln (am Z)) → Calls Tryz.prog 4 #[.agg #[.bool (ng Z), .slice p0 (ln (am Z)) (ln (am Z))]] w' fun e w'' => ∃ p q, e = .returned (.agg #[.bool (ng Z), .slice p (ln (am Z)) (ln (am Z)), .slice q (ln O1) (ln O1)]) ∧ New w' w'' p (am Z) (ln (am Z)) ∧ New w' w'' q O1 (ln O1) := fun w' p0 k => by subst hO1; exact vqInt_is Z p0 w' lZ k
  have HW : ∀ w', Calls Tryz.prog 11 #[.int .i64 1] w' fun e w'' => ∃ p q, e = .returned (.agg #[.bool (ng J1), .slice p (ln (am J1)) (ln (am J1)), .slice q (ln O1) (ln O1)]) ∧ New w' w'' p (am J1) (ln (am J1)) ∧ New w' w'' q O1 (ln O1) := fun w' => by subst hO1 hJ1; exact vqWhole_is 1 w' (by omega) (by omega)
  have KI := hide' HI
  have KW := hide' HW
  have G1 := hide' h1
  have G2 := hide' h2
  have G3 := hide' h3
  have G5 := hide' h5
  have GN := hide' hN
  have GS := hide' hS2
  have GC1 := hide' hC1
  have GC2 := hide' hC2
  have KN := hide' (fun w' p k => vNeg_is (ng Y) p (ln (am Y)) (ln (am Y)) (am Y) Y2 w' (by omega) k (by rw [sg_na]; exact h3))
  have GD := hide' hDg
  clear h1 h2 h3 h4 h5 hN hS2 hC1 hC2 hDg hD l0 HI HW hO1 hJ1 hO0 hDD hlN eY
  go_enter Tryz.func3, Tryz.ntmps3
  go_wp2_with fail
  obtain ⟨W, hW⟩ : ∃ W, (w.alloc (.cells #[.bool s0, .slice a0 n0 c0, .slice b0 m0 d0] 27)) = W := ⟨_, rfl⟩
  have q00 : W.cell? ⟨w.heap.size, 0, none⟩ = some (.bool s0) := by subst hW; go_simp
  have q01 : W.cell? ⟨w.heap.size, 1, none⟩ = some (.slice a0 n0 c0) := by subst hW; go_simp
  have q02 : W.cell? ⟨w.heap.size, 2, none⟩ = some (.slice b0 m0 d0) := by subst hW; go_simp
  have hB : Below w.heap.size w W := by subst hW; exact ((Below.refl _ _).alloc (by (try simp only [World.size_alloc]); omega) _)
  have hz : W.heap.size = w.heap.size + 1 := by subst hW; simp only [World.size_alloc]
  rw [hW]
  clear hW
  have hBW : Below W.heap.size W W := Below.refl _ _
  refine (ltwin_is s0 a0 n0 c0 X0 b0 m0 d0 Y0 _ hc0 (by omega) (sb hS0 hB hBW) hd0 (by omega) (sb hT0 hB hBW)).mono ?_
  rintro e w41 ⟨p41, q41, rfl, hp41, hq41⟩
  have b41 := hp41.below
  replace hp41 := hp41.back hBW
  replace hq41 := hq41.back hBW
  replace hBW := hBW.trans (b41.mono hBW.size)
  replace q00 := below_cell b41 q00
  replace q01 := below_cell b41 q01
  replace q02 := below_cell b41 q02
  go_wp2_with fail
  refine (qFloor_is s0 p41 n0 n0 X0 q41 m0 m0 Y0 Z G _ (Nat.le_refl _) (by omega) hp41.seg (Nat.le_refl _) (by omega) hq41.seg G1.out).mono ?_
  rintro e w42 ⟨p42, rfl, hp42⟩
  have b42 := hp42.below
  replace hp42 := hp42.back hBW
  replace hBW := hBW.trans (b42.mono hBW.size)
  replace q00 := below_cell b42 q00
  replace q01 := below_cell b42 q01
  replace q02 := below_cell b42 q02
  replace hp41 := hp41.later b42
  replace hq41 := hq41.later b42
  go_wp2_with fail
  refine (KI.out _ p42 hp42.seg).mono ?_
  rintro e w43 ⟨p43, q43, rfl, hp43, hq43⟩
  have b43 := hp43.below
  replace hp43 := hp43.back hBW
  replace hq43 := hq43.back hBW
  replace hBW := hBW.trans (b43.mono hBW.size)
  replace q00 := below_cell b43 q00
  replace q01 := below_cell b43 q01
  replace q02 := below_cell b43 q02
  replace hp41 := hp41.later b43
  replace hq41 := hq41.later b43
  replace hp42 := hp42.later b43
  have hsz43 := hBW.size
  have l4300 : ((w43.alloc (.cells #[.bool (ng Z), .slice p43 (ln (am Z)) (ln (am Z)), .slice q43 (ln O1) (ln O1)] 27))).cell? ⟨w43.heap.size, 0, none⟩ = some (.bool (ng Z)) := by go_simp
  have l4301 : ((w43.alloc (.cells #[.bool (ng Z), .slice p43 (ln (am Z)) (ln (am Z)), .slice q43 (ln O1) (ln O1)] 27))).cell? ⟨w43.heap.size, 1, none⟩ = some (.slice p43 (ln (am Z)) (ln (am Z))) := by go_simp
  have l4302 : ((w43.alloc (.cells #[.bool (ng Z), .slice p43 (ln (am Z)) (ln (am Z)), .slice q43 (ln O1) (ln O1)] 27))).cell? ⟨w43.heap.size, 2, none⟩ = some (.slice q43 (ln O1) (ln O1)) := by go_simp
  have cb43 : Below w43.heap.size w43 ((w43.alloc (.cells #[.bool (ng Z), .slice p43 (ln (am Z)) (ln (am Z)), .slice q43 (ln O1) (ln O1)] 27))) := ((Below.refl _ _).alloc (by (try simp only [World.size_alloc]); omega) _)
  replace hBW := hBW.trans (cb43.mono hBW.size)
  replace q00 := below_cell cb43 q00
  replace q01 := below_cell cb43 q01
  replace q02 := below_cell cb43 q02
  replace hp41 := hp41.later cb43
  replace hq41 := hq41.later cb43
  replace hp42 := hp42.later cb43
  replace hp43 := hp43.later cb43
  replace hq43 := hq43.later cb43
  have hL430 : Row ((w43.alloc (.cells #[.bool (ng Z), .slice p43 (ln (am Z)) (ln (am Z)), .slice q43 (ln O1) (ln O1)] 27))) (w43.heap.size) := by
    have := row_new (w43) #[.bool (ng Z), .slice p43 (ln (am Z)) (ln (am Z)), .slice q43 (ln O1) (ln O1)] 27
    try simp only [World.size_alloc] at this
    exact this
  go_wp2_with fail
  generalize (w43.alloc (.cells #[.bool (ng Z), .slice p43 (ln (am Z)) (ln (am Z)), .slice q43 (ln O1) (ln O1)] 27)) = w43x at q00 q01 q02 l4300 l4301 l4302 hL430 hp41 hq41 hp42 hp43 hq43 hBW cb43 ⊢
  clear cb43
  refine (ltwin_is s0 a0 n0 c0 X0 b0 m0 d0 Y0 _ hc0 (by omega) (sb hS0 hB hBW) hd0 (by omega) (sb hT0 hB hBW)).mono ?_
  rintro e w44 ⟨p44, q44, rfl, hp44, hq44⟩
  have b44 := hp44.below
  replace hp44 := hp44.back hBW
  replace hq44 := hq44.back hBW
  replace hBW := hBW.trans (b44.mono hBW.size)
  replace q00 := below_cell b44 q00
  replace q01 := below_cell b44 q01
  replace q02 := below_cell b44 q02
  replace l4300 := below_cell b44 l4300
  replace l4301 := below_cell b44 l4301
  replace l4302 := below_cell b44 l4302
  replace hL430 := below_row b44 hL430
  replace hp41 := hp41.later b44
  replace hq41 := hq41.later b44
  replace hp42 := hp42.later b44
  replace hp43 := hp43.later b44
  replace hq43 := hq43.later b44
  go_wp2_with fail
  refine (qCeil_is s0 p44 n0 n0 X0 q44 m0 m0 Y0 Y H Y2 _ (Nat.le_refl _) (by omega) hp44.seg (Nat.le_refl _) (by omega) hq44.seg G2.out G3.out).mono ?_
  rintro e w45 ⟨p45, rfl, hp45⟩
  have b45 := hp45.below
  replace hp45 := hp45.back hBW
  replace hBW := hBW.trans (b45.mono hBW.size)
  replace q00 := below_cell b45 q00
  replace q01 := below_cell b45 q01
  replace q02 := below_cell b45 q02
  replace l4300 := below_cell b45 l4300
  replace l4301 := below_cell b45 l4301
  replace l4302 := below_cell b45 l4302
  replace hL430 := below_row b45 hL430
  replace hp41 := hp41.later b45
  replace hq41 := hq41.later b45
  replace hp42 := hp42.later b45
  replace hp43 := hp43.later b45
  replace hq43 := hq43.later b45
  replace hp44 := hp44.later b45
  replace hq44 := hq44.later b45
  clear hp41 hq41 hp42 hp44 hq44
  have hsz45 := hBW.size
  have hlt45hL430 := hL430.lt
  have l4500 : ((w45.alloc (.cells #[.bool (ng Y2), .slice p45 (ln (am Y2)) (ln (am Y2))] 25))).cell? ⟨w45.heap.size, 0, none⟩ = some (.bool (ng Y2)) := by go_simp
  have l4501 : ((w45.alloc (.cells #[.bool (ng Y2), .slice p45 (ln (am Y2)) (ln (am Y2))] 25))).cell? ⟨w45.heap.size, 1, none⟩ = some (.slice p45 (ln (am Y2)) (ln (am Y2))) := by go_simp
  have cb45 : Below w45.heap.size w45 ((w45.alloc (.cells #[.bool (ng Y2), .slice p45 (ln (am Y2)) (ln (am Y2))] 25))) := ((Below.refl _ _).alloc (by (try simp only [World.size_alloc]); omega) _)
  replace hBW := hBW.trans (cb45.mono hBW.size)
  replace q00 := below_cell cb45 q00
  replace q01 := below_cell cb45 q01
  replace q02 := below_cell cb45 q02
  replace l4300 := below_cell cb45 l4300
  replace l4301 := below_cell cb45 l4301
  replace l4302 := below_cell cb45 l4302
  replace hL430 := below_row cb45 hL430
  replace hp43 := hp43.later cb45
  replace hq43 := hq43.later cb45
  replace hp45 := hp45.later cb45
  have hL450 : Row ((w45.alloc (.cells #[.bool (ng Y2), .slice p45 (ln (am Y2)) (ln (am Y2))] 25))) (w45.heap.size) := by
    have := row_new (w45) #[.bool (ng Y2), .slice p45 (ln (am Y2)) (ln (am Y2))] 25
    try simp only [World.size_alloc] at this
    exact this
  go_wp2_with fail
  generalize (w45.alloc (.cells #[.bool (ng Y2), .slice p45 (ln (am Y2)) (ln (am Y2))] 25)) = w45x at q00 q01 q02 l4300 l4301 l4302 l4500 l4501 hL430 hL450 hp43 hq43 hp45 hBW cb45 ⊢
  clear cb45
  replace hBW := hBW.drew
  replace hp43 := hp43.drew
  replace hq43 := hq43.drew
  replace hp45 := hp45.drew
  first
    | go_region_held3 (fun w' => w'.cell? ⟨w.heap.size, 0, none⟩ = some (.bool s0) ∧ w'.cell? ⟨w.heap.size, 1, none⟩ = some (.slice a0 n0 c0) ∧ w'.cell? ⟨w.heap.size, 2, none⟩ = some (.slice b0 m0 d0) ∧ w'.cell? ⟨w43.heap.size, 0, none⟩ = some (.bool (ng Z)) ∧ w'.cell? ⟨w43.heap.size, 1, none⟩ = some (.slice p43 (ln (am Z)) (ln (am Z))) ∧ w'.cell? ⟨w43.heap.size, 2, none⟩ = some (.slice q43 (ln O1) (ln O1)) ∧ w'.cell? ⟨w45.heap.size, 0, none⟩ = some (.bool (ng Y2)) ∧ w'.cell? ⟨w45.heap.size, 1, none⟩ = some (.slice p45 (ln (am Y2)) (ln (am Y2))) ∧ Below w.heap.size w w')
        (first | exact ⟨q00, q01, q02, l4300, l4301, l4302, l4500, l4501, hB.trans (hBW.mono hB.size)⟩ | exact kp8 b46 (by assumption) | exact kp8 b47 (by assumption) | exact kp8 b48 (by assumption) | exact kp8 b49 (by assumption) | exact kp8 b50 (by assumption) | exact kp8 b51 (by assumption) | exact kp8 b52 (by assumption) | exact kp8 b53 (by assumption) | exact kp8 b54 (by assumption) | exact kp8 b55 (by assumption) | exact kp8 (below_alloc _) (by assumption))
        (first
          | (go_at_call 8; refine (half_is _ (GD.out.below (hB.trans (hBW.mono hB.size)))).mono ?_; rintro e w46 ⟨rfl, b46⟩; replace hBW := hBW.trans (b46.mono hBW.size); replace q00 := below_cell b46 q00; replace q01 := below_cell b46 q01; replace q02 := below_cell b46 q02; replace l4300 := below_cell b46 l4300; replace l4301 := below_cell b46 l4301; replace l4302 := below_cell b46 l4302; replace l4500 := below_cell b46 l4500; replace l4501 := below_cell b46 l4501; replace hL430 := below_row b46 hL430; replace hL450 := below_row b46 hL450; replace hp43 := hp43.later b46; replace hq43 := hq43.later b46; replace hp45 := hp45.later b46)
          | (go_at_call 9; go_at_call_of 9 (Value.agg #[Value.bool (ng Z), Value.slice p43 (ln (am Z)) (ln (am Z)), Value.slice q43 (ln O1) (ln O1)]); refine (vqCmp_is (ng Z) p43 (ln (am Z)) (ln (am Z)) (am Z) q43 (ln O1) (ln O1) O1 s0 a0 n0 c0 X0 b0 m0 d0 Y0 C1 _ (Nat.le_refl _) (by omega) hp43.seg (Nat.le_refl _) (by omega) hq43.seg hc0 (by omega) (sb hS0 hB hBW) hd0 (by omega) (sb hT0 hB hBW) GC1.out).mono ?_; rintro e w47 ⟨rfl, b47⟩; replace hBW := hBW.trans (b47.mono hBW.size); replace q00 := below_cell b47 q00; replace q01 := below_cell b47 q01; replace q02 := below_cell b47 q02; replace l4300 := below_cell b47 l4300; replace l4301 := below_cell b47 l4301; replace l4302 := below_cell b47 l4302; replace l4500 := below_cell b47 l4500; replace l4501 := below_cell b47 l4501; replace hL430 := below_row b47 hL430; replace hL450 := below_row b47 hL450; replace hp43 := hp43.later b47; replace hq43 := hq43.later b47; replace hp45 := hp45.later b47)
          | (go_at_call 10; (fail_if_success clear b48); refine (vqSub_is s0 a0 n0 c0 X0 b0 m0 d0 Y0 (ng Z) p43 (ln (am Z)) (ln (am Z)) (am Z) q43 (ln O1) (ln O1) O1 ZD VD _ hc0 (by omega) (sb hS0 hB hBW) hd0 (by omega) (sb hT0 hB hBW) (Nat.le_refl _) (by omega) hp43.seg (Nat.le_refl _) (by omega) hq43.seg GS.out).mono ?_; rintro e w48 ⟨p48, q48, rfl, hp48, hq48⟩; have b48 := hp48.below; replace hp48 := hp48.back hBW; replace hq48 := hq48.back hBW; replace hBW := hBW.trans (b48.mono hBW.size); replace q00 := below_cell b48 q00; replace q01 := below_cell b48 q01; replace q02 := below_cell b48 q02; replace l4300 := below_cell b48 l4300; replace l4301 := below_cell b48 l4301; replace l4302 := below_cell b48 l4302; replace l4500 := below_cell b48 l4500; replace l4501 := below_cell b48 l4501; replace hL430 := below_row b48 hL430; replace hL450 := below_row b48 hL450; replace hp43 := hp43.later b48; replace hq43 := hq43.later b48; replace hp45 := hp45.later b48)
          | (go_at_call 11; (fail_if_success clear b49); refine (KW.out _).mono ?_; rintro e w49 ⟨p49, q49, rfl, hp49, hq49⟩; have b49 := hp49.below; replace hp49 := hp49.back hBW; replace hq49 := hq49.back hBW; replace hBW := hBW.trans (b49.mono hBW.size); replace q00 := below_cell b49 q00; replace q01 := below_cell b49 q01; replace q02 := below_cell b49 q02; replace l4300 := below_cell b49 l4300; replace l4301 := below_cell b49 l4301; replace l4302 := below_cell b49 l4302; replace l4500 := below_cell b49 l4500; replace l4501 := below_cell b49 l4501; replace hL430 := below_row b49 hL430; replace hL450 := below_row b49 hL450; replace hp43 := hp43.later b49; replace hq43 := hq43.later b49; replace hp45 := hp45.later b49; replace hp48 := hp48.later b49; replace hq48 := hq48.later b49)
          | (go_at_call 9; go_at_call_of 9 (Value.agg #[Value.bool (ng ZD), Value.slice p48 (ln (am ZD)) (ln (am ZD)), Value.slice q48 (ln VD) (ln VD)]); refine (vqCmp_is (ng ZD) p48 (ln (am ZD)) (ln (am ZD)) (am ZD) q48 (ln VD) (ln VD) VD (ng J1) p49 (ln (am J1)) (ln (am J1)) (am J1) q49 (ln O1) (ln O1) O1 C2 _ (Nat.le_refl _) (by omega) hp48.seg (Nat.le_refl _) (by omega) hq48.seg (Nat.le_refl _) (by omega) hp49.seg (Nat.le_refl _) (by omega) hq49.seg GC2.out).mono ?_; rintro e w50 ⟨rfl, b50⟩; replace hBW := hBW.trans (b50.mono hBW.size); replace q00 := below_cell b50 q00; replace q01 := below_cell b50 q01; replace q02 := below_cell b50 q02; replace l4300 := below_cell b50 l4300; replace l4301 := below_cell b50 l4301; replace l4302 := below_cell b50 l4302; replace l4500 := below_cell b50 l4500; replace l4501 := below_cell b50 l4501; replace hL430 := below_row b50 hL430; replace hL450 := below_row b50 hL450; replace hp43 := hp43.later b50; replace hq43 := hq43.later b50; replace hp45 := hp45.later b50; replace hp48 := hp48.later b50; replace hq48 := hq48.later b50; replace hp49 := hp49.later b50; replace hq49 := hq49.later b50; clear hp48 hq48 hp49 hq49)
          | (go_at_call 6; go_at_call_of 6 (Value.agg #[Value.bool s0, Value.slice a0 n0 c0, Value.slice b0 m0 d0]); (fail_if_success clear b51); refine (ltwin_is s0 a0 n0 c0 X0 b0 m0 d0 Y0 _ hc0 (by omega) (sb hS0 hB hBW) hd0 (by omega) (sb hT0 hB hBW)).mono ?_; rintro e w51 ⟨p51, q51, rfl, hp51, hq51⟩; have b51 := hp51.below; replace hp51 := hp51.back hBW; replace hq51 := hq51.back hBW; replace hBW := hBW.trans (b51.mono hBW.size); replace q00 := below_cell b51 q00; replace q01 := below_cell b51 q01; replace q02 := below_cell b51 q02; replace l4300 := below_cell b51 l4300; replace l4301 := below_cell b51 l4301; replace l4302 := below_cell b51 l4302; replace l4500 := below_cell b51 l4500; replace l4501 := below_cell b51 l4501; replace hL430 := below_row b51 hL430; replace hL450 := below_row b51 hL450; replace hp43 := hp43.later b51; replace hq43 := hq43.later b51; replace hp45 := hp45.later b51)
          | (go_at_call 14; (fail_if_success clear b52); refine (qNeg_is s0 p51 n0 n0 X0 q51 m0 m0 Y0 ZN VN _ (Nat.le_refl _) (by omega) hp51.seg (Nat.le_refl _) (by omega) hq51.seg GN.out).mono ?_; rintro e w52 ⟨p52, q52, rfl, hp52, hq52⟩; have b52 := hp52.below; replace hp52 := hp52.back hBW; replace hq52 := hq52.back hBW; replace hBW := hBW.trans (b52.mono hBW.size); replace q00 := below_cell b52 q00; replace q01 := below_cell b52 q01; replace q02 := below_cell b52 q02; replace l4300 := below_cell b52 l4300; replace l4301 := below_cell b52 l4301; replace l4302 := below_cell b52 l4302; replace l4500 := below_cell b52 l4500; replace l4501 := below_cell b52 l4501; replace hL430 := below_row b52 hL430; replace hL450 := below_row b52 hL450; replace hp43 := hp43.later b52; replace hq43 := hq43.later b52; replace hp45 := hp45.later b52; replace hp51 := hp51.later b52; replace hq51 := hq51.later b52)
          | (go_at_call 5; (fail_if_success clear b53); refine (qFloor_is (ng ZN) p52 (ln (am ZN)) (ln (am ZN)) (am ZN) q52 (ln VN) (ln VN) VN Y H' _ (Nat.le_refl _) (by omega) hp52.seg (Nat.le_refl _) (by omega) hq52.seg G5.out).mono ?_; rintro e w53 ⟨p53, rfl, hp53⟩; have b53 := hp53.below; replace hp53 := hp53.back hBW; replace hBW := hBW.trans (b53.mono hBW.size); replace q00 := below_cell b53 q00; replace q01 := below_cell b53 q01; replace q02 := below_cell b53 q02; replace l4300 := below_cell b53 l4300; replace l4301 := below_cell b53 l4301; replace l4302 := below_cell b53 l4302; replace l4500 := below_cell b53 l4500; replace l4501 := below_cell b53 l4501; replace hL430 := below_row b53 hL430; replace hL450 := below_row b53 hL450; replace hp43 := hp43.later b53; replace hq43 := hq43.later b53; replace hp45 := hp45.later b53; replace hp51 := hp51.later b53; replace hq51 := hq51.later b53; replace hp52 := hp52.later b53; replace hq52 := hq52.later b53)
          | (go_at_call 13; (fail_if_success clear b54); refine (KN.out _ p53 hp53.seg).mono ?_; rintro e w54 ⟨a54, rfl, h9⟩; have b54 := h9.below; replace h9 := h9.back hBW; replace hBW := hBW.trans (b54.mono hBW.size); replace q00 := below_cell b54 q00; replace q01 := below_cell b54 q01; replace q02 := below_cell b54 q02; replace l4300 := below_cell b54 l4300; replace l4301 := below_cell b54 l4301; replace l4302 := below_cell b54 l4302; replace l4500 := below_cell b54 l4500; replace l4501 := below_cell b54 l4501; replace hL430 := below_row b54 hL430; replace hL450 := below_row b54 hL450; replace hp43 := hp43.later b54; replace hq43 := hq43.later b54; replace hp45 := hp45.later b54; replace hp51 := hp51.later b54; replace hq51 := hq51.later b54; replace hp52 := hp52.later b54; replace hq52 := hq52.later b54; replace hp53 := hp53.later b54)
          | (go_at_call 12; refine (sameInt_is Y2 p45 a54 _ (by omega) hp45.seg h9.seg).mono ?_; rintro e w55 ⟨rfl, b55⟩; replace hBW := hBW.trans (b55.mono hBW.size); replace q00 := below_cell b55 q00; replace q01 := below_cell b55 q01; replace q02 := below_cell b55 q02; replace l4300 := below_cell b55 l4300; replace l4301 := below_cell b55 l4301; replace l4302 := below_cell b55 l4302; replace l4500 := below_cell b55 l4500; replace l4501 := below_cell b55 l4501; replace hL430 := below_row b55 hL430; replace hL450 := below_row b55 hL450; replace hp43 := hp43.later b55; replace hq43 := hq43.later b55; replace hp45 := hp45.later b55; replace hp51 := hp51.later b55; replace hq51 := hq51.later b55; replace hp52 := hp52.later b55; replace hq52 := hq52.later b55; replace hp53 := hp53.later b55; replace h9 := h9.later b55))
    | fail
  go_wp2
  go_ret
  exact ⟨rfl, hB.trans (hBW.mono hB.size)⟩

theorem gTab : Tryz.prog.globalNamed "fulcrum/nat.digits" = some 1 := by kernel_rfl
theorem gTabType : (Tryz.prog.globals[1]?).map (·.type) = some 116 := by kernel_rfl
theorem cellsA : Tryz.prog.cellsOf 116 = 16 := by kernel_rfl
theorem cells8 : Tryz.prog.cellsOf 5 = 1 := by kernel_rfl
theorem table {W : World} (h : laidMetH Tryz.prog Rows.ratioFloorLeastRow.laid W) : Lib.TabIs Tryz.prog W "fulcrum/nat.digits" .u8 [48, 49, 50, 51, 52, 53, 54, 55, 56, 57, 97, 98, 99, 100, 101, 102] :=
  Lib.tabIs_of_head (rest := []) gTab gTabType Tryz.underlying116 Tryz.underlying5 cells8 cellsA h
theorem digits_of {W : World} (h : laidMetH Tryz.prog Rows.ratioFloorLeastRow.laid W) : Digits W :=
  ⟨(table h).cell gTab 0 (by decide), (table h).cell gTab 1 (by decide), (table h).cell gTab 2 (by decide), (table h).cell gTab 3 (by decide), (table h).cell gTab 4 (by decide)⟩

set_option maxRecDepth 100000 in
theorem contract (H : Type) (enc : TypeId × Value → H) (W : World) (base : Nat) (args : Array Value) (ds gs : List (DataW H)) (before : List MemPlace)
    (hval : ∀ (j : Nat) t v, Tryz.f3.params[j]? = some t → args[j]? = some v → Value.okWide Tryz.prog W .any base t v)
    (hW : DataW.Whole enc Tryz.prog Tryz.f3.params.toList Rows.ratioFloorLeastSpec.vars false W args.toList ds gs before)
    (hsz : (DataW.weightsEach Tryz.prog (Tryz.f3.params.toList ++ Rows.ratioFloorLeastSpec.plain.varTypes Tryz.prog) (ds ++ gs)).all (· ≤ reachBytes) = true) (hL : laidMetH Tryz.prog Rows.ratioFloorLeastRow.laid W) :
    Calls Tryz.prog 3 args W fun e W' => ∃ v, e = .returned v ∧ Rows.ratioFloorLeastSpec.post enc Tryz.prog Tryz.f3 false true false false W args v W' := by
  have hW' := hW
  obtain ⟨p, q, hA0, hV, rfl, hfz, hnd⟩ := hW
  have hA : DataW.TrodAll enc Tryz.prog W 0 (fun _ => true) true Tryz.f3.params.toList args.toList ds p := hA0
  rw [Tryz.params3] at hA hval hsz
  obtain ⟨v0, vs0, d0, ds0, p0, q0, hargs, rfl, rfl, h0, r0⟩ := trodAll_cons hA
  obtain ⟨rfl, rfl, rfl⟩ := trodAll_nil r0
  obtain rfl : args = #[v0] := by cases args; simp_all
  obtain ⟨rfl, rfl⟩ := trodVars_none hV
  have lt0 : ∀ x ∈ p0, x.block < W.heap.size := by obtain ⟨m, hm⟩ := h0; exact DataW.trod_lt m _ _ _ hm
  obtain ⟨rs0, ra0, rn0, rc0, rX0, rb0, rm0, re0, rY0, rfl, hS0, hc0, hb0, hT0, hd0, hk0, hu0, hv0⟩ := open_Rat (hval 0 27 v0 rfl rfl) h0 (sized_at 0 hsz rfl rfl)
  clear hA0
  simp only [List.append_nil] at hW'
  refine (walk rs0 ra0 rn0 rc0 rX0 rb0 rm0 re0 rY0 W hc0 hb0 hS0 hd0 hk0 hT0 (digits_of hL)).mono fun e W' ⟨he, bel⟩ => ?_
  subst he
  exact ⟨_, rfl, _, _, _, [], _, [], hW', trodAll_mk1 (shut_bool Tryz.underlying4 _), (trodAll_cons_mk (Below.trod laidOut (by kernel_rfl) (of_decide_eq_true (by kernel_rfl)) h0 bel lt0) trodAll_mk0), rfl, bel.frame _, fun h => by cases h⟩

def setCells (cs : Array Value) : Obj → Obj
  | .cells _ t frozen => .cells cs t frozen
  | o => o
set_option maxRecDepth 100000 in
noncomputable def laidWorld (os : Os) : World :=
  { World.holding Tryz.prog os ⟨#[], #[], []⟩ with heap := ((World.holding Tryz.prog os ⟨#[], #[], []⟩).heap.modify 1 (setCells #[.int .u8 48, .int .u8 49, .int .u8 50, .int .u8 51, .int .u8 52, .int .u8 53, .int .u8 54, .int .u8 55, .int .u8 56, .int .u8 57, .int .u8 97, .int .u8 98, .int .u8 99, .int .u8 100, .int .u8 101, .int .u8 102])) }
set_option maxRecDepth 100000 in
theorem laid_met (os : Os) : laidMet Tryz.prog Rows.ratioFloorLeastRow.laid ((laidWorld os).forCall (fun _ _ => 0) ⟨#[], #[.agg #[.bool false, .slice none 0 0, .slice none 0 0]], []⟩).memory :=
  laidMet_of_run' 8 (by kernel_rfl) (by kernel_rfl)
theorem reads (os : Os) {H : Type} (enc : TypeId × Value → H) : ∃ places, DataW.whole enc Tryz.prog ((laidWorld os).forCall (fun _ _ => 0) ⟨#[], #[.agg #[.bool false, .slice none 0 0, .slice none 0 0]], []⟩).memory Tryz.f3.params.toList Rows.ratioFloorLeastSpec.vars false [Value.agg #[.bool false, .slice none 0 0, .slice none 0 0]] 8 = some ([.agg [.agg [.lit (.bool false), .nil], .nil]], [], places) :=
  ⟨[], by kernel_rfl⟩

set_option maxRecDepth 100000 in
theorem liftedUpto (os : Os) (started : os.Started) (H : Type) (enc : TypeId × Value → H) (F : Stop.Interp) :
    ReturnsInHanded {} Tryz.checked os 3 .any ((OpenSpec.ofChange Rows.ratioFloorLeastSpec).preRow enc Tryz.prog Tryz.f3 Rows.ratioFloorLeastRow.domain false Rows.ratioFloorLeastRow.laid) (((OpenSpec.ofChange Rows.ratioFloorLeastSpec).at F).post enc Tryz.prog Tryz.f3 false true false false) := by
  obtain ⟨places, hx⟩ := reads os enc
  refine returnsInHanded_of_row (C := Tryz.checked) (s := OpenSpec.ofChange Rows.ratioFloorLeastSpec) own started (by kernel_rfl) Tryz.func3
    (witness_row_at (enc := enc) (C := Tryz.checked) false (laidWorld os) #[.agg #[.bool false, .slice none 0 0, .slice none 0 0]] rfl (by kernel_rfl) (by kernel_rfl) (by kernel_rfl)
      (OpenSpec.preRow_of_cond 8 hx (by kernel_rfl) (fun k hk => by cases hk) (by kernel_rfl) (laid_met os))) ?_
  intro W base args ds gs before hval hW _ hk hsz hL hSh _
  exact contract H enc W base args ds gs before hval hW hsz hL

theorem saidUpto : Rows.RatioFloorLeastSaid :=
  OpenClaim.holds_of_cond 3 Tryz.f3 rfl rfl rfl rfl rfl rfl rfl ⟨rfl, rfl, rfl, rfl, rfl⟩ rfl rfl rfl rfl rfl (by kernel_rfl) Tryz.func3 (by kernel_rfl)
    (of_decide_eq_true (by kernel_rfl)) (by unfold Func.isWrapper; first | (rw [if_pos (by decide +kernel)]; kernel_rfl) | (rw [if_neg (by decide +kernel)]; exact ⟨rfl, rfl⟩))
    (fun os started H enc _ F => by rw [OpenClaim.pre_eq_preRow]; exact liftedUpto os started H enc F)

theorem plain (f : FuncId) (fn : Func) (hf : Tryz.pinned.checked.prog.funcNamed "fulcrum/fulcrumlaw03.RatioFloorLeast" = some f) (hfn : Tryz.pinned.checked.prog.funcs[f]? = some fn) :
    false = Tryz.pinned.checked.prog.looks [] ∧ ∀ (j : Nat) t, fn.params[j]? = some t → Tryz.pinned.checked.prog.wantsStandIn t = false := by
  obtain rfl : f = 3 := Option.some.inj ((show Tryz.prog.funcNamed "fulcrum/fulcrumlaw03.RatioFloorLeast" = some 3 by kernel_rfl).symm.trans hf) |>.symm
  obtain rfl : fn = Tryz.f3 := (Option.some.inj (Tryz.func3.symm.trans hfn)).symm
  refine ⟨by kernel_rfl, fun j t ht => ?_⟩
  rw [Tryz.params3] at ht
  have hm := Array.mem_of_getElem? ht
  simp only [List.mem_toArray, List.mem_cons, List.not_mem_nil, or_false] at hm
  subst hm
  · exact (show Tryz.prog.wantsStandIn 27 = false by kernel_rfl)

theorem cardUpto : Rows.RatioFloorLeastCardSaid :=
  Claim7.holds_tied_plain_at .later [] _ _ _ _ saidUpto (fun _ h => by cases h) (by kernel_rfl) (fun _ h => by cases h) ratioFloorLeast_row_tie rfl ⟨rfl, rfl⟩ (by kernel_rfl) rfl plain (by kernel_rfl)
end Go.Proofs.YtbbbimelmjdmnaaGreatDoor.ratioFloorLeast
namespace Go.Proofs.YtbbbimelmjdmnaaGreatDoor
theorem ratioFloorLeast_holds : Rows.RatioFloorLeastCardSaid := ratioFloorLeast.cardUpto
#print axioms ratioFloorLeast_holds
end Go.Proofs.YtbbbimelmjdmnaaGreatDoor
