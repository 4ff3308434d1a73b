/-
  WholeDivision: of each way a is q b + r, and what is left is as it must be; nothing is divided by 0.
-/
import Derived.Test.YtpejkdabhijcoabWIA
import Derived.Test.YtpejkdabhijcoabOpenI
namespace Go.Proofs.Ytpejkdabhijcoab.wholeDivision
open Go.ChangeShapes Go.WideShapes Go.ChangeAt Go.RowKit Go.Proofs.Ytpejkdabhijcoab
set_option linter.unusedVariables false

theorem ln_mulI {A B Z : Int} {n m : Nat} (h : A * B = Z) (hA : ln (am A) ≤ n) (hB : ln (am B) ≤ m) : ln (am Z) ≤ n + m := by
  have h1 : am Z = am A * am B := by rw [← h]; unfold am; exact Int.natAbs_mul A B
  rw [h1]
  exact ln_prod (Nat.lt_of_lt_of_le (ln_lt _) (pow_mono hA)) (Nat.lt_of_lt_of_le (ln_lt _) (pow_mono hB))
theorem lnX {X n c : Nat} (h : X < BB ^ n) (hc : c ≤ 2) : X + c < BB ^ (n + 1) := by
  rw [pow_succ']
  have h2 : BB ^ n * 4 ≤ BB ^ n * BB := Nat.mul_le_mul_left _ (by rw [BB_eq]; omega)
  have := BBp n
  omega

set_option maxHeartbeats 8000000 in
set_option maxRecDepth 100000 in
theorem walk (s0 : Bool) (a0 : Option Addr) (len0 cap0 X0 : Nat) (s1 : Bool) (a1 : Option Addr) (len1 cap1 X1 : Nat) (w : World) (hS0 : Seg w a0 X0 len0) (hc0 : len0 ≤ cap0) (hb0 : len0 ≤ 35184372087808) (hS1 : Seg w a1 X1 len1) (hc1 : len1 ≤ cap1) (hb1 : len1 ≤ 35184372087808) :
    Calls Try.prog 5 #[.agg #[.bool s0, .slice a0 len0 cap0], .agg #[.bool s1, .slice a1 len1 cap1]] w fun e w' => e = .returned (.bool true) ∧ Below w.heap.size w w' := by
  by_cases hX1 : X1 = 0
  · subst hX1
    have KS : ∀ w', Seg w' a1 0 len1 → Calls Try.prog 15 #[.agg #[.bool s1, .slice a1 len1 cap1]] w' fun e w'' => e = .returned (.int .i64 0) ∧ Below w'.heap.size w' w'' :=
      fun w' h1 => wSign_is s1 a1 len1 cap1 0 0 w' hc1 (by omega) h1 (sg_zero s1)
    have HKS := hide' KS
    clear KS
    go_enter Try.func5, Try.ntmps5
    go_wp2_with fail
    have q00 : (((w.alloc (.cells #[.bool s0, .slice a0 len0 cap0] 25)).alloc (.cells #[.bool s1, .slice a1 len1 cap1] 25))).cell? ⟨w.heap.size, 0, none⟩ = some (.bool s0) := by go_simp
    have q01 : (((w.alloc (.cells #[.bool s0, .slice a0 len0 cap0] 25)).alloc (.cells #[.bool s1, .slice a1 len1 cap1] 25))).cell? ⟨w.heap.size, 1, none⟩ = some (.slice a0 len0 cap0) := by go_simp
    have q10 : (((w.alloc (.cells #[.bool s0, .slice a0 len0 cap0] 25)).alloc (.cells #[.bool s1, .slice a1 len1 cap1] 25))).cell? ⟨w.heap.size + 1, 0, none⟩ = some (.bool s1) := by go_simp
    have q11 : (((w.alloc (.cells #[.bool s0, .slice a0 len0 cap0] 25)).alloc (.cells #[.bool s1, .slice a1 len1 cap1] 25))).cell? ⟨w.heap.size + 1, 1, none⟩ = some (.slice a1 len1 cap1) := by go_simp
    have hB : Below w.heap.size w (((w.alloc (.cells #[.bool s0, .slice a0 len0 cap0] 25)).alloc (.cells #[.bool s1, .slice a1 len1 cap1] 25))) := (((Below.refl _ _).alloc (by (try simp only [World.size_alloc]); omega) _).alloc (by (try simp only [World.size_alloc]); omega) _)
    have hz : (((w.alloc (.cells #[.bool s0, .slice a0 len0 cap0] 25)).alloc (.cells #[.bool s1, .slice a1 len1 cap1] 25))).heap.size = w.heap.size + 1 + 1 := by simp only [World.size_alloc]
    generalize ((w.alloc (.cells #[.bool s0, .slice a0 len0 cap0] 25)).alloc (.cells #[.bool s1, .slice a1 len1 cap1] 25)) = W at q00 q01 q10 q11 hB hz ⊢
    have hBW : Below W.heap.size W W := Below.refl _ _
    refine (awake_is _).mono ?_
    rintro e w3 ⟨rfl, b3⟩
    replace hBW := hBW.trans (b3.mono hBW.size)
    replace q00 := below_cell b3 q00
    replace q01 := below_cell b3 q01
    replace q10 := below_cell b3 q10
    replace q11 := below_cell b3 q11
    go_wp2_with fail
    refine (wQuo_zero s0 a0 len0 cap0 X0 s1 a1 len1 cap1 _ hc0 (by omega) (sb hS0 hB hBW) hc1 (by omega) (sb hS1 hB hBW)).mono ?_
    rintro e w4 ⟨rfl, b4⟩
    replace hBW := hBW.trans (b4.mono hBW.size)
    replace q00 := below_cell b4 q00
    replace q01 := below_cell b4 q01
    replace q10 := below_cell b4 q10
    replace q11 := below_cell b4 q11
    have l400 : (((w4.alloc (.cells #[.bool false, .slice none 0 0] 25)).alloc (.cells #[.bool false, .slice none 0 0] 25))).cell? ⟨w4.heap.size, 0, none⟩ = some (.bool false) := by go_simp
    have l401 : (((w4.alloc (.cells #[.bool false, .slice none 0 0] 25)).alloc (.cells #[.bool false, .slice none 0 0] 25))).cell? ⟨w4.heap.size, 1, none⟩ = some (.slice none 0 0) := by go_simp
    have l410 : (((w4.alloc (.cells #[.bool false, .slice none 0 0] 25)).alloc (.cells #[.bool false, .slice none 0 0] 25))).cell? ⟨w4.heap.size + 1, 0, none⟩ = some (.bool false) := by go_simp
    have l411 : (((w4.alloc (.cells #[.bool false, .slice none 0 0] 25)).alloc (.cells #[.bool false, .slice none 0 0] 25))).cell? ⟨w4.heap.size + 1, 1, none⟩ = some (.slice none 0 0) := by go_simp
    have cb4 : Below w4.heap.size w4 (((w4.alloc (.cells #[.bool false, .slice none 0 0] 25)).alloc (.cells #[.bool false, .slice none 0 0] 25))) := (((Below.refl _ _).alloc (by (try simp only [World.size_alloc]); omega) _).alloc (by (try simp only [World.size_alloc]); omega) _)
    replace hBW := hBW.trans (cb4.mono hBW.size)
    replace q00 := below_cell cb4 q00
    replace q01 := below_cell cb4 q01
    replace q10 := below_cell cb4 q10
    replace q11 := below_cell cb4 q11
    go_wp2_with fail
    generalize ((w4.alloc (.cells #[.bool false, .slice none 0 0] 25)).alloc (.cells #[.bool false, .slice none 0 0] 25)) = w4x at q00 q01 q10 q11 l400 l401 l410 l411 hBW cb4 ⊢
    clear cb4
    refine (wFloor_zero s0 a0 len0 cap0 X0 s1 a1 len1 cap1 _ hc0 (by omega) (sb hS0 hB hBW) hc1 (by omega) (sb hS1 hB hBW)).mono ?_
    rintro e w5 ⟨rfl, b5⟩
    replace hBW := hBW.trans (b5.mono hBW.size)
    replace q00 := below_cell b5 q00
    replace q01 := below_cell b5 q01
    replace q10 := below_cell b5 q10
    replace q11 := below_cell b5 q11
    replace l400 := below_cell b5 l400
    replace l401 := below_cell b5 l401
    replace l410 := below_cell b5 l410
    replace l411 := below_cell b5 l411
    have l500 : (((w5.alloc (.cells #[.bool false, .slice none 0 0] 25)).alloc (.cells #[.bool false, .slice none 0 0] 25))).cell? ⟨w5.heap.size, 0, none⟩ = some (.bool false) := by go_simp
    have l501 : (((w5.alloc (.cells #[.bool false, .slice none 0 0] 25)).alloc (.cells #[.bool false, .slice none 0 0] 25))).cell? ⟨w5.heap.size, 1, none⟩ = some (.slice none 0 0) := by go_simp
    have l510 : (((w5.alloc (.cells #[.bool false, .slice none 0 0] 25)).alloc (.cells #[.bool false, .slice none 0 0] 25))).cell? ⟨w5.heap.size + 1, 0, none⟩ = some (.bool false) := by go_simp
    have l511 : (((w5.alloc (.cells #[.bool false, .slice none 0 0] 25)).alloc (.cells #[.bool false, .slice none 0 0] 25))).cell? ⟨w5.heap.size + 1, 1, none⟩ = some (.slice none 0 0) := by go_simp
    have cb5 : Below w5.heap.size w5 (((w5.alloc (.cells #[.bool false, .slice none 0 0] 25)).alloc (.cells #[.bool false, .slice none 0 0] 25))) := (((Below.refl _ _).alloc (by (try simp only [World.size_alloc]); omega) _).alloc (by (try simp only [World.size_alloc]); omega) _)
    replace hBW := hBW.trans (cb5.mono hBW.size)
    replace q00 := below_cell cb5 q00
    replace q01 := below_cell cb5 q01
    replace q10 := below_cell cb5 q10
    replace q11 := below_cell cb5 q11
    replace l400 := below_cell cb5 l400
    replace l401 := below_cell cb5 l401
    replace l410 := below_cell cb5 l410
    replace l411 := below_cell cb5 l411
    go_wp2_with fail
    generalize ((w5.alloc (.cells #[.bool false, .slice none 0 0] 25)).alloc (.cells #[.bool false, .slice none 0 0] 25)) = w5x at q00 q01 q10 q11 l400 l401 l410 l411 l500 l501 l510 l511 hBW cb5 ⊢
    clear cb5
    refine (wEuclid_zero s0 a0 len0 cap0 X0 s1 a1 len1 cap1 _ hc0 (by omega) (sb hS0 hB hBW) hc1 (by omega) (sb hS1 hB hBW)).mono ?_
    rintro e w6 ⟨rfl, b6⟩
    replace hBW := hBW.trans (b6.mono hBW.size)
    replace q00 := below_cell b6 q00
    replace q01 := below_cell b6 q01
    replace q10 := below_cell b6 q10
    replace q11 := below_cell b6 q11
    replace l400 := below_cell b6 l400
    replace l401 := below_cell b6 l401
    replace l410 := below_cell b6 l410
    replace l411 := below_cell b6 l411
    replace l500 := below_cell b6 l500
    replace l501 := below_cell b6 l501
    replace l510 := below_cell b6 l510
    replace l511 := below_cell b6 l511
    have l600 : (((w6.alloc (.cells #[.bool false, .slice none 0 0] 25)).alloc (.cells #[.bool false, .slice none 0 0] 25))).cell? ⟨w6.heap.size, 0, none⟩ = some (.bool false) := by go_simp
    have l601 : (((w6.alloc (.cells #[.bool false, .slice none 0 0] 25)).alloc (.cells #[.bool false, .slice none 0 0] 25))).cell? ⟨w6.heap.size, 1, none⟩ = some (.slice none 0 0) := by go_simp
    have l610 : (((w6.alloc (.cells #[.bool false, .slice none 0 0] 25)).alloc (.cells #[.bool false, .slice none 0 0] 25))).cell? ⟨w6.heap.size + 1, 0, none⟩ = some (.bool false) := by go_simp
    have l611 : (((w6.alloc (.cells #[.bool false, .slice none 0 0] 25)).alloc (.cells #[.bool false, .slice none 0 0] 25))).cell? ⟨w6.heap.size + 1, 1, none⟩ = some (.slice none 0 0) := by go_simp
    have cb6 : Below w6.heap.size w6 (((w6.alloc (.cells #[.bool false, .slice none 0 0] 25)).alloc (.cells #[.bool false, .slice none 0 0] 25))) := (((Below.refl _ _).alloc (by (try simp only [World.size_alloc]); omega) _).alloc (by (try simp only [World.size_alloc]); omega) _)
    replace hBW := hBW.trans (cb6.mono hBW.size)
    replace q00 := below_cell cb6 q00
    replace q01 := below_cell cb6 q01
    replace q10 := below_cell cb6 q10
    replace q11 := below_cell cb6 q11
    replace l400 := below_cell cb6 l400
    replace l401 := below_cell cb6 l401
    replace l410 := below_cell cb6 l410
    replace l411 := below_cell cb6 l411
    replace l500 := below_cell cb6 l500
    replace l501 := below_cell cb6 l501
    replace l510 := below_cell cb6 l510
    replace l511 := below_cell cb6 l511
    go_wp2_with fail
    generalize ((w6.alloc (.cells #[.bool false, .slice none 0 0] 25)).alloc (.cells #[.bool false, .slice none 0 0] 25)) = w6x at q00 q01 q10 q11 l400 l401 l410 l411 l500 l501 l510 l511 l600 l601 l610 l611 hBW cb6 ⊢
    clear cb6
    refine (HKS.out _ (sb hS1 hB hBW)).mono ?_
    rintro e w7 ⟨rfl, b7⟩
    replace hBW := hBW.trans (b7.mono hBW.size)
    replace q00 := below_cell b7 q00
    replace q01 := below_cell b7 q01
    replace q10 := below_cell b7 q10
    replace q11 := below_cell b7 q11
    replace l400 := below_cell b7 l400
    replace l401 := below_cell b7 l401
    replace l410 := below_cell b7 l410
    replace l411 := below_cell b7 l411
    replace l500 := below_cell b7 l500
    replace l501 := below_cell b7 l501
    replace l510 := below_cell b7 l510
    replace l511 := below_cell b7 l511
    replace l600 := below_cell b7 l600
    replace l601 := below_cell b7 l601
    replace l610 := below_cell b7 l610
    replace l611 := below_cell b7 l611
    go_wp2
    go_ret
    exact ⟨rfl, hB.trans (hBW.mono hB.size)⟩
  · obtain ⟨P, R, Zq, Zr, hPR, hRY, hq, hr, e1, r1, q1, KQ⟩ := quo_of s0 a0 len0 cap0 X0 s1 a1 len1 cap1 X1 hc0 (by omega) hc1 (by omega) hX1
    obtain ⟨Zs, Zt, e2, g2, r2, q2, KF⟩ := floor_of s0 a0 len0 cap0 X0 s1 a1 len1 cap1 X1 hc0 (by omega) hc1 (by omega) hX1
    obtain ⟨Zu, Zv, e3, g3, r3, q3, KE⟩ := euclid_of s0 a0 len0 cap0 X0 s1 a1 len1 cap1 X1 hc0 (by omega) hc1 (by omega) hX1 hS0.1 hS1.1
    obtain ⟨A, hA⟩ : ∃ Z, sg s0 X0 = Z := ⟨_, rfl⟩
    obtain ⟨M1, m1⟩ : ∃ Z, Zq * sg s1 X1 = Z := ⟨_, rfl⟩
    obtain ⟨M2, m2⟩ : ∃ Z, Zs * sg s1 X1 = Z := ⟨_, rfl⟩
    obtain ⟨M3, m3⟩ : ∃ Z, Zu * sg s1 X1 = Z := ⟨_, rfl⟩
    have lA : ln (am A) ≤ 35184372087808 := by rw [← hA, am_sg]; have := ln_le_of_lt hS0.1; omega
    have lB : ln (am (sg s1 X1)) ≤ 35184372087808 := by rw [am_sg]; have := ln_le_of_lt hS1.1; omega
    have lr1 : ln (am Zr) ≤ 35184372087808 := ln_of_le (Nat.le_of_lt r1) hS1.1 hb1
    have lr2 : ln (am Zt) ≤ 35184372087808 := ln_of_le (Nat.le_of_lt r2) hS1.1 hb1
    have lr3 : ln (am Zv) ≤ 35184372087808 := ln_of_le (Nat.le_of_lt r3) hS1.1 hb1
    have lq1 : ln (am Zq) ≤ 35184372087809 := ln_of_le (Nat.le_trans q1 (Nat.le_add_right _ 2)) (lnX hS0.1 (Nat.le_refl 2)) (by omega)
    have lq2 : ln (am Zs) ≤ 35184372087809 := ln_of_le q2 (lnX hS0.1 (by omega)) (by omega)
    have lq3 : ln (am Zu) ≤ 35184372087809 := ln_of_le q3 (lnX hS0.1 (Nat.le_refl 2)) (by omega)
    have lm1 : ln (am M1) ≤ 70368744177617 := by have := ln_mulI m1 lq1 lB; omega
    have lm2 : ln (am M2) ≤ 70368744177617 := by have := ln_mulI m2 lq2 lB; omega
    have lm3 : ln (am M3) ≤ 70368744177617 := by have := ln_mulI m3 lq3 lB; omega
    have N1 : Hid (sg (ng Zq) (am Zq) * sg s1 X1 = M1) := by show _ = _; rw [sg_na]; exact m1
    have N2 : Hid (sg (ng Zs) (am Zs) * sg s1 X1 = M2) := by show _ = _; rw [sg_na]; exact m2
    have N3 : Hid (sg (ng Zu) (am Zu) * sg s1 X1 = M3) := by show _ = _; rw [sg_na]; exact m3
    have E1 : Hid (sg (ng M1) (am M1) + sg (ng Zr) (am Zr) = A) := by show _ = _; rw [sg_na, sg_na, ← m1, ← hA]; exact e1
    have E2 : Hid (sg (ng M2) (am M2) + sg (ng Zt) (am Zt) = A) := by show _ = _; rw [sg_na, sg_na, ← m2, ← hA]; exact e2
    have E3 : Hid (sg (ng M3) (am M3) + sg (ng Zv) (am Zv) = A) := by show _ = _; rw [sg_na, sg_na, ← m3, ← hA]; exact e3
    have EA : Hid (sg s0 X0 = A) := hA
    obtain ⟨C0, hC0⟩ : ∃ C, sgn A = C := ⟨_, rfl⟩
    obtain ⟨C1, hC1⟩ : ∃ C, sgn (sg s1 X1) = C := ⟨_, rfl⟩
    have hC1n : (C1 == 0) = false := by rw [← hC1, sgn_sg hX1]; cases s1 <;> rfl
    have KS0 : ∀ w', Seg w' a0 X0 len0 → Calls Try.prog 15 #[.agg #[.bool s0, .slice a0 len0 cap0]] w' fun e w'' => e = .returned (.int .i64 C0) ∧ Below w'.heap.size w' w'' :=
      fun w' h1 => by have := wSign_is s0 a0 len0 cap0 X0 A w' hc0 (by omega) h1 hA; rwa [hC0] at this
    have KS1 : ∀ w', Seg w' a1 X1 len1 → Calls Try.prog 15 #[.agg #[.bool s1, .slice a1 len1 cap1]] w' fun e w'' => e = .returned (.int .i64 C1) ∧ Below w'.heap.size w' w'' :=
      fun w' h1 => by have := wSign_is s1 a1 len1 cap1 X1 _ w' hc1 (by omega) h1 rfl; rwa [hC1] at this
    have g1 : sgn Zr = 0 ∨ sgn Zr = C0 := by
      rw [← hr, ← hC0, ← hA]
      by_cases h0 : R = 0
      · left; rw [h0, sg_zero]; rfl
      · right; rw [sgn_sg h0, sgn_sg (by intro h; rw [h] at hPR; omega)]
    have g2' : sgn Zt = 0 ∨ sgn Zt = C1 := by rw [← hC1]; exact g2
    have g3' : sgn Zv = 0 ∨ sgn Zv = 1 := by
      rcases Int.lt_or_le 0 Zv with h | h
      · right; exact sgn_pos h
      · left; rw [show Zv = 0 by omega]; rfl
    have W1 : ∀ w' ar, Seg w' ar (am Zr) (ln (am Zr)) → Seg w' a1 X1 len1 → Calls Try.prog 20 #[.agg #[.bool (ng Zr), .slice ar (ln (am Zr)) (ln (am Zr))], .agg #[.bool s1, .slice a1 len1 cap1], .int .i64 C0] w' fun e w'' => e = .returned (.bool true) ∧ Below w'.heap.size w' w'' :=
      fun w' ar h1 h2 => within_is Zr (ng Zr) ar _ _ (am Zr) s1 a1 len1 cap1 X1 C0 w' (Nat.le_refl _) (by omega) h1 hc1 (by omega) h2 (sg_na Zr) g1 r1
    have W2 : ∀ w' ar, Seg w' ar (am Zt) (ln (am Zt)) → Seg w' a1 X1 len1 → Calls Try.prog 20 #[.agg #[.bool (ng Zt), .slice ar (ln (am Zt)) (ln (am Zt))], .agg #[.bool s1, .slice a1 len1 cap1], .int .i64 C1] w' fun e w'' => e = .returned (.bool true) ∧ Below w'.heap.size w' w'' :=
      fun w' ar h1 h2 => within_is Zt (ng Zt) ar _ _ (am Zt) s1 a1 len1 cap1 X1 C1 w' (Nat.le_refl _) (by omega) h1 hc1 (by omega) h2 (sg_na Zt) g2' r2
    have W3 : ∀ w' ar, Seg w' ar (am Zv) (ln (am Zv)) → Seg w' a1 X1 len1 → Calls Try.prog 20 #[.agg #[.bool (ng Zv), .slice ar (ln (am Zv)) (ln (am Zv))], .agg #[.bool s1, .slice a1 len1 cap1], .int .i64 1] w' fun e w'' => e = .returned (.bool true) ∧ Below w'.heap.size w' w'' :=
      fun w' ar h1 h2 => within_is Zv (ng Zv) ar _ _ (am Zv) s1 a1 len1 cap1 X1 1 w' (Nat.le_refl _) (by omega) h1 hc1 (by omega) h2 (sg_na Zv) g3' r3
    have HKQ := hide' KQ
    have HKF := hide' KF
    have HKE := hide' KE
    have HS0 := hide' KS0
    have HS1 := hide' KS1
    have HW1 := hide' W1
    have HW2 := hide' W2
    have HW3 := hide' W3
    clear KQ KF KE KS0 KS1 W1 W2 W3 hPR hRY hq hr e1 r1 q1 e2 g2 r2 q2 e3 g3 r3 q3 hA m1 m2 m3 hC0 hC1 g1 g2' g3' hX1
    go_enter Try.func5, Try.ntmps5
    go_wp2_with fail
    have q00 : (((w.alloc (.cells #[.bool s0, .slice a0 len0 cap0] 25)).alloc (.cells #[.bool s1, .slice a1 len1 cap1] 25))).cell? ⟨w.heap.size, 0, none⟩ = some (.bool s0) := by go_simp
    have q01 : (((w.alloc (.cells #[.bool s0, .slice a0 len0 cap0] 25)).alloc (.cells #[.bool s1, .slice a1 len1 cap1] 25))).cell? ⟨w.heap.size, 1, none⟩ = some (.slice a0 len0 cap0) := by go_simp
    have q10 : (((w.alloc (.cells #[.bool s0, .slice a0 len0 cap0] 25)).alloc (.cells #[.bool s1, .slice a1 len1 cap1] 25))).cell? ⟨w.heap.size + 1, 0, none⟩ = some (.bool s1) := by go_simp
    have q11 : (((w.alloc (.cells #[.bool s0, .slice a0 len0 cap0] 25)).alloc (.cells #[.bool s1, .slice a1 len1 cap1] 25))).cell? ⟨w.heap.size + 1, 1, none⟩ = some (.slice a1 len1 cap1) := by go_simp
    have hB : Below w.heap.size w (((w.alloc (.cells #[.bool s0, .slice a0 len0 cap0] 25)).alloc (.cells #[.bool s1, .slice a1 len1 cap1] 25))) := (((Below.refl _ _).alloc (by (try simp only [World.size_alloc]); omega) _).alloc (by (try simp only [World.size_alloc]); omega) _)
    have hz : (((w.alloc (.cells #[.bool s0, .slice a0 len0 cap0] 25)).alloc (.cells #[.bool s1, .slice a1 len1 cap1] 25))).heap.size = w.heap.size + 1 + 1 := by simp only [World.size_alloc]
    generalize ((w.alloc (.cells #[.bool s0, .slice a0 len0 cap0] 25)).alloc (.cells #[.bool s1, .slice a1 len1 cap1] 25)) = W at q00 q01 q10 q11 hB hz ⊢
    have hBW : Below W.heap.size W W := Below.refl _ _
    refine (awake_is _).mono ?_
    rintro e w3 ⟨rfl, b3⟩
    replace hBW := hBW.trans (b3.mono hBW.size)
    replace q00 := below_cell b3 q00
    replace q01 := below_cell b3 q01
    replace q10 := below_cell b3 q10
    replace q11 := below_cell b3 q11
    go_wp2_with fail
    refine (HKQ.out _ (sb hS0 hB hBW) (sb hS1 hB hBW)).mono ?_
    rintro e w4 ⟨a4, c4, rfl, h4, g4⟩
    have b4 := h4.below
    replace h4 := h4.back hBW
    replace g4 := g4.back hBW
    replace hBW := hBW.trans (b4.mono hBW.size)
    replace q00 := below_cell b4 q00
    replace q01 := below_cell b4 q01
    replace q10 := below_cell b4 q10
    replace q11 := below_cell b4 q11
    have l400 : (((w4.alloc (.cells #[.bool (ng Zq), .slice a4 (ln (am Zq)) (ln (am Zq))] 25)).alloc (.cells #[.bool (ng Zr), .slice c4 (ln (am Zr)) (ln (am Zr))] 25))).cell? ⟨w4.heap.size, 0, none⟩ = some (.bool (ng Zq)) := by go_simp
    have l401 : (((w4.alloc (.cells #[.bool (ng Zq), .slice a4 (ln (am Zq)) (ln (am Zq))] 25)).alloc (.cells #[.bool (ng Zr), .slice c4 (ln (am Zr)) (ln (am Zr))] 25))).cell? ⟨w4.heap.size, 1, none⟩ = some (.slice a4 (ln (am Zq)) (ln (am Zq))) := by go_simp
    have l410 : (((w4.alloc (.cells #[.bool (ng Zq), .slice a4 (ln (am Zq)) (ln (am Zq))] 25)).alloc (.cells #[.bool (ng Zr), .slice c4 (ln (am Zr)) (ln (am Zr))] 25))).cell? ⟨w4.heap.size + 1, 0, none⟩ = some (.bool (ng Zr)) := by go_simp
    have l411 : (((w4.alloc (.cells #[.bool (ng Zq), .slice a4 (ln (am Zq)) (ln (am Zq))] 25)).alloc (.cells #[.bool (ng Zr), .slice c4 (ln (am Zr)) (ln (am Zr))] 25))).cell? ⟨w4.heap.size + 1, 1, none⟩ = some (.slice c4 (ln (am Zr)) (ln (am Zr))) := by go_simp
    have cb4 : Below w4.heap.size w4 (((w4.alloc (.cells #[.bool (ng Zq), .slice a4 (ln (am Zq)) (ln (am Zq))] 25)).alloc (.cells #[.bool (ng Zr), .slice c4 (ln (am Zr)) (ln (am Zr))] 25))) := (((Below.refl _ _).alloc (by (try simp only [World.size_alloc]); omega) _).alloc (by (try simp only [World.size_alloc]); omega) _)
    replace hBW := hBW.trans (cb4.mono hBW.size)
    replace q00 := below_cell cb4 q00
    replace q01 := below_cell cb4 q01
    replace q10 := below_cell cb4 q10
    replace q11 := below_cell cb4 q11
    replace h4 := h4.later cb4
    replace g4 := g4.later cb4
    go_wp2_with fail
    generalize ((w4.alloc (.cells #[.bool (ng Zq), .slice a4 (ln (am Zq)) (ln (am Zq))] 25)).alloc (.cells #[.bool (ng Zr), .slice c4 (ln (am Zr)) (ln (am Zr))] 25)) = w4x at q00 q01 q10 q11 l400 l401 l410 l411 h4 g4 hBW cb4 ⊢
    clear cb4
    refine (HKF.out _ (sb hS0 hB hBW) (sb hS1 hB hBW)).mono ?_
    rintro e w5 ⟨a5, c5, rfl, h5, g5⟩
    have b5 := h5.below
    replace h5 := h5.back hBW
    replace g5 := g5.back hBW
    replace hBW := hBW.trans (b5.mono hBW.size)
    replace q00 := below_cell b5 q00
    replace q01 := below_cell b5 q01
    replace q10 := below_cell b5 q10
    replace q11 := below_cell b5 q11
    replace l400 := below_cell b5 l400
    replace l401 := below_cell b5 l401
    replace l410 := below_cell b5 l410
    replace l411 := below_cell b5 l411
    replace h4 := h4.later b5
    replace g4 := g4.later b5
    have l500 : (((w5.alloc (.cells #[.bool (ng Zs), .slice a5 (ln (am Zs)) (ln (am Zs))] 25)).alloc (.cells #[.bool (ng Zt), .slice c5 (ln (am Zt)) (ln (am Zt))] 25))).cell? ⟨w5.heap.size, 0, none⟩ = some (.bool (ng Zs)) := by go_simp
    have l501 : (((w5.alloc (.cells #[.bool (ng Zs), .slice a5 (ln (am Zs)) (ln (am Zs))] 25)).alloc (.cells #[.bool (ng Zt), .slice c5 (ln (am Zt)) (ln (am Zt))] 25))).cell? ⟨w5.heap.size, 1, none⟩ = some (.slice a5 (ln (am Zs)) (ln (am Zs))) := by go_simp
    have l510 : (((w5.alloc (.cells #[.bool (ng Zs), .slice a5 (ln (am Zs)) (ln (am Zs))] 25)).alloc (.cells #[.bool (ng Zt), .slice c5 (ln (am Zt)) (ln (am Zt))] 25))).cell? ⟨w5.heap.size + 1, 0, none⟩ = some (.bool (ng Zt)) := by go_simp
    have l511 : (((w5.alloc (.cells #[.bool (ng Zs), .slice a5 (ln (am Zs)) (ln (am Zs))] 25)).alloc (.cells #[.bool (ng Zt), .slice c5 (ln (am Zt)) (ln (am Zt))] 25))).cell? ⟨w5.heap.size + 1, 1, none⟩ = some (.slice c5 (ln (am Zt)) (ln (am Zt))) := by go_simp
    have cb5 : Below w5.heap.size w5 (((w5.alloc (.cells #[.bool (ng Zs), .slice a5 (ln (am Zs)) (ln (am Zs))] 25)).alloc (.cells #[.bool (ng Zt), .slice c5 (ln (am Zt)) (ln (am Zt))] 25))) := (((Below.refl _ _).alloc (by (try simp only [World.size_alloc]); omega) _).alloc (by (try simp only [World.size_alloc]); omega) _)
    replace hBW := hBW.trans (cb5.mono hBW.size)
    replace q00 := below_cell cb5 q00
    replace q01 := below_cell cb5 q01
    replace q10 := below_cell cb5 q10
    replace q11 := below_cell cb5 q11
    replace l400 := below_cell cb5 l400
    replace l401 := below_cell cb5 l401
    replace l410 := below_cell cb5 l410
    replace l411 := below_cell cb5 l411
    replace h4 := h4.later cb5
    replace g4 := g4.later cb5
    replace h5 := h5.later cb5
    replace g5 := g5.later cb5
    go_wp2_with fail
    generalize ((w5.alloc (.cells #[.bool (ng Zs), .slice a5 (ln (am Zs)) (ln (am Zs))] 25)).alloc (.cells #[.bool (ng Zt), .slice c5 (ln (am Zt)) (ln (am Zt))] 25)) = w5x at q00 q01 q10 q11 l400 l401 l410 l411 l500 l501 l510 l511 h4 g4 h5 g5 hBW cb5 ⊢
    clear cb5
    refine (HKE.out _ (sb hS0 hB hBW) (sb hS1 hB hBW)).mono ?_
    rintro e w6 ⟨a6, c6, rfl, h6, g6⟩
    have b6 := h6.below
    replace h6 := h6.back hBW
    replace g6 := g6.back hBW
    replace hBW := hBW.trans (b6.mono hBW.size)
    replace q00 := below_cell b6 q00
    replace q01 := below_cell b6 q01
    replace q10 := below_cell b6 q10
    replace q11 := below_cell b6 q11
    replace l400 := below_cell b6 l400
    replace l401 := below_cell b6 l401
    replace l410 := below_cell b6 l410
    replace l411 := below_cell b6 l411
    replace l500 := below_cell b6 l500
    replace l501 := below_cell b6 l501
    replace l510 := below_cell b6 l510
    replace l511 := below_cell b6 l511
    replace h4 := h4.later b6
    replace g4 := g4.later b6
    replace h5 := h5.later b6
    replace g5 := g5.later b6
    have l600 : (((w6.alloc (.cells #[.bool (ng Zu), .slice a6 (ln (am Zu)) (ln (am Zu))] 25)).alloc (.cells #[.bool (ng Zv), .slice c6 (ln (am Zv)) (ln (am Zv))] 25))).cell? ⟨w6.heap.size, 0, none⟩ = some (.bool (ng Zu)) := by go_simp
    have l601 : (((w6.alloc (.cells #[.bool (ng Zu), .slice a6 (ln (am Zu)) (ln (am Zu))] 25)).alloc (.cells #[.bool (ng Zv), .slice c6 (ln (am Zv)) (ln (am Zv))] 25))).cell? ⟨w6.heap.size, 1, none⟩ = some (.slice a6 (ln (am Zu)) (ln (am Zu))) := by go_simp
    have l610 : (((w6.alloc (.cells #[.bool (ng Zu), .slice a6 (ln (am Zu)) (ln (am Zu))] 25)).alloc (.cells #[.bool (ng Zv), .slice c6 (ln (am Zv)) (ln (am Zv))] 25))).cell? ⟨w6.heap.size + 1, 0, none⟩ = some (.bool (ng Zv)) := by go_simp
    have l611 : (((w6.alloc (.cells #[.bool (ng Zu), .slice a6 (ln (am Zu)) (ln (am Zu))] 25)).alloc (.cells #[.bool (ng Zv), .slice c6 (ln (am Zv)) (ln (am Zv))] 25))).cell? ⟨w6.heap.size + 1, 1, none⟩ = some (.slice c6 (ln (am Zv)) (ln (am Zv))) := by go_simp
    have cb6 : Below w6.heap.size w6 (((w6.alloc (.cells #[.bool (ng Zu), .slice a6 (ln (am Zu)) (ln (am Zu))] 25)).alloc (.cells #[.bool (ng Zv), .slice c6 (ln (am Zv)) (ln (am Zv))] 25))) := (((Below.refl _ _).alloc (by (try simp only [World.size_alloc]); omega) _).alloc (by (try simp only [World.size_alloc]); omega) _)
    replace hBW := hBW.trans (cb6.mono hBW.size)
    replace q00 := below_cell cb6 q00
    replace q01 := below_cell cb6 q01
    replace q10 := below_cell cb6 q10
    replace q11 := below_cell cb6 q11
    replace l400 := below_cell cb6 l400
    replace l401 := below_cell cb6 l401
    replace l410 := below_cell cb6 l410
    replace l411 := below_cell cb6 l411
    replace l500 := below_cell cb6 l500
    replace l501 := below_cell cb6 l501
    replace l510 := below_cell cb6 l510
    replace l511 := below_cell cb6 l511
    replace h4 := h4.later cb6
    replace g4 := g4.later cb6
    replace h5 := h5.later cb6
    replace g5 := g5.later cb6
    replace h6 := h6.later cb6
    replace g6 := g6.later cb6
    go_wp2_with fail
    generalize ((w6.alloc (.cells #[.bool (ng Zu), .slice a6 (ln (am Zu)) (ln (am Zu))] 25)).alloc (.cells #[.bool (ng Zv), .slice c6 (ln (am Zv)) (ln (am Zv))] 25)) = w6x at q00 q01 q10 q11 l400 l401 l410 l411 l500 l501 l510 l511 l600 l601 l610 l611 h4 g4 h5 g5 h6 g6 hBW cb6 ⊢
    clear cb6
    refine (HS1.out _ (sb hS1 hB hBW)).mono ?_
    rintro e w7 ⟨rfl, b7⟩
    replace hBW := hBW.trans (b7.mono hBW.size)
    replace q00 := below_cell b7 q00
    replace q01 := below_cell b7 q01
    replace q10 := below_cell b7 q10
    replace q11 := below_cell b7 q11
    replace l400 := below_cell b7 l400
    replace l401 := below_cell b7 l401
    replace l410 := below_cell b7 l410
    replace l411 := below_cell b7 l411
    replace l500 := below_cell b7 l500
    replace l501 := below_cell b7 l501
    replace l510 := below_cell b7 l510
    replace l511 := below_cell b7 l511
    replace l600 := below_cell b7 l600
    replace l601 := below_cell b7 l601
    replace l610 := below_cell b7 l610
    replace l611 := below_cell b7 l611
    replace h4 := h4.later b7
    replace g4 := g4.later b7
    replace h5 := h5.later b7
    replace g5 := g5.later b7
    replace h6 := h6.later b7
    replace g6 := g6.later b7
    go_wp2_with fail
    replace hBW := hBW.drew
    replace h4 := h4.drew
    replace g4 := g4.drew
    replace h5 := h5.drew
    replace g5 := g5.drew
    replace h6 := h6.drew
    replace g6 := g6.drew
    first
      | go_region_held3 (fun w' => w'.cell? ⟨w.heap.size, 0, none⟩ = some (.bool s0) ∧ w'.cell? ⟨w.heap.size, 1, none⟩ = some (.slice a0 len0 cap0) ∧ w'.cell? ⟨w.heap.size + 1, 0, none⟩ = some (.bool s1) ∧ w'.cell? ⟨w.heap.size + 1, 1, none⟩ = some (.slice a1 len1 cap1) ∧ w'.cell? ⟨w4.heap.size, 0, none⟩ = some (.bool (ng Zq)) ∧ w'.cell? ⟨w4.heap.size, 1, none⟩ = some (.slice a4 (ln (am Zq)) (ln (am Zq))) ∧ w'.cell? ⟨w4.heap.size + 1, 0, none⟩ = some (.bool (ng Zr)) ∧ w'.cell? ⟨w4.heap.size + 1, 1, none⟩ = some (.slice c4 (ln (am Zr)) (ln (am Zr))) ∧ w'.cell? ⟨w5.heap.size, 0, none⟩ = some (.bool (ng Zs)) ∧ w'.cell? ⟨w5.heap.size, 1, none⟩ = some (.slice a5 (ln (am Zs)) (ln (am Zs))) ∧ w'.cell? ⟨w5.heap.size + 1, 0, none⟩ = some (.bool (ng Zt)) ∧ w'.cell? ⟨w5.heap.size + 1, 1, none⟩ = some (.slice c5 (ln (am Zt)) (ln (am Zt))) ∧ w'.cell? ⟨w6.heap.size, 0, none⟩ = some (.bool (ng Zu)) ∧ w'.cell? ⟨w6.heap.size, 1, none⟩ = some (.slice a6 (ln (am Zu)) (ln (am Zu))) ∧ w'.cell? ⟨w6.heap.size + 1, 0, none⟩ = some (.bool (ng Zv)) ∧ w'.cell? ⟨w6.heap.size + 1, 1, none⟩ = some (.slice c6 (ln (am Zv)) (ln (am Zv))) ∧ Below w.heap.size w w')
          (first | exact ⟨q00, q01, q10, q11, l400, l401, l410, l411, l500, l501, l510, l511, l600, l601, l610, l611, hB.trans (hBW.mono hB.size)⟩ | exact kp16 b8 (by assumption) | exact kp16 b9 (by assumption) | exact kp16 b10 (by assumption) | exact kp16 b11 (by assumption) | exact kp16 b12 (by assumption) | exact kp16 b13 (by assumption) | exact kp16 (below_alloc _) (by assumption))
          (first
            | (go_at_call 10; go_at_call_of 10 (Value.agg #[Value.bool (ng Zq), Value.slice a4 (ln (am Zq)) (ln (am Zq))]); go_at_call_of 10 (Value.agg #[Value.bool s1, Value.slice a1 len1 cap1]); refine (wMul_is (ng Zq) a4 (ln (am Zq)) (ln (am Zq)) (am Zq) s1 a1 len1 cap1 X1 (M1) _ (by omega) (by omega) h4.seg (by omega) (by omega) (sb hS1 hB hBW) N1.out).mono ?_; rintro e w8 ⟨a8, rfl, h8⟩; have b8 := h8.below; replace h8 := h8.back hBW; replace hBW := hBW.trans (b8.mono hBW.size); replace q00 := below_cell b8 q00; replace q01 := below_cell b8 q01; replace q10 := below_cell b8 q10; replace q11 := below_cell b8 q11; replace l400 := below_cell b8 l400; replace l401 := below_cell b8 l401; replace l410 := below_cell b8 l410; replace l411 := below_cell b8 l411; replace l500 := below_cell b8 l500; replace l501 := below_cell b8 l501; replace l510 := below_cell b8 l510; replace l511 := below_cell b8 l511; replace l600 := below_cell b8 l600; replace l601 := below_cell b8 l601; replace l610 := below_cell b8 l610; replace l611 := below_cell b8 l611; replace h4 := h4.later b8; replace g4 := g4.later b8; replace h5 := h5.later b8; replace g5 := g5.later b8; replace h6 := h6.later b8; replace g6 := g6.later b8)
            | (go_at_call 8; go_at_call_of 8 (Value.agg #[Value.bool (ng M1), Value.slice a8 (ln (am M1)) (ln (am M1))]); go_at_call_of 8 (Value.agg #[Value.bool (ng Zr), Value.slice c4 (ln (am Zr)) (ln (am Zr))]); refine (wAdd_is (ng M1) a8 (ln (am M1)) (ln (am M1)) (am M1) (ng Zr) c4 (ln (am Zr)) (ln (am Zr)) (am Zr) (A) _ (by omega) (by omega) h8.seg (by omega) (by omega) g4.seg E1.out).mono ?_; rintro e w9 ⟨a9, rfl, h9⟩; have b9 := h9.below; replace h9 := h9.back hBW; replace hBW := hBW.trans (b9.mono hBW.size); replace q00 := below_cell b9 q00; replace q01 := below_cell b9 q01; replace q10 := below_cell b9 q10; replace q11 := below_cell b9 q11; replace l400 := below_cell b9 l400; replace l401 := below_cell b9 l401; replace l410 := below_cell b9 l410; replace l411 := below_cell b9 l411; replace l500 := below_cell b9 l500; replace l501 := below_cell b9 l501; replace l510 := below_cell b9 l510; replace l511 := below_cell b9 l511; replace l600 := below_cell b9 l600; replace l601 := below_cell b9 l601; replace l610 := below_cell b9 l610; replace l611 := below_cell b9 l611; replace h4 := h4.later b9; replace g4 := g4.later b9; replace h5 := h5.later b9; replace g5 := g5.later b9; replace h6 := h6.later b9; replace g6 := g6.later b9; replace h8 := h8.later b9)
            | (go_at_call 12; go_at_call_of 12 (Value.agg #[Value.bool s0, Value.slice a0 len0 cap0]); refine (wNorm_is s0 a0 len0 cap0 X0 (A) _ (by omega) (by omega) (sb hS0 hB hBW) EA.out).mono ?_; rintro e w10 ⟨a10, rfl, h10⟩; have b10 := h10.below; replace h10 := h10.back hBW; replace hBW := hBW.trans (b10.mono hBW.size); replace q00 := below_cell b10 q00; replace q01 := below_cell b10 q01; replace q10 := below_cell b10 q10; replace q11 := below_cell b10 q11; replace l400 := below_cell b10 l400; replace l401 := below_cell b10 l401; replace l410 := below_cell b10 l410; replace l411 := below_cell b10 l411; replace l500 := below_cell b10 l500; replace l501 := below_cell b10 l501; replace l510 := below_cell b10 l510; replace l511 := below_cell b10 l511; replace l600 := below_cell b10 l600; replace l601 := below_cell b10 l601; replace l610 := below_cell b10 l610; replace l611 := below_cell b10 l611; replace h4 := h4.later b10; replace g4 := g4.later b10; replace h5 := h5.later b10; replace g5 := g5.later b10; replace h6 := h6.later b10; replace g6 := g6.later b10; replace h8 := h8.later b10; replace h9 := h9.later b10)
            | (go_at_call 9; go_at_call_of 9 (Value.agg #[Value.bool (ng A), Value.slice a9 (ln (am A)) (ln (am A))]); go_at_call_of 9 (Value.agg #[Value.bool (ng A), Value.slice a10 (ln (am A)) (ln (am A))]); refine (sameI_is (A) a9 a10 _ _ _ (by omega) h9.seg h10.seg).mono ?_; rintro e w11 ⟨rfl, b11⟩; replace hBW := hBW.trans (b11.mono hBW.size); replace q00 := below_cell b11 q00; replace q01 := below_cell b11 q01; replace q10 := below_cell b11 q10; replace q11 := below_cell b11 q11; replace l400 := below_cell b11 l400; replace l401 := below_cell b11 l401; replace l410 := below_cell b11 l410; replace l411 := below_cell b11 l411; replace l500 := below_cell b11 l500; replace l501 := below_cell b11 l501; replace l510 := below_cell b11 l510; replace l511 := below_cell b11 l511; replace l600 := below_cell b11 l600; replace l601 := below_cell b11 l601; replace l610 := below_cell b11 l610; replace l611 := below_cell b11 l611; replace h4 := h4.later b11; replace g4 := g4.later b11; replace h5 := h5.later b11; replace g5 := g5.later b11; replace h6 := h6.later b11; replace g6 := g6.later b11; replace h8 := h8.later b11; replace h9 := h9.later b11; replace h10 := h10.later b11)
            | (go_at_call 15; go_at_call_of 15 (Value.agg #[Value.bool s0, Value.slice a0 len0 cap0]); refine (HS0.out _ (sb hS0 hB hBW)).mono ?_; rintro e w12 ⟨rfl, b12⟩; replace hBW := hBW.trans (b12.mono hBW.size); replace q00 := below_cell b12 q00; replace q01 := below_cell b12 q01; replace q10 := below_cell b12 q10; replace q11 := below_cell b12 q11; replace l400 := below_cell b12 l400; replace l401 := below_cell b12 l401; replace l410 := below_cell b12 l410; replace l411 := below_cell b12 l411; replace l500 := below_cell b12 l500; replace l501 := below_cell b12 l501; replace l510 := below_cell b12 l510; replace l511 := below_cell b12 l511; replace l600 := below_cell b12 l600; replace l601 := below_cell b12 l601; replace l610 := below_cell b12 l610; replace l611 := below_cell b12 l611; replace h4 := h4.later b12; replace g4 := g4.later b12; replace h5 := h5.later b12; replace g5 := g5.later b12; replace h6 := h6.later b12; replace g6 := g6.later b12; replace h8 := h8.later b12; replace h9 := h9.later b12; replace h10 := h10.later b12)
            | (go_at_call 20; go_at_call_of 20 (Value.agg #[Value.bool (ng Zr), Value.slice c4 (ln (am Zr)) (ln (am Zr))]); go_at_call_of 20 (Value.agg #[Value.bool s1, Value.slice a1 len1 cap1]); refine (HW1.out _ c4 g4.seg (sb hS1 hB hBW)).mono ?_; rintro e w13 ⟨rfl, b13⟩; replace hBW := hBW.trans (b13.mono hBW.size); replace q00 := below_cell b13 q00; replace q01 := below_cell b13 q01; replace q10 := below_cell b13 q10; replace q11 := below_cell b13 q11; replace l400 := below_cell b13 l400; replace l401 := below_cell b13 l401; replace l410 := below_cell b13 l410; replace l411 := below_cell b13 l411; replace l500 := below_cell b13 l500; replace l501 := below_cell b13 l501; replace l510 := below_cell b13 l510; replace l511 := below_cell b13 l511; replace l600 := below_cell b13 l600; replace l601 := below_cell b13 l601; replace l610 := below_cell b13 l610; replace l611 := below_cell b13 l611; replace h4 := h4.later b13; replace g4 := g4.later b13; replace h5 := h5.later b13; replace g5 := g5.later b13; replace h6 := h6.later b13; replace g6 := g6.later b13; replace h8 := h8.later b13; replace h9 := h9.later b13; replace h10 := h10.later b13))
      | fail
    clear h8 h9 h10
    go_wp2_with fail
    replace hBW := hBW.drew
    replace h4 := h4.drew
    replace g4 := g4.drew
    replace h5 := h5.drew
    replace g5 := g5.drew
    replace h6 := h6.drew
    replace g6 := g6.drew
    first
      | go_region_held3 (fun w' => w'.cell? ⟨w.heap.size, 0, none⟩ = some (.bool s0) ∧ w'.cell? ⟨w.heap.size, 1, none⟩ = some (.slice a0 len0 cap0) ∧ w'.cell? ⟨w.heap.size + 1, 0, none⟩ = some (.bool s1) ∧ w'.cell? ⟨w.heap.size + 1, 1, none⟩ = some (.slice a1 len1 cap1) ∧ w'.cell? ⟨w4.heap.size, 0, none⟩ = some (.bool (ng Zq)) ∧ w'.cell? ⟨w4.heap.size, 1, none⟩ = some (.slice a4 (ln (am Zq)) (ln (am Zq))) ∧ w'.cell? ⟨w4.heap.size + 1, 0, none⟩ = some (.bool (ng Zr)) ∧ w'.cell? ⟨w4.heap.size + 1, 1, none⟩ = some (.slice c4 (ln (am Zr)) (ln (am Zr))) ∧ w'.cell? ⟨w5.heap.size, 0, none⟩ = some (.bool (ng Zs)) ∧ w'.cell? ⟨w5.heap.size, 1, none⟩ = some (.slice a5 (ln (am Zs)) (ln (am Zs))) ∧ w'.cell? ⟨w5.heap.size + 1, 0, none⟩ = some (.bool (ng Zt)) ∧ w'.cell? ⟨w5.heap.size + 1, 1, none⟩ = some (.slice c5 (ln (am Zt)) (ln (am Zt))) ∧ w'.cell? ⟨w6.heap.size, 0, none⟩ = some (.bool (ng Zu)) ∧ w'.cell? ⟨w6.heap.size, 1, none⟩ = some (.slice a6 (ln (am Zu)) (ln (am Zu))) ∧ w'.cell? ⟨w6.heap.size + 1, 0, none⟩ = some (.bool (ng Zv)) ∧ w'.cell? ⟨w6.heap.size + 1, 1, none⟩ = some (.slice c6 (ln (am Zv)) (ln (am Zv))) ∧ Below w.heap.size w w')
          (first | exact ⟨q00, q01, q10, q11, l400, l401, l410, l411, l500, l501, l510, l511, l600, l601, l610, l611, hB.trans (hBW.mono hB.size)⟩ | exact kp16 b14 (by assumption) | exact kp16 b15 (by assumption) | exact kp16 b16 (by assumption) | exact kp16 b17 (by assumption) | exact kp16 b18 (by assumption) | exact kp16 b19 (by assumption) | exact kp16 (below_alloc _) (by assumption))
          (first
            | (go_at_call 10; go_at_call_of 10 (Value.agg #[Value.bool (ng Zs), Value.slice a5 (ln (am Zs)) (ln (am Zs))]); go_at_call_of 10 (Value.agg #[Value.bool s1, Value.slice a1 len1 cap1]); refine (wMul_is (ng Zs) a5 (ln (am Zs)) (ln (am Zs)) (am Zs) s1 a1 len1 cap1 X1 (M2) _ (by omega) (by omega) h5.seg (by omega) (by omega) (sb hS1 hB hBW) N2.out).mono ?_; rintro e w14 ⟨a14, rfl, h14⟩; have b14 := h14.below; replace h14 := h14.back hBW; replace hBW := hBW.trans (b14.mono hBW.size); replace q00 := below_cell b14 q00; replace q01 := below_cell b14 q01; replace q10 := below_cell b14 q10; replace q11 := below_cell b14 q11; replace l400 := below_cell b14 l400; replace l401 := below_cell b14 l401; replace l410 := below_cell b14 l410; replace l411 := below_cell b14 l411; replace l500 := below_cell b14 l500; replace l501 := below_cell b14 l501; replace l510 := below_cell b14 l510; replace l511 := below_cell b14 l511; replace l600 := below_cell b14 l600; replace l601 := below_cell b14 l601; replace l610 := below_cell b14 l610; replace l611 := below_cell b14 l611; replace h4 := h4.later b14; replace g4 := g4.later b14; replace h5 := h5.later b14; replace g5 := g5.later b14; replace h6 := h6.later b14; replace g6 := g6.later b14)
            | (go_at_call 8; go_at_call_of 8 (Value.agg #[Value.bool (ng M2), Value.slice a14 (ln (am M2)) (ln (am M2))]); go_at_call_of 8 (Value.agg #[Value.bool (ng Zt), Value.slice c5 (ln (am Zt)) (ln (am Zt))]); refine (wAdd_is (ng M2) a14 (ln (am M2)) (ln (am M2)) (am M2) (ng Zt) c5 (ln (am Zt)) (ln (am Zt)) (am Zt) (A) _ (by omega) (by omega) h14.seg (by omega) (by omega) g5.seg E2.out).mono ?_; rintro e w15 ⟨a15, rfl, h15⟩; have b15 := h15.below; replace h15 := h15.back hBW; replace hBW := hBW.trans (b15.mono hBW.size); replace q00 := below_cell b15 q00; replace q01 := below_cell b15 q01; replace q10 := below_cell b15 q10; replace q11 := below_cell b15 q11; replace l400 := below_cell b15 l400; replace l401 := below_cell b15 l401; replace l410 := below_cell b15 l410; replace l411 := below_cell b15 l411; replace l500 := below_cell b15 l500; replace l501 := below_cell b15 l501; replace l510 := below_cell b15 l510; replace l511 := below_cell b15 l511; replace l600 := below_cell b15 l600; replace l601 := below_cell b15 l601; replace l610 := below_cell b15 l610; replace l611 := below_cell b15 l611; replace h4 := h4.later b15; replace g4 := g4.later b15; replace h5 := h5.later b15; replace g5 := g5.later b15; replace h6 := h6.later b15; replace g6 := g6.later b15; replace h14 := h14.later b15)
            | (go_at_call 12; go_at_call_of 12 (Value.agg #[Value.bool s0, Value.slice a0 len0 cap0]); refine (wNorm_is s0 a0 len0 cap0 X0 (A) _ (by omega) (by omega) (sb hS0 hB hBW) EA.out).mono ?_; rintro e w16 ⟨a16, rfl, h16⟩; have b16 := h16.below; replace h16 := h16.back hBW; replace hBW := hBW.trans (b16.mono hBW.size); replace q00 := below_cell b16 q00; replace q01 := below_cell b16 q01; replace q10 := below_cell b16 q10; replace q11 := below_cell b16 q11; replace l400 := below_cell b16 l400; replace l401 := below_cell b16 l401; replace l410 := below_cell b16 l410; replace l411 := below_cell b16 l411; replace l500 := below_cell b16 l500; replace l501 := below_cell b16 l501; replace l510 := below_cell b16 l510; replace l511 := below_cell b16 l511; replace l600 := below_cell b16 l600; replace l601 := below_cell b16 l601; replace l610 := below_cell b16 l610; replace l611 := below_cell b16 l611; replace h4 := h4.later b16; replace g4 := g4.later b16; replace h5 := h5.later b16; replace g5 := g5.later b16; replace h6 := h6.later b16; replace g6 := g6.later b16; replace h14 := h14.later b16; replace h15 := h15.later b16)
            | (go_at_call 9; go_at_call_of 9 (Value.agg #[Value.bool (ng A), Value.slice a15 (ln (am A)) (ln (am A))]); go_at_call_of 9 (Value.agg #[Value.bool (ng A), Value.slice a16 (ln (am A)) (ln (am A))]); refine (sameI_is (A) a15 a16 _ _ _ (by omega) h15.seg h16.seg).mono ?_; rintro e w17 ⟨rfl, b17⟩; replace hBW := hBW.trans (b17.mono hBW.size); replace q00 := below_cell b17 q00; replace q01 := below_cell b17 q01; replace q10 := below_cell b17 q10; replace q11 := below_cell b17 q11; replace l400 := below_cell b17 l400; replace l401 := below_cell b17 l401; replace l410 := below_cell b17 l410; replace l411 := below_cell b17 l411; replace l500 := below_cell b17 l500; replace l501 := below_cell b17 l501; replace l510 := below_cell b17 l510; replace l511 := below_cell b17 l511; replace l600 := below_cell b17 l600; replace l601 := below_cell b17 l601; replace l610 := below_cell b17 l610; replace l611 := below_cell b17 l611; replace h4 := h4.later b17; replace g4 := g4.later b17; replace h5 := h5.later b17; replace g5 := g5.later b17; replace h6 := h6.later b17; replace g6 := g6.later b17; replace h14 := h14.later b17; replace h15 := h15.later b17; replace h16 := h16.later b17)
            | (go_at_call 15; go_at_call_of 15 (Value.agg #[Value.bool s1, Value.slice a1 len1 cap1]); refine (HS1.out _ (sb hS1 hB hBW)).mono ?_; rintro e w18 ⟨rfl, b18⟩; replace hBW := hBW.trans (b18.mono hBW.size); replace q00 := below_cell b18 q00; replace q01 := below_cell b18 q01; replace q10 := below_cell b18 q10; replace q11 := below_cell b18 q11; replace l400 := below_cell b18 l400; replace l401 := below_cell b18 l401; replace l410 := below_cell b18 l410; replace l411 := below_cell b18 l411; replace l500 := below_cell b18 l500; replace l501 := below_cell b18 l501; replace l510 := below_cell b18 l510; replace l511 := below_cell b18 l511; replace l600 := below_cell b18 l600; replace l601 := below_cell b18 l601; replace l610 := below_cell b18 l610; replace l611 := below_cell b18 l611; replace h4 := h4.later b18; replace g4 := g4.later b18; replace h5 := h5.later b18; replace g5 := g5.later b18; replace h6 := h6.later b18; replace g6 := g6.later b18; replace h14 := h14.later b18; replace h15 := h15.later b18; replace h16 := h16.later b18)
            | (go_at_call 20; go_at_call_of 20 (Value.agg #[Value.bool (ng Zt), Value.slice c5 (ln (am Zt)) (ln (am Zt))]); go_at_call_of 20 (Value.agg #[Value.bool s1, Value.slice a1 len1 cap1]); refine (HW2.out _ c5 g5.seg (sb hS1 hB hBW)).mono ?_; rintro e w19 ⟨rfl, b19⟩; replace hBW := hBW.trans (b19.mono hBW.size); replace q00 := below_cell b19 q00; replace q01 := below_cell b19 q01; replace q10 := below_cell b19 q10; replace q11 := below_cell b19 q11; replace l400 := below_cell b19 l400; replace l401 := below_cell b19 l401; replace l410 := below_cell b19 l410; replace l411 := below_cell b19 l411; replace l500 := below_cell b19 l500; replace l501 := below_cell b19 l501; replace l510 := below_cell b19 l510; replace l511 := below_cell b19 l511; replace l600 := below_cell b19 l600; replace l601 := below_cell b19 l601; replace l610 := below_cell b19 l610; replace l611 := below_cell b19 l611; replace h4 := h4.later b19; replace g4 := g4.later b19; replace h5 := h5.later b19; replace g5 := g5.later b19; replace h6 := h6.later b19; replace g6 := g6.later b19; replace h14 := h14.later b19; replace h15 := h15.later b19; replace h16 := h16.later b19))
      | fail
    clear h14 h15 h16
    go_wp2_with fail
    replace hBW := hBW.drew
    replace h4 := h4.drew
    replace g4 := g4.drew
    replace h5 := h5.drew
    replace g5 := g5.drew
    replace h6 := h6.drew
    replace g6 := g6.drew
    first
      | go_region_held3 (fun w' => w'.cell? ⟨w.heap.size, 0, none⟩ = some (.bool s0) ∧ w'.cell? ⟨w.heap.size, 1, none⟩ = some (.slice a0 len0 cap0) ∧ w'.cell? ⟨w.heap.size + 1, 0, none⟩ = some (.bool s1) ∧ w'.cell? ⟨w.heap.size + 1, 1, none⟩ = some (.slice a1 len1 cap1) ∧ w'.cell? ⟨w4.heap.size, 0, none⟩ = some (.bool (ng Zq)) ∧ w'.cell? ⟨w4.heap.size, 1, none⟩ = some (.slice a4 (ln (am Zq)) (ln (am Zq))) ∧ w'.cell? ⟨w4.heap.size + 1, 0, none⟩ = some (.bool (ng Zr)) ∧ w'.cell? ⟨w4.heap.size + 1, 1, none⟩ = some (.slice c4 (ln (am Zr)) (ln (am Zr))) ∧ w'.cell? ⟨w5.heap.size, 0, none⟩ = some (.bool (ng Zs)) ∧ w'.cell? ⟨w5.heap.size, 1, none⟩ = some (.slice a5 (ln (am Zs)) (ln (am Zs))) ∧ w'.cell? ⟨w5.heap.size + 1, 0, none⟩ = some (.bool (ng Zt)) ∧ w'.cell? ⟨w5.heap.size + 1, 1, none⟩ = some (.slice c5 (ln (am Zt)) (ln (am Zt))) ∧ w'.cell? ⟨w6.heap.size, 0, none⟩ = some (.bool (ng Zu)) ∧ w'.cell? ⟨w6.heap.size, 1, none⟩ = some (.slice a6 (ln (am Zu)) (ln (am Zu))) ∧ w'.cell? ⟨w6.heap.size + 1, 0, none⟩ = some (.bool (ng Zv)) ∧ w'.cell? ⟨w6.heap.size + 1, 1, none⟩ = some (.slice c6 (ln (am Zv)) (ln (am Zv))) ∧ Below w.heap.size w w')
          (first | exact ⟨q00, q01, q10, q11, l400, l401, l410, l411, l500, l501, l510, l511, l600, l601, l610, l611, hB.trans (hBW.mono hB.size)⟩ | exact kp16 b20 (by assumption) | exact kp16 b21 (by assumption) | exact kp16 b22 (by assumption) | exact kp16 b23 (by assumption) | exact kp16 b24 (by assumption) | exact kp16 (below_alloc _) (by assumption))
          (first
            | (go_at_call 10; go_at_call_of 10 (Value.agg #[Value.bool (ng Zu), Value.slice a6 (ln (am Zu)) (ln (am Zu))]); go_at_call_of 10 (Value.agg #[Value.bool s1, Value.slice a1 len1 cap1]); refine (wMul_is (ng Zu) a6 (ln (am Zu)) (ln (am Zu)) (am Zu) s1 a1 len1 cap1 X1 (M3) _ (by omega) (by omega) h6.seg (by omega) (by omega) (sb hS1 hB hBW) N3.out).mono ?_; rintro e w20 ⟨a20, rfl, h20⟩; have b20 := h20.below; replace h20 := h20.back hBW; replace hBW := hBW.trans (b20.mono hBW.size); replace q00 := below_cell b20 q00; replace q01 := below_cell b20 q01; replace q10 := below_cell b20 q10; replace q11 := below_cell b20 q11; replace l400 := below_cell b20 l400; replace l401 := below_cell b20 l401; replace l410 := below_cell b20 l410; replace l411 := below_cell b20 l411; replace l500 := below_cell b20 l500; replace l501 := below_cell b20 l501; replace l510 := below_cell b20 l510; replace l511 := below_cell b20 l511; replace l600 := below_cell b20 l600; replace l601 := below_cell b20 l601; replace l610 := below_cell b20 l610; replace l611 := below_cell b20 l611; replace h4 := h4.later b20; replace g4 := g4.later b20; replace h5 := h5.later b20; replace g5 := g5.later b20; replace h6 := h6.later b20; replace g6 := g6.later b20)
            | (go_at_call 8; go_at_call_of 8 (Value.agg #[Value.bool (ng M3), Value.slice a20 (ln (am M3)) (ln (am M3))]); go_at_call_of 8 (Value.agg #[Value.bool (ng Zv), Value.slice c6 (ln (am Zv)) (ln (am Zv))]); refine (wAdd_is (ng M3) a20 (ln (am M3)) (ln (am M3)) (am M3) (ng Zv) c6 (ln (am Zv)) (ln (am Zv)) (am Zv) (A) _ (by omega) (by omega) h20.seg (by omega) (by omega) g6.seg E3.out).mono ?_; rintro e w21 ⟨a21, rfl, h21⟩; have b21 := h21.below; replace h21 := h21.back hBW; replace hBW := hBW.trans (b21.mono hBW.size); replace q00 := below_cell b21 q00; replace q01 := below_cell b21 q01; replace q10 := below_cell b21 q10; replace q11 := below_cell b21 q11; replace l400 := below_cell b21 l400; replace l401 := below_cell b21 l401; replace l410 := below_cell b21 l410; replace l411 := below_cell b21 l411; replace l500 := below_cell b21 l500; replace l501 := below_cell b21 l501; replace l510 := below_cell b21 l510; replace l511 := below_cell b21 l511; replace l600 := below_cell b21 l600; replace l601 := below_cell b21 l601; replace l610 := below_cell b21 l610; replace l611 := below_cell b21 l611; replace h4 := h4.later b21; replace g4 := g4.later b21; replace h5 := h5.later b21; replace g5 := g5.later b21; replace h6 := h6.later b21; replace g6 := g6.later b21; replace h20 := h20.later b21)
            | (go_at_call 12; go_at_call_of 12 (Value.agg #[Value.bool s0, Value.slice a0 len0 cap0]); refine (wNorm_is s0 a0 len0 cap0 X0 (A) _ (by omega) (by omega) (sb hS0 hB hBW) EA.out).mono ?_; rintro e w22 ⟨a22, rfl, h22⟩; have b22 := h22.below; replace h22 := h22.back hBW; replace hBW := hBW.trans (b22.mono hBW.size); replace q00 := below_cell b22 q00; replace q01 := below_cell b22 q01; replace q10 := below_cell b22 q10; replace q11 := below_cell b22 q11; replace l400 := below_cell b22 l400; replace l401 := below_cell b22 l401; replace l410 := below_cell b22 l410; replace l411 := below_cell b22 l411; replace l500 := below_cell b22 l500; replace l501 := below_cell b22 l501; replace l510 := below_cell b22 l510; replace l511 := below_cell b22 l511; replace l600 := below_cell b22 l600; replace l601 := below_cell b22 l601; replace l610 := below_cell b22 l610; replace l611 := below_cell b22 l611; replace h4 := h4.later b22; replace g4 := g4.later b22; replace h5 := h5.later b22; replace g5 := g5.later b22; replace h6 := h6.later b22; replace g6 := g6.later b22; replace h20 := h20.later b22; replace h21 := h21.later b22)
            | (go_at_call 9; go_at_call_of 9 (Value.agg #[Value.bool (ng A), Value.slice a21 (ln (am A)) (ln (am A))]); go_at_call_of 9 (Value.agg #[Value.bool (ng A), Value.slice a22 (ln (am A)) (ln (am A))]); refine (sameI_is (A) a21 a22 _ _ _ (by omega) h21.seg h22.seg).mono ?_; rintro e w23 ⟨rfl, b23⟩; replace hBW := hBW.trans (b23.mono hBW.size); replace q00 := below_cell b23 q00; replace q01 := below_cell b23 q01; replace q10 := below_cell b23 q10; replace q11 := below_cell b23 q11; replace l400 := below_cell b23 l400; replace l401 := below_cell b23 l401; replace l410 := below_cell b23 l410; replace l411 := below_cell b23 l411; replace l500 := below_cell b23 l500; replace l501 := below_cell b23 l501; replace l510 := below_cell b23 l510; replace l511 := below_cell b23 l511; replace l600 := below_cell b23 l600; replace l601 := below_cell b23 l601; replace l610 := below_cell b23 l610; replace l611 := below_cell b23 l611; replace h4 := h4.later b23; replace g4 := g4.later b23; replace h5 := h5.later b23; replace g5 := g5.later b23; replace h6 := h6.later b23; replace g6 := g6.later b23; replace h20 := h20.later b23; replace h21 := h21.later b23; replace h22 := h22.later b23)
            | (go_at_call 20; go_at_call_of 20 (Value.agg #[Value.bool (ng Zv), Value.slice c6 (ln (am Zv)) (ln (am Zv))]); go_at_call_of 20 (Value.agg #[Value.bool s1, Value.slice a1 len1 cap1]); refine (HW3.out _ c6 g6.seg (sb hS1 hB hBW)).mono ?_; rintro e w24 ⟨rfl, b24⟩; replace hBW := hBW.trans (b24.mono hBW.size); replace q00 := below_cell b24 q00; replace q01 := below_cell b24 q01; replace q10 := below_cell b24 q10; replace q11 := below_cell b24 q11; replace l400 := below_cell b24 l400; replace l401 := below_cell b24 l401; replace l410 := below_cell b24 l410; replace l411 := below_cell b24 l411; replace l500 := below_cell b24 l500; replace l501 := below_cell b24 l501; replace l510 := below_cell b24 l510; replace l511 := below_cell b24 l511; replace l600 := below_cell b24 l600; replace l601 := below_cell b24 l601; replace l610 := below_cell b24 l610; replace l611 := below_cell b24 l611; replace h4 := h4.later b24; replace g4 := g4.later b24; replace h5 := h5.later b24; replace g5 := g5.later b24; replace h6 := h6.later b24; replace g6 := g6.later b24; replace h20 := h20.later b24; replace h21 := h21.later b24; replace h22 := h22.later b24))
      | fail
    clear h20 h21 h22
    go_wp2
    go_ret
    exact ⟨rfl, hB.trans (hBW.mono hB.size)⟩

set_option maxRecDepth 100000 in
theorem contract (H : Type) (enc : TypeId × Value → H) (W : World) (base : Nat) (args : Array Value) (ds gs : List (DataW H)) (before : List MemPlace)
    (hval : ∀ (j : Nat) t v, Try.f5.params[j]? = some t → args[j]? = some v → Value.okWide Try.prog W .any base t v)
    (hW : DataW.Whole enc Try.prog Try.f5.params.toList Rows.wholeDivisionSpec.vars false W args.toList ds gs before)
    (hsz : (DataW.weightsEach Try.prog (Try.f5.params.toList ++ Rows.wholeDivisionSpec.plain.varTypes Try.prog) (ds ++ gs)).all (· ≤ reachBytes) = true) :
    Calls Try.prog 5 args W fun e W' => ∃ v, e = .returned v ∧ Rows.wholeDivisionSpec.post enc Try.prog Try.f5 false true false false W args v W' := by
  have hW' := hW
  obtain ⟨p, q, hA0, hV, rfl, hfz, hnd⟩ := hW
  have hA : DataW.TrodAll enc Try.prog W 0 (fun _ => true) true Try.f5.params.toList args.toList ds p := hA0
  rw [Try.params5] at hA hval hsz
  obtain ⟨v0, vs0, d0, ds0, p0, q0, hargs, rfl, rfl, h0, r0⟩ := trodAll_cons hA
  obtain ⟨v1, vs1, d1, ds1, p1, q1, rfl, rfl, rfl, h1, r1⟩ := trodAll_cons r0
  obtain ⟨rfl, rfl, rfl⟩ := trodAll_nil r1
  obtain rfl : args = #[v0, v1] := by cases args; simp_all
  obtain ⟨rfl, rfl⟩ := trodVars_none hV
  have lt0 : ∀ x ∈ p0, x.block < W.heap.size := by obtain ⟨m, hm⟩ := h0; exact DataW.trod_lt m _ _ _ hm
  obtain ⟨s0, a0, len0, cap0, X0, rfl, hS0, hc0, hb0, hu0⟩ := open_Int (hval 0 25 v0 rfl rfl) h0 (sized_at 0 hsz rfl rfl)
  have lt1 : ∀ x ∈ p1, x.block < W.heap.size := by obtain ⟨m, hm⟩ := h1; exact DataW.trod_lt m _ _ _ hm
  obtain ⟨s1, a1, len1, cap1, X1, rfl, hS1, hc1, hb1, hu1⟩ := open_Int (hval 1 25 v1 rfl rfl) h1 (sized_at 1 hsz rfl rfl)
  clear hA0
  simp only [List.append_nil] at hW'
  refine (walk s0 a0 len0 cap0 X0 s1 a1 len1 cap1 X1 W hS0 hc0 hb0 hS1 hc1 hb1).mono fun e W' ⟨he, bel⟩ => ?_
  subst he
  exact ⟨_, rfl, _, _, _, [], _, [], hW', trodAll_mk1 (shut_bool Try.underlying4 _), (trodAll_cons_mk (Below.trod laidOut (by kernel_rfl) (of_decide_eq_true (by kernel_rfl)) h0 bel lt0) (trodAll_cons_mk (Below.trod laidOut (by kernel_rfl) (of_decide_eq_true (by kernel_rfl)) h1 bel lt1) trodAll_mk0)), rfl, bel.frame _, fun h => by cases h⟩

set_option maxRecDepth 100000 in
theorem lifted (os : Os) (started : os.Started) (H : Type) (enc : TypeId × Value → H) :
    ReturnsInHanded {} Try.checked os 5 .any (Rows.wholeDivisionSpec.pre6 enc Try.prog Try.f5 Rows.wholeDivisionRow.domain false) (Rows.wholeDivisionSpec.post enc Try.prog Try.f5 false true false false) := by
  refine returnsInHanded_of_change_sized (C := Try.checked) own started (by kernel_rfl) Try.func5
    (ChangeSpec.witness6 (enc := enc) (C := Try.checked) false ⟨#[], #[.agg #[.bool false, .slice none 0 0], .agg #[.bool false, .slice none 0 0]], []⟩ 8 (by kernel_rfl) (by kernel_rfl) (by kernel_rfl) (by kernel_rfl)) ?_
  intro W base args ds gs before hval hW _ hsz _
  exact contract H enc W base args ds gs before hval hW hsz

theorem over : Rows.wholeDivisionRow.holds Try.pinned (OpenSpec.ofChange Rows.wholeDivisionSpec) :=
  OpenClaim.holds_of_wide 5 Try.f5 rfl rfl rfl rfl rfl rfl rfl ⟨rfl, rfl, rfl, rfl, rfl⟩ rfl rfl rfl rfl rfl (by kernel_rfl) Try.func5 (by kernel_rfl)
    (of_decide_eq_true (by kernel_rfl)) (by unfold Func.isWrapper; first | (rw [if_pos (by decide +kernel)]; kernel_rfl) | (rw [if_neg (by decide +kernel)]; exact ⟨rfl, rfl⟩))
    (fun os started H enc _ => lifted os started H enc)

end Go.Proofs.Ytpejkdabhijcoab.wholeDivision
namespace Go.Proofs.Ytpejkdabhijcoab
theorem wholeDivision_holds : Rows.WholeDivisionSaid := wholeDivision.over
#print axioms wholeDivision_holds
end Go.Proofs.Ytpejkdabhijcoab
