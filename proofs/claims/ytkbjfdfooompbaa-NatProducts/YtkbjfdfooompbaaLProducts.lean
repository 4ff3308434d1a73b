/-
  NatProducts: Mul and Div of any two numbers.
-/
import Derived.Test.YtkbjfdfooompbaaW13
import Derived.Test.YtkbjfdfooompbaaW11
import Derived.Test.YtkbjfdfooompbaaW8
import Derived.Test.YtkbjfdfooompbaaOpen
namespace Go.Proofs.Ytkbjfdfooompbaa.natProducts
open Go.ChangeShapes Go.WideShapes Go.ChangeAt Go.RowKit Go.Proofs.Ytkbjfdfooompbaa
set_option linter.unusedVariables false

set_option maxHeartbeats 8000000 in
theorem walk (a0 : Option Addr) (len0 cap0 X0 : Nat) (a1 : Option Addr) (len1 cap1 X1 : Nat) (w : World) (hS0 : Seg w a0 X0 len0) (hc : len0 ≤ cap0) (hb : len0 ≤ 35184372087808) (hS1 : Seg w a1 X1 len1) (hc1 : len1 ≤ cap1) (hb1 : len1 ≤ 35184372087808) :
    Calls Try.prog 6 #[.slice a0 len0 cap0, .slice a1 len1 cap1] w fun e w' => e = .returned (.bool true) ∧ Below w.heap.size w w' := by
  obtain ⟨Mm, hM⟩ : ∃ Z, X0 * X1 = Z := ⟨_, rfl⟩
  obtain ⟨M5, hM5⟩ : ∃ Z, X0 * 5 = Z := ⟨_, rfl⟩
  have E1 : Hid (X0 * X1 = Mm) := hM
  have E2 : Hid (X0 * 5 = M5) := hM5
  have E3 : Hid (M5 = X0 * 5 + 0) := by show _ = _; rw [hM5, Nat.add_zero]
  have lX0 : ln X0 ≤ 35184372087808 := by have := ln_le_of_lt hS0.1; omega
  have lM : ln Mm ≤ 70368744175616 := by have := ln_prod hS0.1 hS1.1; rw [hM] at this; omega
  have lM5 : ln M5 ≤ 35184372087810 := by have := ln_prod hS0.1 (show 5 < BB ^ 1 by rw [BB_eq]; omega); rw [hM5] at this; omega
  have qM := sameB_self (ln Mm) Mm
  have q0 := sameB_self (ln X0) X0
  have hl0 : (((ln 0 : Nat) : Int) == 0) = true := by rw [ln_zero]; rfl
  have hz0 : ln 0 ≤ 0 := by rw [ln_zero]; omega
  clear hM hM5
  by_cases hz : X1 = 0
  · subst hz
    have qz := sameB_self 0 0
    go_enter Try.func6, Try.ntmps6
    have B0 : Below w.heap.size w w := Below.refl _ _
    have s0 := hS0
    have s1 := hS1
    go_wp2_with fail
    refine (twin_any _ _ _ (X0) _ (by omega) s0).mono ?_
    rintro e wa1 ⟨ca1, rfl, hn1⟩
    replace s0 := s0.below hn1.below (Nat.le_refl _)
    replace s1 := s1.below hn1.below (Nat.le_refl _)
    have B1 := B0.trans (hn1.below.mono B0.size)
    clear B0
    have t1 := hn1.seg
    clear hn1
    go_wp2_with fail
    refine (twin_any _ _ _ (0) _ (by omega) s1).mono ?_
    rintro e wa2 ⟨ca2, rfl, hn2⟩
    replace s0 := s0.below hn2.below (Nat.le_refl _)
    replace s1 := s1.below hn2.below (Nat.le_refl _)
    replace t1 := t1.below hn2.below (Nat.le_refl _)
    have B2 := B1.trans (hn2.below.mono B1.size)
    clear B1
    have t2 := hn2.seg
    clear hn2
    go_wp2_with fail
    refine (Mul_is _ _ _ _ (X0) _ _ (0) (Mm) _ (by omega) (by omega) t1 (by omega) (by omega) t2 E1.out).mono ?_
    rintro e wa3 ⟨ca3, rfl, hn3⟩
    replace s0 := s0.below hn3.below (Nat.le_refl _)
    replace s1 := s1.below hn3.below (Nat.le_refl _)
    replace t1 := t1.below hn3.below (Nat.le_refl _)
    replace t2 := t2.below hn3.below (Nat.le_refl _)
    have B3 := B2.trans (hn3.below.mono B2.size)
    clear B2
    have t3 := hn3.seg
    clear hn3
    clear t1
    clear t2
    go_wp2_with fail
    refine (rMul_is _ _ _ _ X0 _ _ (0) Mm _ (by omega) s0 s1 E1.out).mono ?_
    rintro e wa4 ⟨ca4, rfl, hn4⟩
    replace s0 := s0.below hn4.below (Nat.le_refl _)
    replace s1 := s1.below hn4.below (Nat.le_refl _)
    replace t3 := t3.below hn4.below (Nat.le_refl _)
    have B4 := B3.trans (hn4.below.mono B3.size)
    clear B3
    have t4 := hn4.seg
    clear hn4
    go_wp2_with fail
    refine (same_any _ _ _ _ (Mm) _ _ (Mm) _ (by omega) (by omega) t3 t4).mono ?_
    rintro e wa5 ⟨rfl, hd5⟩
    replace s0 := s0.dr hd5
    replace s1 := s1.dr hd5
    replace t3 := t3.dr hd5
    replace t4 := t4.dr hd5
    have B5 := B4.trans (hd5.below _)
    clear B4 hd5
    clear t3
    clear t4
    go_wp2_with fail
    refine (twin_any _ _ _ (X0) _ (by omega) s0).mono ?_
    rintro e wa6 ⟨ca6, rfl, hn6⟩
    replace s0 := s0.below hn6.below (Nat.le_refl _)
    replace s1 := s1.below hn6.below (Nat.le_refl _)
    have B6 := B5.trans (hn6.below.mono B5.size)
    clear B5
    have t6 := hn6.seg
    clear hn6
    go_wp2_with fail
    refine (twin_any _ _ _ (0) _ (by omega) s1).mono ?_
    rintro e wa7 ⟨ca7, rfl, hn7⟩
    replace s0 := s0.below hn7.below (Nat.le_refl _)
    replace s1 := s1.below hn7.below (Nat.le_refl _)
    replace t6 := t6.below hn7.below (Nat.le_refl _)
    have B7 := B6.trans (hn7.below.mono B6.size)
    clear B6
    have t7 := hn7.seg
    clear hn7
    go_wp2_with fail
    refine (Div_zero _ _ _ _ X0 _ _ _ (by omega) (by omega) t6 (by omega) (by omega) t7).mono ?_
    rintro e wa8 ⟨rfl, rfl⟩
    clear t6
    clear t7
    go_wp2_with fail
    refine (rDiv_zero _ _ _ _ X0 _ _ _ (by omega) s1).mono ?_
    rintro e wa9 ⟨rfl, hw9⟩
    replace s0 := s0.below hw9 (Nat.le_refl _)
    replace s1 := s1.below hw9 (Nat.le_refl _)
    have B9 := B7.trans (hw9.mono B7.size)
    clear B7
    clear hw9
    go_wp2_with fail
    refine (same_any _ _ _ _ 0 _ _ 0 _ (by omega) (by omega) (Seg.nil _ _) (Seg.nil _ _)).mono ?_
    rintro e wa10 ⟨rfl, hd10⟩
    replace s0 := s0.dr hd10
    replace s1 := s1.dr hd10
    have B10 := B9.trans (hd10.below _)
    clear B9 hd10
    go_wp2_with fail
    refine (same_any _ _ _ _ 0 _ _ 0 _ (by omega) (by omega) (Seg.nil _ _) (Seg.nil _ _)).mono ?_
    rintro e wa11 ⟨rfl, hd11⟩
    replace s0 := s0.dr hd11
    replace s1 := s1.dr hd11
    have B11 := B10.trans (hd11.below _)
    clear B10 hd11
    go_wp2_with fail
    refine (twin_any _ _ _ (X0) _ (by omega) s0).mono ?_
    rintro e wa12 ⟨ca12, rfl, hn12⟩
    replace s0 := s0.below hn12.below (Nat.le_refl _)
    replace s1 := s1.below hn12.below (Nat.le_refl _)
    have B12 := B11.trans (hn12.below.mono B11.size)
    clear B11
    have t12 := hn12.seg
    clear hn12
    go_wp2_with fail
    have hn13 := pair_new wa12 5 27 5 0 (by omega) (by rw [dg0]; rfl) (by rw [dg1]; rfl)
    replace s0 := s0.below hn13.below (Nat.le_refl _)
    replace s1 := s1.below hn13.below (Nat.le_refl _)
    replace t12 := t12.below hn13.below (Nat.le_refl _)
    have B13 := B12.trans (hn13.below.mono B12.size)
    clear B12
    have t13 := hn13.seg
    clear hn13
    go_wp2_with fail
    refine (Mul_is _ _ _ _ (X0) _ _ (5) (M5) _ (by omega) (by omega) t12 (by omega) (by omega) t13 E2.out).mono ?_
    rintro e wa14 ⟨ca14, rfl, hn14⟩
    replace s0 := s0.below hn14.below (Nat.le_refl _)
    replace s1 := s1.below hn14.below (Nat.le_refl _)
    replace t12 := t12.below hn14.below (Nat.le_refl _)
    replace t13 := t13.below hn14.below (Nat.le_refl _)
    have B14 := B13.trans (hn14.below.mono B13.size)
    clear B13
    have t14 := hn14.seg
    clear hn14
    clear t12
    clear t13
    go_wp2_with fail
    have hn15 := single_new wa14 5 27 5 (by omega) rfl
    replace s0 := s0.below hn15.below (Nat.le_refl _)
    replace s1 := s1.below hn15.below (Nat.le_refl _)
    replace t14 := t14.below hn15.below (Nat.le_refl _)
    have B15 := B14.trans (hn15.below.mono B14.size)
    clear B14
    have t15 := hn15.seg
    clear hn15
    go_wp2_with fail
    refine (Div_is _ _ _ _ M5 _ _ 5 X0 0 _ (by omega) (by omega) t14 (by omega) (by omega) t15 E3.out (by omega)).mono ?_
    rintro e wa16 ⟨aq16, ar16, rfl, hq16, hr16⟩
    replace s0 := s0.below hq16.below (Nat.le_refl _)
    replace s1 := s1.below hq16.below (Nat.le_refl _)
    replace t14 := t14.below hq16.below (Nat.le_refl _)
    replace t15 := t15.below hq16.below (Nat.le_refl _)
    have B16 := B15.trans (hq16.below.mono B15.size)
    clear B15
    have tq16 := hq16.seg
    have tr16 := hr16.seg
    clear hq16 hr16
    clear t14
    clear t15
    go_wp2_with fail
    refine (rNorm_any _ _ _ (X0) _ (by omega) s0).mono ?_
    rintro e wa17 ⟨ca17, rfl, hn17⟩
    replace s0 := s0.below hn17.below (Nat.le_refl _)
    replace s1 := s1.below hn17.below (Nat.le_refl _)
    replace tq16 := tq16.below hn17.below (Nat.le_refl _)
    replace tr16 := tr16.below hn17.below (Nat.le_refl _)
    have B17 := B16.trans (hn17.below.mono B16.size)
    clear B16
    have t17 := hn17.seg
    clear hn17
    go_wp2_with fail
    refine (same_any _ _ _ _ (X0) _ _ (X0) _ (by omega) (by omega) tq16 t17).mono ?_
    rintro e wa18 ⟨rfl, hd18⟩
    replace s0 := s0.dr hd18
    replace s1 := s1.dr hd18
    replace tq16 := tq16.dr hd18
    replace tr16 := tr16.dr hd18
    replace t17 := t17.dr hd18
    have B18 := B17.trans (hd18.below _)
    clear B17 hd18
    go_wp2
    go_ret
    exact ⟨rfl, B18⟩
  · obtain ⟨Qq, hQ⟩ : ∃ Z, X0 / X1 = Z := ⟨_, rfl⟩
    obtain ⟨Rr, hR⟩ : ∃ Z, X0 % X1 = Z := ⟨_, rfl⟩
    have E4 : Hid (X0 = Qq * X1 + Rr) := by
      show _ = _
      rw [← hQ, ← hR]; have := Nat.div_add_mod X0 X1; rw [Nat.mul_comm] at this; exact this.symm
    have E5 : Hid (Rr < X1) := by show _ < _; rw [← hR]; exact Nat.mod_lt _ (by omega)
    have lQ : ln Qq ≤ 35184372087808 := by have := ln_le_of_lt (Nat.lt_of_le_of_lt (Nat.div_le_self X0 X1) hS0.1); rw [hQ] at this; omega
    have lR : ln Rr ≤ 35184372087808 := by have := ln_le_of_lt (Nat.lt_of_le_of_lt (Nat.mod_le X0 X1) hS0.1); rw [hR] at this; omega
    have qQ := sameB_self (ln Qq) Qq
    have qR := sameB_self (ln Rr) Rr
    clear hQ hR hz
    go_enter Try.func6, Try.ntmps6
    have B0 : Below w.heap.size w w := Below.refl _ _
    have s0 := hS0
    have s1 := hS1
    go_wp2_with fail
    refine (twin_any _ _ _ (X0) _ (by omega) s0).mono ?_
    rintro e wa1 ⟨ca1, rfl, hn1⟩
    replace s0 := s0.below hn1.below (Nat.le_refl _)
    replace s1 := s1.below hn1.below (Nat.le_refl _)
    have B1 := B0.trans (hn1.below.mono B0.size)
    clear B0
    have t1 := hn1.seg
    clear hn1
    go_wp2_with fail
    refine (twin_any _ _ _ (X1) _ (by omega) s1).mono ?_
    rintro e wa2 ⟨ca2, rfl, hn2⟩
    replace s0 := s0.below hn2.below (Nat.le_refl _)
    replace s1 := s1.below hn2.below (Nat.le_refl _)
    replace t1 := t1.below hn2.below (Nat.le_refl _)
    have B2 := B1.trans (hn2.below.mono B1.size)
    clear B1
    have t2 := hn2.seg
    clear hn2
    go_wp2_with fail
    refine (Mul_is _ _ _ _ (X0) _ _ (X1) (Mm) _ (by omega) (by omega) t1 (by omega) (by omega) t2 E1.out).mono ?_
    rintro e wa3 ⟨ca3, rfl, hn3⟩
    replace s0 := s0.below hn3.below (Nat.le_refl _)
    replace s1 := s1.below hn3.below (Nat.le_refl _)
    replace t1 := t1.below hn3.below (Nat.le_refl _)
    replace t2 := t2.below hn3.below (Nat.le_refl _)
    have B3 := B2.trans (hn3.below.mono B2.size)
    clear B2
    have t3 := hn3.seg
    clear hn3
    clear t1
    clear t2
    go_wp2_with fail
    refine (rMul_is _ _ _ _ X0 _ _ (X1) Mm _ (by omega) s0 s1 E1.out).mono ?_
    rintro e wa4 ⟨ca4, rfl, hn4⟩
    replace s0 := s0.below hn4.below (Nat.le_refl _)
    replace s1 := s1.below hn4.below (Nat.le_refl _)
    replace t3 := t3.below hn4.below (Nat.le_refl _)
    have B4 := B3.trans (hn4.below.mono B3.size)
    clear B3
    have t4 := hn4.seg
    clear hn4
    go_wp2_with fail
    refine (same_any _ _ _ _ (Mm) _ _ (Mm) _ (by omega) (by omega) t3 t4).mono ?_
    rintro e wa5 ⟨rfl, hd5⟩
    replace s0 := s0.dr hd5
    replace s1 := s1.dr hd5
    replace t3 := t3.dr hd5
    replace t4 := t4.dr hd5
    have B5 := B4.trans (hd5.below _)
    clear B4 hd5
    clear t3
    clear t4
    go_wp2_with fail
    refine (twin_any _ _ _ (X0) _ (by omega) s0).mono ?_
    rintro e wa6 ⟨ca6, rfl, hn6⟩
    replace s0 := s0.below hn6.below (Nat.le_refl _)
    replace s1 := s1.below hn6.below (Nat.le_refl _)
    have B6 := B5.trans (hn6.below.mono B5.size)
    clear B5
    have t6 := hn6.seg
    clear hn6
    go_wp2_with fail
    refine (twin_any _ _ _ (X1) _ (by omega) s1).mono ?_
    rintro e wa7 ⟨ca7, rfl, hn7⟩
    replace s0 := s0.below hn7.below (Nat.le_refl _)
    replace s1 := s1.below hn7.below (Nat.le_refl _)
    replace t6 := t6.below hn7.below (Nat.le_refl _)
    have B7 := B6.trans (hn7.below.mono B6.size)
    clear B6
    have t7 := hn7.seg
    clear hn7
    go_wp2_with fail
    refine (Div_is _ _ _ _ X0 _ _ X1 Qq Rr _ (by omega) (by omega) t6 (by omega) (by omega) t7 E4.out E5.out).mono ?_
    rintro e wa8 ⟨aq8, ar8, rfl, hq8, hr8⟩
    replace s0 := s0.below hq8.below (Nat.le_refl _)
    replace s1 := s1.below hq8.below (Nat.le_refl _)
    replace t6 := t6.below hq8.below (Nat.le_refl _)
    replace t7 := t7.below hq8.below (Nat.le_refl _)
    have B8 := B7.trans (hq8.below.mono B7.size)
    clear B7
    have tq8 := hq8.seg
    have tr8 := hr8.seg
    clear hq8 hr8
    clear t6
    clear t7
    go_wp2_with fail
    refine (rDiv_is _ _ _ _ X0 _ _ X1 Qq Rr _ (by omega) s0 (by omega) s1 E4.out E5.out).mono ?_
    rintro e wa9 ⟨aq9, ar9, rfl, hq9, hr9⟩
    replace s0 := s0.below hq9.below (Nat.le_refl _)
    replace s1 := s1.below hq9.below (Nat.le_refl _)
    replace tq8 := tq8.below hq9.below (Nat.le_refl _)
    replace tr8 := tr8.below hq9.below (Nat.le_refl _)
    have B9 := B8.trans (hq9.below.mono B8.size)
    clear B8
    have tq9 := hq9.seg
    have tr9 := hr9.seg
    clear hq9 hr9
    go_wp2_with fail
    refine (same_any _ _ _ _ (Qq) _ _ (Qq) _ (by omega) (by omega) tq8 tq9).mono ?_
    rintro e wa10 ⟨rfl, hd10⟩
    replace s0 := s0.dr hd10
    replace s1 := s1.dr hd10
    replace tq8 := tq8.dr hd10
    replace tr8 := tr8.dr hd10
    replace tq9 := tq9.dr hd10
    replace tr9 := tr9.dr hd10
    have B10 := B9.trans (hd10.below _)
    clear B9 hd10
    go_wp2_with fail
    refine (same_any _ _ _ _ (Rr) _ _ (Rr) _ (by omega) (by omega) tr8 tr9).mono ?_
    rintro e wa11 ⟨rfl, hd11⟩
    replace s0 := s0.dr hd11
    replace s1 := s1.dr hd11
    replace tq8 := tq8.dr hd11
    replace tr8 := tr8.dr hd11
    replace tq9 := tq9.dr hd11
    replace tr9 := tr9.dr hd11
    have B11 := B10.trans (hd11.below _)
    clear B10 hd11
    clear tq8
    clear tr8
    clear tq9
    clear tr9
    go_wp2_with fail
    refine (twin_any _ _ _ (X0) _ (by omega) s0).mono ?_
    rintro e wa12 ⟨ca12, rfl, hn12⟩
    replace s0 := s0.below hn12.below (Nat.le_refl _)
    replace s1 := s1.below hn12.below (Nat.le_refl _)
    have B12 := B11.trans (hn12.below.mono B11.size)
    clear B11
    have t12 := hn12.seg
    clear hn12
    go_wp2_with fail
    have hn13 := pair_new wa12 5 27 5 0 (by omega) (by rw [dg0]; rfl) (by rw [dg1]; rfl)
    replace s0 := s0.below hn13.below (Nat.le_refl _)
    replace s1 := s1.below hn13.below (Nat.le_refl _)
    replace t12 := t12.below hn13.below (Nat.le_refl _)
    have B13 := B12.trans (hn13.below.mono B12.size)
    clear B12
    have t13 := hn13.seg
    clear hn13
    go_wp2_with fail
    refine (Mul_is _ _ _ _ (X0) _ _ (5) (M5) _ (by omega) (by omega) t12 (by omega) (by omega) t13 E2.out).mono ?_
    rintro e wa14 ⟨ca14, rfl, hn14⟩
    replace s0 := s0.below hn14.below (Nat.le_refl _)
    replace s1 := s1.below hn14.below (Nat.le_refl _)
    replace t12 := t12.below hn14.below (Nat.le_refl _)
    replace t13 := t13.below hn14.below (Nat.le_refl _)
    have B14 := B13.trans (hn14.below.mono B13.size)
    clear B13
    have t14 := hn14.seg
    clear hn14
    clear t12
    clear t13
    go_wp2_with fail
    have hn15 := single_new wa14 5 27 5 (by omega) rfl
    replace s0 := s0.below hn15.below (Nat.le_refl _)
    replace s1 := s1.below hn15.below (Nat.le_refl _)
    replace t14 := t14.below hn15.below (Nat.le_refl _)
    have B15 := B14.trans (hn15.below.mono B14.size)
    clear B14
    have t15 := hn15.seg
    clear hn15
    go_wp2_with fail
    refine (Div_is _ _ _ _ M5 _ _ 5 X0 0 _ (by omega) (by omega) t14 (by omega) (by omega) t15 E3.out (by omega)).mono ?_
    rintro e wa16 ⟨aq16, ar16, rfl, hq16, hr16⟩
    replace s0 := s0.below hq16.below (Nat.le_refl _)
    replace s1 := s1.below hq16.below (Nat.le_refl _)
    replace t14 := t14.below hq16.below (Nat.le_refl _)
    replace t15 := t15.below hq16.below (Nat.le_refl _)
    have B16 := B15.trans (hq16.below.mono B15.size)
    clear B15
    have tq16 := hq16.seg
    have tr16 := hr16.seg
    clear hq16 hr16
    clear t14
    clear t15
    go_wp2_with fail
    refine (rNorm_any _ _ _ (X0) _ (by omega) s0).mono ?_
    rintro e wa17 ⟨ca17, rfl, hn17⟩
    replace s0 := s0.below hn17.below (Nat.le_refl _)
    replace s1 := s1.below hn17.below (Nat.le_refl _)
    replace tq16 := tq16.below hn17.below (Nat.le_refl _)
    replace tr16 := tr16.below hn17.below (Nat.le_refl _)
    have B17 := B16.trans (hn17.below.mono B16.size)
    clear B16
    have t17 := hn17.seg
    clear hn17
    go_wp2_with fail
    refine (same_any _ _ _ _ (X0) _ _ (X0) _ (by omega) (by omega) tq16 t17).mono ?_
    rintro e wa18 ⟨rfl, hd18⟩
    replace s0 := s0.dr hd18
    replace s1 := s1.dr hd18
    replace tq16 := tq16.dr hd18
    replace tr16 := tr16.dr hd18
    replace t17 := t17.dr hd18
    have B18 := B17.trans (hd18.below _)
    clear B17 hd18
    go_wp2
    go_ret
    exact ⟨rfl, B18⟩

theorem contract (H : Type) (enc : TypeId × Value → H) (W : World) (base : Nat) (args : Array Value) (ds gs : List (DataW H)) (before : List MemPlace)
    (hval : ∀ (j : Nat) t v, Try.f6.params[j]? = some t → args[j]? = some v → Value.okWide Try.prog W .any base t v)
    (hW : DataW.Whole enc Try.prog Try.f6.params.toList Rows.natProductsSpec.vars false W args.toList ds gs before)
    (hsz : (DataW.weightsEach Try.prog (Try.f6.params.toList ++ Rows.natProductsSpec.plain.varTypes Try.prog) (ds ++ gs)).all (· ≤ reachBytes) = true) :
    Calls Try.prog 6 args W fun e W' => ∃ v, e = .returned v ∧ Rows.natProductsSpec.post enc Try.prog Try.f6 false true false false W args v W' := by
  have hW' := hW
  obtain ⟨p, q, hA0, hV, rfl, hfz, hnd⟩ := hW
  have hA : DataW.TrodAll enc Try.prog W 0 (fun _ => true) true Try.f6.params.toList args.toList ds p := hA0
  rw [Try.params6] at hA hval hsz
  obtain ⟨v0, vs0, d0, ds0, p0, q0, hargs, rfl, rfl, h0, r0⟩ := trodAll_cons hA
  obtain ⟨v1, vs1, d1, ds1, p1, q1, rfl, rfl, rfl, h1, r1⟩ := trodAll_cons r0
  obtain ⟨rfl, rfl, rfl⟩ := trodAll_nil r1
  obtain rfl : args = #[v0, v1] := by cases args; simp_all
  obtain ⟨rfl, rfl⟩ := trodVars_none hV
  obtain ⟨a0, len0, cap0, rfl⟩ := okWide_slice Try.underlying23 (hval 0 23 v0 rfl rfl)
  have lt0 : ∀ x ∈ p0, x.block < W.heap.size := by obtain ⟨m, hm⟩ := h0; exact DataW.trod_lt m _ _ _ hm
  obtain ⟨X0, hS0, hc0, hb0, hu0⟩ := open_nat Try.underlying23 h0 (fun elems spare h => sized_slice hsz (j := 0) (t := 23) (e := 27) rfl (by rw [h]; rfl) Try.underlying23)
  obtain ⟨a1, len1, cap1, rfl⟩ := okWide_slice Try.underlying23 (hval 1 23 v1 rfl rfl)
  have lt1 : ∀ x ∈ p1, x.block < W.heap.size := by obtain ⟨m, hm⟩ := h1; exact DataW.trod_lt m _ _ _ hm
  obtain ⟨X1, hS1, hc1, hb1, hu1⟩ := open_nat Try.underlying23 h1 (fun elems spare h => sized_slice hsz (j := 1) (t := 23) (e := 27) rfl (by rw [h]; rfl) Try.underlying23)
  clear hA0
  simp only [List.append_nil] at hW'
  refine (walk a0 len0 cap0 X0 a1 len1 cap1 X1 W hS0 hc0 hb0 hS1 hc1 hb1).mono fun e W' ⟨he, bel⟩ => ?_
  subst he
  exact ⟨_, rfl, _, _, _, [], _, [], hW', trodAll_mk1 (shut_bool Try.underlying4 _), (trodAll_cons_mk (Below.trod laidOut (by kernel_rfl) (of_decide_eq_true (by kernel_rfl)) h0 bel lt0) (trodAll_cons_mk (Below.trod laidOut (by kernel_rfl) (of_decide_eq_true (by kernel_rfl)) h1 bel lt1) trodAll_mk0)), rfl, bel.frame _, fun h => by cases h⟩

set_option maxRecDepth 100000 in
theorem lifted (os : Os) (started : os.Started) (H : Type) (enc : TypeId × Value → H) :
    ReturnsInHanded {} Try.checked os 6 .any (Rows.natProductsSpec.pre6 enc Try.prog Try.f6 Rows.natProductsRow.domain false) (Rows.natProductsSpec.post enc Try.prog Try.f6 false true false false) := by
  refine returnsInHanded_of_change_sized (C := Try.checked) own started (by kernel_rfl) Try.func6
    (ChangeSpec.witness6 (enc := enc) (C := Try.checked) false ⟨#[], #[.slice none 0 0, .slice none 0 0], []⟩ 8 (by kernel_rfl) (by kernel_rfl) (by kernel_rfl) (by kernel_rfl)) ?_
  intro W base args ds gs before hval hW _ hsz _
  exact contract H enc W base args ds gs before hval hW hsz

theorem over : Rows.natProductsRow.holds Try.pinned (OpenSpec.ofChange Rows.natProductsSpec) :=
  OpenClaim.holds_of_wide 6 Try.f6 rfl rfl rfl rfl rfl rfl rfl ⟨rfl, rfl, rfl, rfl, rfl⟩ rfl rfl rfl rfl rfl (by kernel_rfl) Try.func6 (by kernel_rfl)
    (of_decide_eq_true (by kernel_rfl)) (by unfold Func.isWrapper; first | (rw [if_pos (by decide +kernel)]; kernel_rfl) | (rw [if_neg (by decide +kernel)]; exact ⟨rfl, rfl⟩))
    (fun os started H enc _ => lifted os started H enc)

end Go.Proofs.Ytkbjfdfooompbaa.natProducts
namespace Go.Proofs.Ytkbjfdfooompbaa
theorem natProducts_holds : Rows.NatProductsSaid := natProducts.over
#print axioms natProducts_holds
end Go.Proofs.Ytkbjfdfooompbaa
