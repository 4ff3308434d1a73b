/-
  NatSums: Cmp, Add and Sub of any two numbers.
-/
import Derived.Test.YtkbjfdfooompbaaW4
import Derived.Test.YtkbjfdfooompbaaOpen
namespace Go.Proofs.Ytkbjfdfooompbaa.natSums
open Go.ChangeShapes Go.WideShapes Go.ChangeAt Go.RowKit Go.Proofs.Ytkbjfdfooompbaa
set_option linter.unusedVariables false

set_option maxHeartbeats 2000000 in
theorem walk (a0 : Option Addr) (len0 cap0 X0 : Nat) (a1 : Option Addr) (len1 cap1 X1 : Nat) (w : World) (hS0 : Seg w a0 X0 len0) (hc : len0 ≤ cap0) (hb : len0 ≤ 35184372087808) (hS1 : Seg w a1 X1 len1) (hc1 : len1 ≤ cap1) (hb1 : len1 ≤ 35184372087808) :
    Calls Try.prog 5 #[.slice a0 len0 cap0, .slice a1 len1 cap1] w fun e w' => e = .returned (.bool true) ∧ Below w.heap.size w w' := by
  have hlsum : ln (X0 + X1) ≤ 70368744177663 := ln_sum hS0.1 hS1.1 (by omega) (by omega)
  have hl1 : ln (X0 + 1) ≤ 70368744177663 := ln_sum hS0.1 (show 1 < BB ^ 1 by rw [BB_eq]; omega) (by omega) (by omega)
  have hsame := sameB_self (ln (X0 + X1)) (X0 + X1)
  have hone : sameB (ln 1) 1 1 1 = true := by rw [ln_one]; exact sameB_self _ _
  have hl2 : ln 1 ≤ 1 := by rw [ln_one]; omega
  have hl3 : ln (X0 - X1) ≤ 70368744177663 := by have := ln_le_of_lt (Nat.lt_of_le_of_lt (Nat.sub_le X0 X1) hS0.1); omega
  by_cases hle : X1 ≤ X0
  · have hsame2 := sameB_self (ln (X0 - X1)) (X0 - X1)
    have HL : Hid (X1 ≤ X0) := hle
    clear hle
    go_enter Try.func5, Try.ntmps5
    have B0 : Below w.heap.size w w := Below.refl _ _
    have s0 := hS0
    have s1 := hS1
    go_wp2_with fail
    refine (twin_any _ _ _ (X0) _ (by omega) s0).mono ?_
    rintro e wa1 ⟨ca1, rfl, hn1⟩
    replace s0 := s0.below hn1.below (Nat.le_refl _)
    replace s1 := s1.below hn1.below (Nat.le_refl _)
    have B1 := B0.trans (hn1.below.mono B0.size)
    clear B0
    have t1 := hn1.seg
    clear hn1
    go_wp2_with fail
    refine (twin_any _ _ _ (X1) _ (by omega) s1).mono ?_
    rintro e wa2 ⟨ca2, rfl, hn2⟩
    replace s0 := s0.below hn2.below (Nat.le_refl _)
    replace s1 := s1.below hn2.below (Nat.le_refl _)
    replace t1 := t1.below hn2.below (Nat.le_refl _)
    have B2 := B1.trans (hn2.below.mono B1.size)
    clear B1
    have t2 := hn2.seg
    clear hn2
    go_wp2_with fail
    refine (Cmp_any _ _ _ _ X0 _ _ X1 _ (by omega) (by omega) t1 (by omega) (by omega) t2).mono ?_
    rintro e wa3 ⟨rfl, hd3⟩
    replace s0 := s0.dr hd3
    replace s1 := s1.dr hd3
    replace t1 := t1.dr hd3
    replace t2 := t2.dr hd3
    have B3 := B2.trans (hd3.below _)
    clear B2 hd3
    clear t1
    clear t2
    go_wp2_with fail
    refine (rCmp_any _ _ _ _ X0 _ _ X1 _ (by omega) s0 (by omega) s1).mono ?_
    rintro e wa4 ⟨rfl, rfl⟩
    go_wp2_with fail
    refine (twin_any _ _ _ (X0) _ (by omega) s0).mono ?_
    rintro e wa5 ⟨ca5, rfl, hn5⟩
    replace s0 := s0.below hn5.below (Nat.le_refl _)
    replace s1 := s1.below hn5.below (Nat.le_refl _)
    have B5 := B3.trans (hn5.below.mono B3.size)
    clear B3
    have t5 := hn5.seg
    clear hn5
    go_wp2_with fail
    refine (twin_any _ _ _ (X1) _ (by omega) s1).mono ?_
    rintro e wa6 ⟨ca6, rfl, hn6⟩
    replace s0 := s0.below hn6.below (Nat.le_refl _)
    replace s1 := s1.below hn6.below (Nat.le_refl _)
    replace t5 := t5.below hn6.below (Nat.le_refl _)
    have B6 := B5.trans (hn6.below.mono B5.size)
    clear B5
    have t6 := hn6.seg
    clear hn6
    go_wp2_with fail
    refine (Add_any _ _ _ _ (X0) _ _ (X1) _ (by omega) (by omega) t5 (by omega) (by omega) t6).mono ?_
    rintro e wa7 ⟨ca7, rfl, hn7⟩
    replace s0 := s0.below hn7.below (Nat.le_refl _)
    replace s1 := s1.below hn7.below (Nat.le_refl _)
    replace t5 := t5.below hn7.below (Nat.le_refl _)
    replace t6 := t6.below hn7.below (Nat.le_refl _)
    have B7 := B6.trans (hn7.below.mono B6.size)
    clear B6
    have t7 := hn7.seg
    clear hn7
    clear t5
    clear t6
    go_wp2_with fail
    refine (rAdd_any _ _ _ _ (X0) _ _ (X1) _ (by omega) s0 (by omega) s1).mono ?_
    rintro e wa8 ⟨ca8, rfl, hn8⟩
    replace s0 := s0.below hn8.below (Nat.le_refl _)
    replace s1 := s1.below hn8.below (Nat.le_refl _)
    replace t7 := t7.below hn8.below (Nat.le_refl _)
    have B8 := B7.trans (hn8.below.mono B7.size)
    clear B7
    have t8 := hn8.seg
    clear hn8
    go_wp2_with fail
    refine (same_any _ _ _ _ (X0 + X1) _ _ (X0 + X1) _ (by omega) (by omega) t7 t8).mono ?_
    rintro e wa9 ⟨rfl, hd9⟩
    replace s0 := s0.dr hd9
    replace s1 := s1.dr hd9
    replace t7 := t7.dr hd9
    replace t8 := t8.dr hd9
    have B9 := B8.trans (hd9.below _)
    clear B8 hd9
    clear t7
    clear t8
    go_wp2_with fail
    refine (twin_any _ _ _ (X0) _ (by omega) s0).mono ?_
    rintro e wa10 ⟨ca10, rfl, hn10⟩
    replace s0 := s0.below hn10.below (Nat.le_refl _)
    replace s1 := s1.below hn10.below (Nat.le_refl _)
    have B10 := B9.trans (hn10.below.mono B9.size)
    clear B9
    have t10 := hn10.seg
    clear hn10
    go_wp2_with fail
    refine (twin_any _ _ _ (X1) _ (by omega) s1).mono ?_
    rintro e wa11 ⟨ca11, rfl, hn11⟩
    replace s0 := s0.below hn11.below (Nat.le_refl _)
    replace s1 := s1.below hn11.below (Nat.le_refl _)
    replace t10 := t10.below hn11.below (Nat.le_refl _)
    have B11 := B10.trans (hn11.below.mono B10.size)
    clear B10
    have t11 := hn11.seg
    clear hn11
    go_wp2_with fail
    refine (Sub_any _ _ _ _ X0 _ _ X1 _ (by omega) (by omega) t10 (by omega) (by omega) t11 HL.out).mono ?_
    rintro e wa12 ⟨ca12, rfl, hn12⟩
    replace s0 := s0.below hn12.below (Nat.le_refl _)
    replace s1 := s1.below hn12.below (Nat.le_refl _)
    replace t10 := t10.below hn12.below (Nat.le_refl _)
    replace t11 := t11.below hn12.below (Nat.le_refl _)
    have B12 := B11.trans (hn12.below.mono B11.size)
    clear B11
    have t12 := hn12.seg
    clear hn12
    clear t10
    clear t11
    go_wp2_with fail
    refine (rSub_any _ _ _ _ X0 _ _ X1 _ (by omega) s0 (by omega) s1 HL.out).mono ?_
    rintro e wa13 ⟨ca13, rfl, hn13⟩
    replace s0 := s0.below hn13.below (Nat.le_refl _)
    replace s1 := s1.below hn13.below (Nat.le_refl _)
    replace t12 := t12.below hn13.below (Nat.le_refl _)
    have B13 := B12.trans (hn13.below.mono B12.size)
    clear B12
    have t13 := hn13.seg
    clear hn13
    go_wp2_with fail
    refine (same_any _ _ _ _ (X0 - X1) _ _ (X0 - X1) _ (by omega) (by omega) t12 t13).mono ?_
    rintro e wa14 ⟨rfl, hd14⟩
    replace s0 := s0.dr hd14
    replace s1 := s1.dr hd14
    replace t12 := t12.dr hd14
    replace t13 := t13.dr hd14
    have B14 := B13.trans (hd14.below _)
    clear B13 hd14
    clear t12
    clear t13
    go_wp2_with fail
    refine (twin_any _ _ _ (X0) _ (by omega) s0).mono ?_
    rintro e wa15 ⟨ca15, rfl, hn15⟩
    replace s0 := s0.below hn15.below (Nat.le_refl _)
    replace s1 := s1.below hn15.below (Nat.le_refl _)
    have B15 := B14.trans (hn15.below.mono B14.size)
    clear B14
    have t15 := hn15.seg
    clear hn15
    go_wp2_with fail
    have hn16 := single_new wa15 1 27 1 (by omega) rfl
    replace s0 := s0.below hn16.below (Nat.le_refl _)
    replace s1 := s1.below hn16.below (Nat.le_refl _)
    replace t15 := t15.below hn16.below (Nat.le_refl _)
    have B16 := B15.trans (hn16.below.mono B15.size)
    clear B15
    have t16 := hn16.seg
    clear hn16
    go_wp2_with fail
    refine (Add_any _ _ _ _ (X0) _ _ (1) _ (by omega) (by omega) t15 (by omega) (by omega) t16).mono ?_
    rintro e wa17 ⟨ca17, rfl, hn17⟩
    replace s0 := s0.below hn17.below (Nat.le_refl _)
    replace s1 := s1.below hn17.below (Nat.le_refl _)
    replace t15 := t15.below hn17.below (Nat.le_refl _)
    replace t16 := t16.below hn17.below (Nat.le_refl _)
    have B17 := B16.trans (hn17.below.mono B16.size)
    clear B16
    have t17 := hn17.seg
    clear hn17
    clear t15
    clear t16
    go_wp2_with fail
    refine (twin_any _ _ _ (X0) _ (by omega) s0).mono ?_
    rintro e wa18 ⟨ca18, rfl, hn18⟩
    replace s0 := s0.below hn18.below (Nat.le_refl _)
    replace s1 := s1.below hn18.below (Nat.le_refl _)
    replace t17 := t17.below hn18.below (Nat.le_refl _)
    have B18 := B17.trans (hn18.below.mono B17.size)
    clear B17
    have t18 := hn18.seg
    clear hn18
    go_wp2_with fail
    refine (Sub_is _ _ _ _ (X0 + 1) _ _ X0 1 _ (by omega) (by omega) t17 (by omega) (by omega) t18 (by omega)).mono ?_
    rintro e wa19 ⟨ca19, rfl, hn19⟩
    replace s0 := s0.below hn19.below (Nat.le_refl _)
    replace s1 := s1.below hn19.below (Nat.le_refl _)
    replace t17 := t17.below hn19.below (Nat.le_refl _)
    replace t18 := t18.below hn19.below (Nat.le_refl _)
    have B19 := B18.trans (hn19.below.mono B18.size)
    clear B18
    have t19 := hn19.seg
    clear hn19
    clear t17
    clear t18
    go_wp2_with fail
    have hn20 := single_new wa19 1 27 1 (by omega) rfl
    replace s0 := s0.below hn20.below (Nat.le_refl _)
    replace s1 := s1.below hn20.below (Nat.le_refl _)
    replace t19 := t19.below hn20.below (Nat.le_refl _)
    have B20 := B19.trans (hn20.below.mono B19.size)
    clear B19
    have t20 := hn20.seg
    clear hn20
    go_wp2_with fail
    refine (same_any _ _ _ _ (1) _ _ (1) _ (by omega) (by omega) t19 t20).mono ?_
    rintro e wa21 ⟨rfl, hd21⟩
    replace s0 := s0.dr hd21
    replace s1 := s1.dr hd21
    replace t19 := t19.dr hd21
    replace t20 := t20.dr hd21
    have B21 := B20.trans (hd21.below _)
    clear B20 hd21
    go_wp2
    go_ret
    exact ⟨rfl, B21⟩
  · have HL : Hid (X0 < X1) := Nat.lt_of_not_le hle
    have hz := sameB_self 0 0
    clear hle
    go_enter Try.func5, Try.ntmps5
    have B0 : Below w.heap.size w w := Below.refl _ _
    have s0 := hS0
    have s1 := hS1
    go_wp2_with fail
    refine (twin_any _ _ _ (X0) _ (by omega) s0).mono ?_
    rintro e wa1 ⟨ca1, rfl, hn1⟩
    replace s0 := s0.below hn1.below (Nat.le_refl _)
    replace s1 := s1.below hn1.below (Nat.le_refl _)
    have B1 := B0.trans (hn1.below.mono B0.size)
    clear B0
    have t1 := hn1.seg
    clear hn1
    go_wp2_with fail
    refine (twin_any _ _ _ (X1) _ (by omega) s1).mono ?_
    rintro e wa2 ⟨ca2, rfl, hn2⟩
    replace s0 := s0.below hn2.below (Nat.le_refl _)
    replace s1 := s1.below hn2.below (Nat.le_refl _)
    replace t1 := t1.below hn2.below (Nat.le_refl _)
    have B2 := B1.trans (hn2.below.mono B1.size)
    clear B1
    have t2 := hn2.seg
    clear hn2
    go_wp2_with fail
    refine (Cmp_any _ _ _ _ X0 _ _ X1 _ (by omega) (by omega) t1 (by omega) (by omega) t2).mono ?_
    rintro e wa3 ⟨rfl, hd3⟩
    replace s0 := s0.dr hd3
    replace s1 := s1.dr hd3
    replace t1 := t1.dr hd3
    replace t2 := t2.dr hd3
    have B3 := B2.trans (hd3.below _)
    clear B2 hd3
    clear t1
    clear t2
    go_wp2_with fail
    refine (rCmp_any _ _ _ _ X0 _ _ X1 _ (by omega) s0 (by omega) s1).mono ?_
    rintro e wa4 ⟨rfl, rfl⟩
    go_wp2_with fail
    refine (twin_any _ _ _ (X0) _ (by omega) s0).mono ?_
    rintro e wa5 ⟨ca5, rfl, hn5⟩
    replace s0 := s0.below hn5.below (Nat.le_refl _)
    replace s1 := s1.below hn5.below (Nat.le_refl _)
    have B5 := B3.trans (hn5.below.mono B3.size)
    clear B3
    have t5 := hn5.seg
    clear hn5
    go_wp2_with fail
    refine (twin_any _ _ _ (X1) _ (by omega) s1).mono ?_
    rintro e wa6 ⟨ca6, rfl, hn6⟩
    replace s0 := s0.below hn6.below (Nat.le_refl _)
    replace s1 := s1.below hn6.below (Nat.le_refl _)
    replace t5 := t5.below hn6.below (Nat.le_refl _)
    have B6 := B5.trans (hn6.below.mono B5.size)
    clear B5
    have t6 := hn6.seg
    clear hn6
    go_wp2_with fail
    refine (Add_any _ _ _ _ (X0) _ _ (X1) _ (by omega) (by omega) t5 (by omega) (by omega) t6).mono ?_
    rintro e wa7 ⟨ca7, rfl, hn7⟩
    replace s0 := s0.below hn7.below (Nat.le_refl _)
    replace s1 := s1.below hn7.below (Nat.le_refl _)
    replace t5 := t5.below hn7.below (Nat.le_refl _)
    replace t6 := t6.below hn7.below (Nat.le_refl _)
    have B7 := B6.trans (hn7.below.mono B6.size)
    clear B6
    have t7 := hn7.seg
    clear hn7
    clear t5
    clear t6
    go_wp2_with fail
    refine (rAdd_any _ _ _ _ (X0) _ _ (X1) _ (by omega) s0 (by omega) s1).mono ?_
    rintro e wa8 ⟨ca8, rfl, hn8⟩
    replace s0 := s0.below hn8.below (Nat.le_refl _)
    replace s1 := s1.below hn8.below (Nat.le_refl _)
    replace t7 := t7.below hn8.below (Nat.le_refl _)
    have B8 := B7.trans (hn8.below.mono B7.size)
    clear B7
    have t8 := hn8.seg
    clear hn8
    go_wp2_with fail
    refine (same_any _ _ _ _ (X0 + X1) _ _ (X0 + X1) _ (by omega) (by omega) t7 t8).mono ?_
    rintro e wa9 ⟨rfl, hd9⟩
    replace s0 := s0.dr hd9
    replace s1 := s1.dr hd9
    replace t7 := t7.dr hd9
    replace t8 := t8.dr hd9
    have B9 := B8.trans (hd9.below _)
    clear B8 hd9
    clear t7
    clear t8
    go_wp2_with fail
    refine (twin_any _ _ _ (X0) _ (by omega) s0).mono ?_
    rintro e wa10 ⟨ca10, rfl, hn10⟩
    replace s0 := s0.below hn10.below (Nat.le_refl _)
    replace s1 := s1.below hn10.below (Nat.le_refl _)
    have B10 := B9.trans (hn10.below.mono B9.size)
    clear B9
    have t10 := hn10.seg
    clear hn10
    go_wp2_with fail
    refine (twin_any _ _ _ (X1) _ (by omega) s1).mono ?_
    rintro e wa11 ⟨ca11, rfl, hn11⟩
    replace s0 := s0.below hn11.below (Nat.le_refl _)
    replace s1 := s1.below hn11.below (Nat.le_refl _)
    replace t10 := t10.below hn11.below (Nat.le_refl _)
    have B11 := B10.trans (hn11.below.mono B10.size)
    clear B10
    have t11 := hn11.seg
    clear hn11
    go_wp2_with fail
    refine (Sub_below _ _ _ _ X0 _ _ X1 _ (by omega) (by omega) t10 (by omega) (by omega) t11 HL.out).mono ?_
    rintro e wa12 ⟨rfl, hd12⟩
    replace s0 := s0.dr hd12
    replace s1 := s1.dr hd12
    replace t10 := t10.dr hd12
    replace t11 := t11.dr hd12
    have B12 := B11.trans (hd12.below _)
    clear B11 hd12
    clear t10
    clear t11
    go_wp2_with fail
    refine (rSub_below _ _ _ _ X0 _ _ X1 _ (by omega) s0 (by omega) s1 HL.out).mono ?_
    rintro e wa13 ⟨rfl, rfl⟩
    go_wp2_with fail
    refine (same_any _ _ _ _ 0 _ _ 0 _ (by omega) (by omega) (Seg.nil _ _) (Seg.nil _ _)).mono ?_
    rintro e wa14 ⟨rfl, hd14⟩
    replace s0 := s0.dr hd14
    replace s1 := s1.dr hd14
    have B14 := B12.trans (hd14.below _)
    clear B12 hd14
    go_wp2_with fail
    refine (twin_any _ _ _ (X0) _ (by omega) s0).mono ?_
    rintro e wa15 ⟨ca15, rfl, hn15⟩
    replace s0 := s0.below hn15.below (Nat.le_refl _)
    replace s1 := s1.below hn15.below (Nat.le_refl _)
    have B15 := B14.trans (hn15.below.mono B14.size)
    clear B14
    have t15 := hn15.seg
    clear hn15
    go_wp2_with fail
    have hn16 := single_new wa15 1 27 1 (by omega) rfl
    replace s0 := s0.below hn16.below (Nat.le_refl _)
    replace s1 := s1.below hn16.below (Nat.le_refl _)
    replace t15 := t15.below hn16.below (Nat.le_refl _)
    have B16 := B15.trans (hn16.below.mono B15.size)
    clear B15
    have t16 := hn16.seg
    clear hn16
    go_wp2_with fail
    refine (Add_any _ _ _ _ (X0) _ _ (1) _ (by omega) (by omega) t15 (by omega) (by omega) t16).mono ?_
    rintro e wa17 ⟨ca17, rfl, hn17⟩
    replace s0 := s0.below hn17.below (Nat.le_refl _)
    replace s1 := s1.below hn17.below (Nat.le_refl _)
    replace t15 := t15.below hn17.below (Nat.le_refl _)
    replace t16 := t16.below hn17.below (Nat.le_refl _)
    have B17 := B16.trans (hn17.below.mono B16.size)
    clear B16
    have t17 := hn17.seg
    clear hn17
    clear t15
    clear t16
    go_wp2_with fail
    refine (twin_any _ _ _ (X0) _ (by omega) s0).mono ?_
    rintro e wa18 ⟨ca18, rfl, hn18⟩
    replace s0 := s0.below hn18.below (Nat.le_refl _)
    replace s1 := s1.below hn18.below (Nat.le_refl _)
    replace t17 := t17.below hn18.below (Nat.le_refl _)
    have B18 := B17.trans (hn18.below.mono B17.size)
    clear B17
    have t18 := hn18.seg
    clear hn18
    go_wp2_with fail
    refine (Sub_is _ _ _ _ (X0 + 1) _ _ X0 1 _ (by omega) (by omega) t17 (by omega) (by omega) t18 (by omega)).mono ?_
    rintro e wa19 ⟨ca19, rfl, hn19⟩
    replace s0 := s0.below hn19.below (Nat.le_refl _)
    replace s1 := s1.below hn19.below (Nat.le_refl _)
    replace t17 := t17.below hn19.below (Nat.le_refl _)
    replace t18 := t18.below hn19.below (Nat.le_refl _)
    have B19 := B18.trans (hn19.below.mono B18.size)
    clear B18
    have t19 := hn19.seg
    clear hn19
    clear t17
    clear t18
    go_wp2_with fail
    have hn20 := single_new wa19 1 27 1 (by omega) rfl
    replace s0 := s0.below hn20.below (Nat.le_refl _)
    replace s1 := s1.below hn20.below (Nat.le_refl _)
    replace t19 := t19.below hn20.below (Nat.le_refl _)
    have B20 := B19.trans (hn20.below.mono B19.size)
    clear B19
    have t20 := hn20.seg
    clear hn20
    go_wp2_with fail
    refine (same_any _ _ _ _ (1) _ _ (1) _ (by omega) (by omega) t19 t20).mono ?_
    rintro e wa21 ⟨rfl, hd21⟩
    replace s0 := s0.dr hd21
    replace s1 := s1.dr hd21
    replace t19 := t19.dr hd21
    replace t20 := t20.dr hd21
    have B21 := B20.trans (hd21.below _)
    clear B20 hd21
    go_wp2
    go_ret
    exact ⟨rfl, B21⟩

theorem contract (H : Type) (enc : TypeId × Value → H) (W : World) (base : Nat) (args : Array Value) (ds gs : List (DataW H)) (before : List MemPlace)
    (hval : ∀ (j : Nat) t v, Try.f5.params[j]? = some t → args[j]? = some v → Value.okWide Try.prog W .any base t v)
    (hW : DataW.Whole enc Try.prog Try.f5.params.toList Rows.natSumsSpec.vars false W args.toList ds gs before)
    (hsz : (DataW.weightsEach Try.prog (Try.f5.params.toList ++ Rows.natSumsSpec.plain.varTypes Try.prog) (ds ++ gs)).all (· ≤ reachBytes) = true) :
    Calls Try.prog 5 args W fun e W' => ∃ v, e = .returned v ∧ Rows.natSumsSpec.post enc Try.prog Try.f5 false true false false W args v W' := by
  have hW' := hW
  obtain ⟨p, q, hA0, hV, rfl, hfz, hnd⟩ := hW
  have hA : DataW.TrodAll enc Try.prog W 0 (fun _ => true) true Try.f5.params.toList args.toList ds p := hA0
  rw [Try.params5] at hA hval hsz
  obtain ⟨v0, vs0, d0, ds0, p0, q0, hargs, rfl, rfl, h0, r0⟩ := trodAll_cons hA
  obtain ⟨v1, vs1, d1, ds1, p1, q1, rfl, rfl, rfl, h1, r1⟩ := trodAll_cons r0
  obtain ⟨rfl, rfl, rfl⟩ := trodAll_nil r1
  obtain rfl : args = #[v0, v1] := by cases args; simp_all
  obtain ⟨rfl, rfl⟩ := trodVars_none hV
  obtain ⟨a0, len0, cap0, rfl⟩ := okWide_slice Try.underlying23 (hval 0 23 v0 rfl rfl)
  have lt0 : ∀ x ∈ p0, x.block < W.heap.size := by obtain ⟨m, hm⟩ := h0; exact DataW.trod_lt m _ _ _ hm
  obtain ⟨X0, hS0, hc0, hb0, hu0⟩ := open_nat Try.underlying23 h0 (fun elems spare h => sized_slice hsz (j := 0) (t := 23) (e := 27) rfl (by rw [h]; rfl) Try.underlying23)
  obtain ⟨a1, len1, cap1, rfl⟩ := okWide_slice Try.underlying23 (hval 1 23 v1 rfl rfl)
  have lt1 : ∀ x ∈ p1, x.block < W.heap.size := by obtain ⟨m, hm⟩ := h1; exact DataW.trod_lt m _ _ _ hm
  obtain ⟨X1, hS1, hc1, hb1, hu1⟩ := open_nat Try.underlying23 h1 (fun elems spare h => sized_slice hsz (j := 1) (t := 23) (e := 27) rfl (by rw [h]; rfl) Try.underlying23)
  clear hA0
  simp only [List.append_nil] at hW'
  refine (walk a0 len0 cap0 X0 a1 len1 cap1 X1 W hS0 hc0 hb0 hS1 hc1 hb1).mono fun e W' ⟨he, bel⟩ => ?_
  subst he
  exact ⟨_, rfl, _, _, _, [], _, [], hW', trodAll_mk1 (shut_bool Try.underlying4 _), (trodAll_cons_mk (Below.trod laidOut (by kernel_rfl) (of_decide_eq_true (by kernel_rfl)) h0 bel lt0) (trodAll_cons_mk (Below.trod laidOut (by kernel_rfl) (of_decide_eq_true (by kernel_rfl)) h1 bel lt1) trodAll_mk0)), rfl, bel.frame _, fun h => by cases h⟩

set_option maxRecDepth 100000 in
theorem lifted (os : Os) (started : os.Started) (H : Type) (enc : TypeId × Value → H) :
    ReturnsInHanded {} Try.checked os 5 .any (Rows.natSumsSpec.pre6 enc Try.prog Try.f5 Rows.natSumsRow.domain false) (Rows.natSumsSpec.post enc Try.prog Try.f5 false true false false) := by
  refine returnsInHanded_of_change_sized (C := Try.checked) own started (by kernel_rfl) Try.func5
    (ChangeSpec.witness6 (enc := enc) (C := Try.checked) false ⟨#[], #[.slice none 0 0, .slice none 0 0], []⟩ 8 (by kernel_rfl) (by kernel_rfl) (by kernel_rfl) (by kernel_rfl)) ?_
  intro W base args ds gs before hval hW _ hsz _
  exact contract H enc W base args ds gs before hval hW hsz

theorem over : Rows.natSumsRow.holds Try.pinned (OpenSpec.ofChange Rows.natSumsSpec) :=
  OpenClaim.holds_of_wide 5 Try.f5 rfl rfl rfl rfl rfl rfl rfl ⟨rfl, rfl, rfl, rfl, rfl⟩ rfl rfl rfl rfl rfl (by kernel_rfl) Try.func5 (by kernel_rfl)
    (of_decide_eq_true (by kernel_rfl)) (by unfold Func.isWrapper; first | (rw [if_pos (by decide +kernel)]; kernel_rfl) | (rw [if_neg (by decide +kernel)]; exact ⟨rfl, rfl⟩))
    (fun os started H enc _ => lifted os started H enc)

end Go.Proofs.Ytkbjfdfooompbaa.natSums
namespace Go.Proofs.Ytkbjfdfooompbaa
theorem natSums_holds : Rows.NatSumsSaid := natSums.over
#print axioms natSums_holds
end Go.Proofs.Ytkbjfdfooompbaa
