/-
  NatRing: sums and products as a semiring has them.
-/
import Derived.Test.YtkbjfdfooompbabW8
import Derived.Test.YtkbjfdfooompbabW4
import Derived.Test.YtkbjfdfooompbabOpen
namespace Go.Proofs.Ytkbjfdfooompbab.natRing
open Go.ChangeShapes Go.WideShapes Go.ChangeAt Go.RowKit Go.Proofs.Ytkbjfdfooompbab
set_option linter.unusedVariables false

theorem ln_small {X : Nat} (h0 : X ≠ 0) (h : X < 4294967296) : ln X = 1 := ln_of_top (by rw [Nat.pow_one, BB_eq]; exact h) (by rw [dg0, Nat.mod_eq_of_lt h]; exact h0)

set_option maxHeartbeats 4000000 in
theorem walk (a0 : Option Addr) (len0 cap0 X0 : Nat) (a1 : Option Addr) (len1 cap1 X1 : Nat) (a2 : Option Addr) (len2 cap2 X2 : Nat) (w : World) (hS0 : Seg w a0 X0 len0) (hc : len0 ≤ cap0) (hb : len0 ≤ 1048576) (hS1 : Seg w a1 X1 len1) (hc1 : len1 ≤ cap1) (hb1 : len1 ≤ 1048576) (hS2 : Seg w a2 X2 len2) (hc2 : len2 ≤ cap2) (hb2 : len2 ≤ 1048576) :
    Calls Try.prog 4 #[.slice a0 len0 cap0, .slice a1 len1 cap1, .slice a2 len2 cap2] w fun e w' => e = .returned (.bool true) ∧ Below w.heap.size w w' := by
  obtain ⟨Zab, hzab⟩ : ∃ Z, X0 + X1 = Z := ⟨_, rfl⟩
  obtain ⟨Zbc, hzbc⟩ : ∃ Z, X1 + X2 = Z := ⟨_, rfl⟩
  obtain ⟨Zabc, hzabc⟩ : ∃ Z, Zab + X2 = Z := ⟨_, rfl⟩
  obtain ⟨Mab, hmab⟩ : ∃ Z, X0 * X1 = Z := ⟨_, rfl⟩
  obtain ⟨Mbc, hmbc⟩ : ∃ Z, X1 * X2 = Z := ⟨_, rfl⟩
  obtain ⟨Mac, hmac⟩ : ∃ Z, X0 * X2 = Z := ⟨_, rfl⟩
  obtain ⟨Mabc, hmabc⟩ : ∃ Z, Mab * X2 = Z := ⟨_, rfl⟩
  obtain ⟨Ms, hms⟩ : ∃ Z, Zab * X2 = Z := ⟨_, rfl⟩
  have E1 : Hid (X0 + X1 = Zab) := hzab
  have E2 : Hid (X1 + X0 = Zab) := by rw [Nat.add_comm]; exact hzab
  have E3 : Hid (Zab + X2 = Zabc) := hzabc
  have E4 : Hid (X1 + X2 = Zbc) := hzbc
  have E5 : Hid (X0 + Zbc = Zabc) := by show _ = _; rw [← hzbc, ← hzabc, ← hzab, Nat.add_assoc]
  have E6 : Hid (X0 * X1 = Mab) := hmab
  have E7 : Hid (X1 * X0 = Mab) := by show _ = _; rw [Nat.mul_comm]; exact hmab
  have E8 : Hid (Mab * X2 = Mabc) := hmabc
  have E9 : Hid (X1 * X2 = Mbc) := hmbc
  have E10 : Hid (X0 * Mbc = Mabc) := by show _ = _; rw [← hmbc, ← hmabc, ← hmab, Nat.mul_assoc]
  have E11 : Hid (Zab * X2 = Ms) := hms
  have E12 : Hid (X0 * X2 = Mac) := hmac
  have E13 : Hid (Mac + Mbc = Ms) := by show _ = _; rw [← hmac, ← hmbc, ← hms, ← hzab, Nat.add_mul]
  have E14 : Hid (X0 * 1 = X0) := Nat.mul_one X0
  have lX0 : ln X0 ≤ 1048576 := by have := ln_le_of_lt hS0.1; omega
  have lX1 : ln X1 ≤ 1048576 := by have := ln_le_of_lt hS1.1; omega
  have lZab : ln Zab ≤ 2000000 := by rw [← hzab]; exact ln_sum hS0.1 hS1.1 (by omega) (by omega)
  have lZbc : ln Zbc ≤ 2000000 := by rw [← hzbc]; exact ln_sum hS1.1 hS2.1 (by omega) (by omega)
  have lZabc : ln Zabc ≤ 3000000 := by rw [← hzabc]; exact ln_sum (ln_lt Zab) hS2.1 (by omega) (by omega)
  have lMab : ln Mab ≤ 2097152 := by have := ln_prod hS0.1 hS1.1; rw [hmab] at this; omega
  have lMbc : ln Mbc ≤ 2097152 := by have := ln_prod hS1.1 hS2.1; rw [hmbc] at this; omega
  have lMac : ln Mac ≤ 2097152 := by have := ln_prod hS0.1 hS2.1; rw [hmac] at this; omega
  have lMabc : ln Mabc ≤ 4000000 := by have := ln_prod (ln_lt Mab) hS2.1; rw [hmabc] at this; omega
  have lMs : ln Ms ≤ 4000000 := by have := ln_prod (ln_lt Zab) hS2.1; rw [hms] at this; omega
  have l5 : ln 5 ≤ 1 := by rw [ln_small (by omega) (by omega)]; omega
  have l20 : ln 20 ≤ 1 := by rw [ln_small (by omega) (by omega)]; omega
  have q20 : sameB (ln 20) 1 20 20 = true := by rw [ln_small (by omega) (by omega)]; exact sameB_self _ _
  have qZab := sameB_self (ln Zab) Zab
  have qZabc := sameB_self (ln Zabc) Zabc
  have qMab := sameB_self (ln Mab) Mab
  have qMabc := sameB_self (ln Mabc) Mabc
  have qMs := sameB_self (ln Ms) Ms
  have qX0 := sameB_self (ln X0) X0
  clear hzab hzbc hzabc hmab hmbc hmac hmabc hms
  go_enter Try.func4, Try.ntmps4
  have B0 : Below w.heap.size w w := Below.refl _ _
  have s0 := hS0
  have s1 := hS1
  have s2 := hS2
  go_wp2_with fail
  have hn1 := single_new w 2 29 2 (by omega) rfl
  replace s0 := s0.below hn1.below (Nat.le_refl _)
  replace s1 := s1.below hn1.below (Nat.le_refl _)
  replace s2 := s2.below hn1.below (Nat.le_refl _)
  have B1 := B0.trans (hn1.below.mono B0.size)
  clear B0
  have t1 := hn1.seg
  clear hn1
  go_wp2_with fail
  have hn2 := single_new (w.alloc (.cells #[.int .u32 2] 29)) 3 29 3 (by omega) rfl
  replace s0 := s0.below hn2.below (Nat.le_refl _)
  replace s1 := s1.below hn2.below (Nat.le_refl _)
  replace s2 := s2.below hn2.below (Nat.le_refl _)
  replace t1 := t1.below hn2.below (Nat.le_refl _)
  have B2 := B1.trans (hn2.below.mono B1.size)
  clear B1
  have t2 := hn2.seg
  clear hn2
  rw [World.size_alloc] at t2
  go_wp2_with fail
  refine (Add_is _ _ _ _ (2) _ _ (3) (5) _ (by omega) (by omega) t1 (by omega) (by omega) t2 rfl).mono ?_
  rintro e wa3 ⟨ca3, rfl, hn3⟩
  replace s0 := s0.below hn3.below (Nat.le_refl _)
  replace s1 := s1.below hn3.below (Nat.le_refl _)
  replace s2 := s2.below hn3.below (Nat.le_refl _)
  replace t1 := t1.below hn3.below (Nat.le_refl _)
  replace t2 := t2.below hn3.below (Nat.le_refl _)
  have B3 := B2.trans (hn3.below.mono B2.size)
  clear B2
  have t3 := hn3.seg
  clear hn3
  go_wp2_with fail
  have hn4 := single_new wa3 4 29 4 (by omega) rfl
  replace s0 := s0.below hn4.below (Nat.le_refl _)
  replace s1 := s1.below hn4.below (Nat.le_refl _)
  replace s2 := s2.below hn4.below (Nat.le_refl _)
  replace t1 := t1.below hn4.below (Nat.le_refl _)
  replace t2 := t2.below hn4.below (Nat.le_refl _)
  replace t3 := t3.below hn4.below (Nat.le_refl _)
  have B4 := B3.trans (hn4.below.mono B3.size)
  clear B3
  have t4 := hn4.seg
  clear hn4
  go_wp2_with fail
  refine (Mul_is _ _ _ _ (5) _ _ (4) (20) _ (by omega) (by omega) t3 (by omega) (by omega) t4 rfl).mono ?_
  rintro e wa5 ⟨ca5, rfl, hn5⟩
  replace s0 := s0.below hn5.below (Nat.le_refl _)
  replace s1 := s1.below hn5.below (Nat.le_refl _)
  replace s2 := s2.below hn5.below (Nat.le_refl _)
  replace t1 := t1.below hn5.below (Nat.le_refl _)
  replace t2 := t2.below hn5.below (Nat.le_refl _)
  replace t3 := t3.below hn5.below (Nat.le_refl _)
  replace t4 := t4.below hn5.below (Nat.le_refl _)
  have B5 := B4.trans (hn5.below.mono B4.size)
  clear B4
  have t5 := hn5.seg
  clear hn5
  clear t1
  clear t2
  clear t3
  clear t4
  go_wp2_with fail
  have hn6 := single_new wa5 20 29 20 (by omega) rfl
  replace s0 := s0.below hn6.below (Nat.le_refl _)
  replace s1 := s1.below hn6.below (Nat.le_refl _)
  replace s2 := s2.below hn6.below (Nat.le_refl _)
  replace t5 := t5.below hn6.below (Nat.le_refl _)
  have B6 := B5.trans (hn6.below.mono B5.size)
  clear B5
  have t6 := hn6.seg
  clear hn6
  go_wp2_with fail
  refine (same_any _ _ _ _ (20) _ _ (20) _ (by omega) (by omega) t5 t6).mono ?_
  rintro e wa7 ⟨rfl, hd7⟩
  replace s0 := s0.dr hd7
  replace s1 := s1.dr hd7
  replace s2 := s2.dr hd7
  replace t5 := t5.dr hd7
  replace t6 := t6.dr hd7
  have B7 := B6.trans (hd7.below _)
  clear B6 hd7
  clear t5
  clear t6
  go_wp2_with fail
  refine (twin_any _ _ _ (X0) _ (by omega) s0).mono ?_
  rintro e wa8 ⟨ca8, rfl, hn8⟩
  replace s0 := s0.below hn8.below (Nat.le_refl _)
  replace s1 := s1.below hn8.below (Nat.le_refl _)
  replace s2 := s2.below hn8.below (Nat.le_refl _)
  have B8 := B7.trans (hn8.below.mono B7.size)
  clear B7
  have t8 := hn8.seg
  clear hn8
  go_wp2_with fail
  refine (twin_any _ _ _ (X1) _ (by omega) s1).mono ?_
  rintro e wa9 ⟨ca9, rfl, hn9⟩
  replace s0 := s0.below hn9.below (Nat.le_refl _)
  replace s1 := s1.below hn9.below (Nat.le_refl _)
  replace s2 := s2.below hn9.below (Nat.le_refl _)
  replace t8 := t8.below hn9.below (Nat.le_refl _)
  have B9 := B8.trans (hn9.below.mono B8.size)
  clear B8
  have t9 := hn9.seg
  clear hn9
  go_wp2_with fail
  refine (Add_is _ _ _ _ (X0) _ _ (X1) (Zab) _ (by omega) (by omega) t8 (by omega) (by omega) t9 E1.out).mono ?_
  rintro e wa10 ⟨ca10, rfl, hn10⟩
  replace s0 := s0.below hn10.below (Nat.le_refl _)
  replace s1 := s1.below hn10.below (Nat.le_refl _)
  replace s2 := s2.below hn10.below (Nat.le_refl _)
  replace t8 := t8.below hn10.below (Nat.le_refl _)
  replace t9 := t9.below hn10.below (Nat.le_refl _)
  have B10 := B9.trans (hn10.below.mono B9.size)
  clear B9
  have t10 := hn10.seg
  clear hn10
  clear t8
  clear t9
  go_wp2_with fail
  refine (twin_any _ _ _ (X1) _ (by omega) s1).mono ?_
  rintro e wa11 ⟨ca11, rfl, hn11⟩
  replace s0 := s0.below hn11.below (Nat.le_refl _)
  replace s1 := s1.below hn11.below (Nat.le_refl _)
  replace s2 := s2.below hn11.below (Nat.le_refl _)
  replace t10 := t10.below hn11.below (Nat.le_refl _)
  have B11 := B10.trans (hn11.below.mono B10.size)
  clear B10
  have t11 := hn11.seg
  clear hn11
  go_wp2_with fail
  refine (twin_any _ _ _ (X0) _ (by omega) s0).mono ?_
  rintro e wa12 ⟨ca12, rfl, hn12⟩
  replace s0 := s0.below hn12.below (Nat.le_refl _)
  replace s1 := s1.below hn12.below (Nat.le_refl _)
  replace s2 := s2.below hn12.below (Nat.le_refl _)
  replace t10 := t10.below hn12.below (Nat.le_refl _)
  replace t11 := t11.below hn12.below (Nat.le_refl _)
  have B12 := B11.trans (hn12.below.mono B11.size)
  clear B11
  have t12 := hn12.seg
  clear hn12
  go_wp2_with fail
  refine (Add_is _ _ _ _ (X1) _ _ (X0) (Zab) _ (by omega) (by omega) t11 (by omega) (by omega) t12 E2.out).mono ?_
  rintro e wa13 ⟨ca13, rfl, hn13⟩
  replace s0 := s0.below hn13.below (Nat.le_refl _)
  replace s1 := s1.below hn13.below (Nat.le_refl _)
  replace s2 := s2.below hn13.below (Nat.le_refl _)
  replace t10 := t10.below hn13.below (Nat.le_refl _)
  replace t11 := t11.below hn13.below (Nat.le_refl _)
  replace t12 := t12.below hn13.below (Nat.le_refl _)
  have B13 := B12.trans (hn13.below.mono B12.size)
  clear B12
  have t13 := hn13.seg
  clear hn13
  clear t11
  clear t12
  go_wp2_with fail
  refine (same_any _ _ _ _ (Zab) _ _ (Zab) _ (by omega) (by omega) t10 t13).mono ?_
  rintro e wa14 ⟨rfl, hd14⟩
  replace s0 := s0.dr hd14
  replace s1 := s1.dr hd14
  replace s2 := s2.dr hd14
  replace t10 := t10.dr hd14
  replace t13 := t13.dr hd14
  have B14 := B13.trans (hd14.below _)
  clear B13 hd14
  clear t13
  go_wp2_with fail
  refine (twin_any _ _ _ (X2) _ (by omega) s2).mono ?_
  rintro e wa15 ⟨ca15, rfl, hn15⟩
  replace s0 := s0.below hn15.below (Nat.le_refl _)
  replace s1 := s1.below hn15.below (Nat.le_refl _)
  replace s2 := s2.below hn15.below (Nat.le_refl _)
  replace t10 := t10.below hn15.below (Nat.le_refl _)
  have B15 := B14.trans (hn15.below.mono B14.size)
  clear B14
  have t15 := hn15.seg
  clear hn15
  go_wp2_with fail
  refine (Add_is _ _ _ _ (Zab) _ _ (X2) (Zabc) _ (by omega) (by omega) t10 (by omega) (by omega) t15 E3.out).mono ?_
  rintro e wa16 ⟨ca16, rfl, hn16⟩
  replace s0 := s0.below hn16.below (Nat.le_refl _)
  replace s1 := s1.below hn16.below (Nat.le_refl _)
  replace s2 := s2.below hn16.below (Nat.le_refl _)
  replace t10 := t10.below hn16.below (Nat.le_refl _)
  replace t15 := t15.below hn16.below (Nat.le_refl _)
  have B16 := B15.trans (hn16.below.mono B15.size)
  clear B15
  have t16 := hn16.seg
  clear hn16
  clear t15
  go_wp2_with fail
  refine (twin_any _ _ _ (X0) _ (by omega) s0).mono ?_
  rintro e wa17 ⟨ca17, rfl, hn17⟩
  replace s0 := s0.below hn17.below (Nat.le_refl _)
  replace s1 := s1.below hn17.below (Nat.le_refl _)
  replace s2 := s2.below hn17.below (Nat.le_refl _)
  replace t10 := t10.below hn17.below (Nat.le_refl _)
  replace t16 := t16.below hn17.below (Nat.le_refl _)
  have B17 := B16.trans (hn17.below.mono B16.size)
  clear B16
  have t17 := hn17.seg
  clear hn17
  go_wp2_with fail
  refine (twin_any _ _ _ (X1) _ (by omega) s1).mono ?_
  rintro e wa18 ⟨ca18, rfl, hn18⟩
  replace s0 := s0.below hn18.below (Nat.le_refl _)
  replace s1 := s1.below hn18.below (Nat.le_refl _)
  replace s2 := s2.below hn18.below (Nat.le_refl _)
  replace t10 := t10.below hn18.below (Nat.le_refl _)
  replace t16 := t16.below hn18.below (Nat.le_refl _)
  replace t17 := t17.below hn18.below (Nat.le_refl _)
  have B18 := B17.trans (hn18.below.mono B17.size)
  clear B17
  have t18 := hn18.seg
  clear hn18
  go_wp2_with fail
  refine (twin_any _ _ _ (X2) _ (by omega) s2).mono ?_
  rintro e wa19 ⟨ca19, rfl, hn19⟩
  replace s0 := s0.below hn19.below (Nat.le_refl _)
  replace s1 := s1.below hn19.below (Nat.le_refl _)
  replace s2 := s2.below hn19.below (Nat.le_refl _)
  replace t10 := t10.below hn19.below (Nat.le_refl _)
  replace t16 := t16.below hn19.below (Nat.le_refl _)
  replace t17 := t17.below hn19.below (Nat.le_refl _)
  replace t18 := t18.below hn19.below (Nat.le_refl _)
  have B19 := B18.trans (hn19.below.mono B18.size)
  clear B18
  have t19 := hn19.seg
  clear hn19
  go_wp2_with fail
  refine (Add_is _ _ _ _ (X1) _ _ (X2) (Zbc) _ (by omega) (by omega) t18 (by omega) (by omega) t19 E4.out).mono ?_
  rintro e wa20 ⟨ca20, rfl, hn20⟩
  replace s0 := s0.below hn20.below (Nat.le_refl _)
  replace s1 := s1.below hn20.below (Nat.le_refl _)
  replace s2 := s2.below hn20.below (Nat.le_refl _)
  replace t10 := t10.below hn20.below (Nat.le_refl _)
  replace t16 := t16.below hn20.below (Nat.le_refl _)
  replace t17 := t17.below hn20.below (Nat.le_refl _)
  replace t18 := t18.below hn20.below (Nat.le_refl _)
  replace t19 := t19.below hn20.below (Nat.le_refl _)
  have B20 := B19.trans (hn20.below.mono B19.size)
  clear B19
  have t20 := hn20.seg
  clear hn20
  clear t18
  clear t19
  go_wp2_with fail
  refine (Add_is _ _ _ _ (X0) _ _ (Zbc) (Zabc) _ (by omega) (by omega) t17 (by omega) (by omega) t20 E5.out).mono ?_
  rintro e wa21 ⟨ca21, rfl, hn21⟩
  replace s0 := s0.below hn21.below (Nat.le_refl _)
  replace s1 := s1.below hn21.below (Nat.le_refl _)
  replace s2 := s2.below hn21.below (Nat.le_refl _)
  replace t10 := t10.below hn21.below (Nat.le_refl _)
  replace t16 := t16.below hn21.below (Nat.le_refl _)
  replace t17 := t17.below hn21.below (Nat.le_refl _)
  replace t20 := t20.below hn21.below (Nat.le_refl _)
  have B21 := B20.trans (hn21.below.mono B20.size)
  clear B20
  have t21 := hn21.seg
  clear hn21
  clear t17
  clear t20
  go_wp2_with fail
  refine (same_any _ _ _ _ (Zabc) _ _ (Zabc) _ (by omega) (by omega) t16 t21).mono ?_
  rintro e wa22 ⟨rfl, hd22⟩
  replace s0 := s0.dr hd22
  replace s1 := s1.dr hd22
  replace s2 := s2.dr hd22
  replace t10 := t10.dr hd22
  replace t16 := t16.dr hd22
  replace t21 := t21.dr hd22
  have B22 := B21.trans (hd22.below _)
  clear B21 hd22
  clear t16
  clear t21
  go_wp2_with fail
  refine (twin_any _ _ _ (X0) _ (by omega) s0).mono ?_
  rintro e wa23 ⟨ca23, rfl, hn23⟩
  replace s0 := s0.below hn23.below (Nat.le_refl _)
  replace s1 := s1.below hn23.below (Nat.le_refl _)
  replace s2 := s2.below hn23.below (Nat.le_refl _)
  replace t10 := t10.below hn23.below (Nat.le_refl _)
  have B23 := B22.trans (hn23.below.mono B22.size)
  clear B22
  have t23 := hn23.seg
  clear hn23
  go_wp2_with fail
  refine (twin_any _ _ _ (X1) _ (by omega) s1).mono ?_
  rintro e wa24 ⟨ca24, rfl, hn24⟩
  replace s0 := s0.below hn24.below (Nat.le_refl _)
  replace s1 := s1.below hn24.below (Nat.le_refl _)
  replace s2 := s2.below hn24.below (Nat.le_refl _)
  replace t10 := t10.below hn24.below (Nat.le_refl _)
  replace t23 := t23.below hn24.below (Nat.le_refl _)
  have B24 := B23.trans (hn24.below.mono B23.size)
  clear B23
  have t24 := hn24.seg
  clear hn24
  go_wp2_with fail
  refine (Mul_is _ _ _ _ (X0) _ _ (X1) (Mab) _ (by omega) (by omega) t23 (by omega) (by omega) t24 E6.out).mono ?_
  rintro e wa25 ⟨ca25, rfl, hn25⟩
  replace s0 := s0.below hn25.below (Nat.le_refl _)
  replace s1 := s1.below hn25.below (Nat.le_refl _)
  replace s2 := s2.below hn25.below (Nat.le_refl _)
  replace t10 := t10.below hn25.below (Nat.le_refl _)
  replace t23 := t23.below hn25.below (Nat.le_refl _)
  replace t24 := t24.below hn25.below (Nat.le_refl _)
  have B25 := B24.trans (hn25.below.mono B24.size)
  clear B24
  have t25 := hn25.seg
  clear hn25
  clear t23
  clear t24
  go_wp2_with fail
  refine (twin_any _ _ _ (X1) _ (by omega) s1).mono ?_
  rintro e wa26 ⟨ca26, rfl, hn26⟩
  replace s0 := s0.below hn26.below (Nat.le_refl _)
  replace s1 := s1.below hn26.below (Nat.le_refl _)
  replace s2 := s2.below hn26.below (Nat.le_refl _)
  replace t10 := t10.below hn26.below (Nat.le_refl _)
  replace t25 := t25.below hn26.below (Nat.le_refl _)
  have B26 := B25.trans (hn26.below.mono B25.size)
  clear B25
  have t26 := hn26.seg
  clear hn26
  go_wp2_with fail
  refine (twin_any _ _ _ (X0) _ (by omega) s0).mono ?_
  rintro e wa27 ⟨ca27, rfl, hn27⟩
  replace s0 := s0.below hn27.below (Nat.le_refl _)
  replace s1 := s1.below hn27.below (Nat.le_refl _)
  replace s2 := s2.below hn27.below (Nat.le_refl _)
  replace t10 := t10.below hn27.below (Nat.le_refl _)
  replace t25 := t25.below hn27.below (Nat.le_refl _)
  replace t26 := t26.below hn27.below (Nat.le_refl _)
  have B27 := B26.trans (hn27.below.mono B26.size)
  clear B26
  have t27 := hn27.seg
  clear hn27
  go_wp2_with fail
  refine (Mul_is _ _ _ _ (X1) _ _ (X0) (Mab) _ (by omega) (by omega) t26 (by omega) (by omega) t27 E7.out).mono ?_
  rintro e wa28 ⟨ca28, rfl, hn28⟩
  replace s0 := s0.below hn28.below (Nat.le_refl _)
  replace s1 := s1.below hn28.below (Nat.le_refl _)
  replace s2 := s2.below hn28.below (Nat.le_refl _)
  replace t10 := t10.below hn28.below (Nat.le_refl _)
  replace t25 := t25.below hn28.below (Nat.le_refl _)
  replace t26 := t26.below hn28.below (Nat.le_refl _)
  replace t27 := t27.below hn28.below (Nat.le_refl _)
  have B28 := B27.trans (hn28.below.mono B27.size)
  clear B27
  have t28 := hn28.seg
  clear hn28
  clear t26
  clear t27
  go_wp2_with fail
  refine (same_any _ _ _ _ (Mab) _ _ (Mab) _ (by omega) (by omega) t25 t28).mono ?_
  rintro e wa29 ⟨rfl, hd29⟩
  replace s0 := s0.dr hd29
  replace s1 := s1.dr hd29
  replace s2 := s2.dr hd29
  replace t10 := t10.dr hd29
  replace t25 := t25.dr hd29
  replace t28 := t28.dr hd29
  have B29 := B28.trans (hd29.below _)
  clear B28 hd29
  clear t28
  go_wp2_with fail
  refine (twin_any _ _ _ (X2) _ (by omega) s2).mono ?_
  rintro e wa30 ⟨ca30, rfl, hn30⟩
  replace s0 := s0.below hn30.below (Nat.le_refl _)
  replace s1 := s1.below hn30.below (Nat.le_refl _)
  replace s2 := s2.below hn30.below (Nat.le_refl _)
  replace t10 := t10.below hn30.below (Nat.le_refl _)
  replace t25 := t25.below hn30.below (Nat.le_refl _)
  have B30 := B29.trans (hn30.below.mono B29.size)
  clear B29
  have t30 := hn30.seg
  clear hn30
  go_wp2_with fail
  refine (Mul_is _ _ _ _ (Mab) _ _ (X2) (Mabc) _ (by omega) (by omega) t25 (by omega) (by omega) t30 E8.out).mono ?_
  rintro e wa31 ⟨ca31, rfl, hn31⟩
  replace s0 := s0.below hn31.below (Nat.le_refl _)
  replace s1 := s1.below hn31.below (Nat.le_refl _)
  replace s2 := s2.below hn31.below (Nat.le_refl _)
  replace t10 := t10.below hn31.below (Nat.le_refl _)
  replace t25 := t25.below hn31.below (Nat.le_refl _)
  replace t30 := t30.below hn31.below (Nat.le_refl _)
  have B31 := B30.trans (hn31.below.mono B30.size)
  clear B30
  have t31 := hn31.seg
  clear hn31
  clear t30
  go_wp2_with fail
  refine (twin_any _ _ _ (X0) _ (by omega) s0).mono ?_
  rintro e wa32 ⟨ca32, rfl, hn32⟩
  replace s0 := s0.below hn32.below (Nat.le_refl _)
  replace s1 := s1.below hn32.below (Nat.le_refl _)
  replace s2 := s2.below hn32.below (Nat.le_refl _)
  replace t10 := t10.below hn32.below (Nat.le_refl _)
  replace t25 := t25.below hn32.below (Nat.le_refl _)
  replace t31 := t31.below hn32.below (Nat.le_refl _)
  have B32 := B31.trans (hn32.below.mono B31.size)
  clear B31
  have t32 := hn32.seg
  clear hn32
  go_wp2_with fail
  refine (twin_any _ _ _ (X1) _ (by omega) s1).mono ?_
  rintro e wa33 ⟨ca33, rfl, hn33⟩
  replace s0 := s0.below hn33.below (Nat.le_refl _)
  replace s1 := s1.below hn33.below (Nat.le_refl _)
  replace s2 := s2.below hn33.below (Nat.le_refl _)
  replace t10 := t10.below hn33.below (Nat.le_refl _)
  replace t25 := t25.below hn33.below (Nat.le_refl _)
  replace t31 := t31.below hn33.below (Nat.le_refl _)
  replace t32 := t32.below hn33.below (Nat.le_refl _)
  have B33 := B32.trans (hn33.below.mono B32.size)
  clear B32
  have t33 := hn33.seg
  clear hn33
  go_wp2_with fail
  refine (twin_any _ _ _ (X2) _ (by omega) s2).mono ?_
  rintro e wa34 ⟨ca34, rfl, hn34⟩
  replace s0 := s0.below hn34.below (Nat.le_refl _)
  replace s1 := s1.below hn34.below (Nat.le_refl _)
  replace s2 := s2.below hn34.below (Nat.le_refl _)
  replace t10 := t10.below hn34.below (Nat.le_refl _)
  replace t25 := t25.below hn34.below (Nat.le_refl _)
  replace t31 := t31.below hn34.below (Nat.le_refl _)
  replace t32 := t32.below hn34.below (Nat.le_refl _)
  replace t33 := t33.below hn34.below (Nat.le_refl _)
  have B34 := B33.trans (hn34.below.mono B33.size)
  clear B33
  have t34 := hn34.seg
  clear hn34
  go_wp2_with fail
  refine (Mul_is _ _ _ _ (X1) _ _ (X2) (Mbc) _ (by omega) (by omega) t33 (by omega) (by omega) t34 E9.out).mono ?_
  rintro e wa35 ⟨ca35, rfl, hn35⟩
  replace s0 := s0.below hn35.below (Nat.le_refl _)
  replace s1 := s1.below hn35.below (Nat.le_refl _)
  replace s2 := s2.below hn35.below (Nat.le_refl _)
  replace t10 := t10.below hn35.below (Nat.le_refl _)
  replace t25 := t25.below hn35.below (Nat.le_refl _)
  replace t31 := t31.below hn35.below (Nat.le_refl _)
  replace t32 := t32.below hn35.below (Nat.le_refl _)
  replace t33 := t33.below hn35.below (Nat.le_refl _)
  replace t34 := t34.below hn35.below (Nat.le_refl _)
  have B35 := B34.trans (hn35.below.mono B34.size)
  clear B34
  have t35 := hn35.seg
  clear hn35
  clear t33
  clear t34
  go_wp2_with fail
  refine (Mul_is _ _ _ _ (X0) _ _ (Mbc) (Mabc) _ (by omega) (by omega) t32 (by omega) (by omega) t35 E10.out).mono ?_
  rintro e wa36 ⟨ca36, rfl, hn36⟩
  replace s0 := s0.below hn36.below (Nat.le_refl _)
  replace s1 := s1.below hn36.below (Nat.le_refl _)
  replace s2 := s2.below hn36.below (Nat.le_refl _)
  replace t10 := t10.below hn36.below (Nat.le_refl _)
  replace t25 := t25.below hn36.below (Nat.le_refl _)
  replace t31 := t31.below hn36.below (Nat.le_refl _)
  replace t32 := t32.below hn36.below (Nat.le_refl _)
  replace t35 := t35.below hn36.below (Nat.le_refl _)
  have B36 := B35.trans (hn36.below.mono B35.size)
  clear B35
  have t36 := hn36.seg
  clear hn36
  clear t32
  clear t35
  go_wp2_with fail
  refine (same_any _ _ _ _ (Mabc) _ _ (Mabc) _ (by omega) (by omega) t31 t36).mono ?_
  rintro e wa37 ⟨rfl, hd37⟩
  replace s0 := s0.dr hd37
  replace s1 := s1.dr hd37
  replace s2 := s2.dr hd37
  replace t10 := t10.dr hd37
  replace t25 := t25.dr hd37
  replace t31 := t31.dr hd37
  replace t36 := t36.dr hd37
  have B37 := B36.trans (hd37.below _)
  clear B36 hd37
  clear t31
  clear t36
  clear t25
  go_wp2_with fail
  refine (twin_any _ _ _ (X2) _ (by omega) s2).mono ?_
  rintro e wa38 ⟨ca38, rfl, hn38⟩
  replace s0 := s0.below hn38.below (Nat.le_refl _)
  replace s1 := s1.below hn38.below (Nat.le_refl _)
  replace s2 := s2.below hn38.below (Nat.le_refl _)
  replace t10 := t10.below hn38.below (Nat.le_refl _)
  have B38 := B37.trans (hn38.below.mono B37.size)
  clear B37
  have t38 := hn38.seg
  clear hn38
  go_wp2_with fail
  refine (Mul_is _ _ _ _ (Zab) _ _ (X2) (Ms) _ (by omega) (by omega) t10 (by omega) (by omega) t38 E11.out).mono ?_
  rintro e wa39 ⟨ca39, rfl, hn39⟩
  replace s0 := s0.below hn39.below (Nat.le_refl _)
  replace s1 := s1.below hn39.below (Nat.le_refl _)
  replace s2 := s2.below hn39.below (Nat.le_refl _)
  replace t10 := t10.below hn39.below (Nat.le_refl _)
  replace t38 := t38.below hn39.below (Nat.le_refl _)
  have B39 := B38.trans (hn39.below.mono B38.size)
  clear B38
  have t39 := hn39.seg
  clear hn39
  clear t38
  go_wp2_with fail
  refine (twin_any _ _ _ (X0) _ (by omega) s0).mono ?_
  rintro e wa40 ⟨ca40, rfl, hn40⟩
  replace s0 := s0.below hn40.below (Nat.le_refl _)
  replace s1 := s1.below hn40.below (Nat.le_refl _)
  replace s2 := s2.below hn40.below (Nat.le_refl _)
  replace t10 := t10.below hn40.below (Nat.le_refl _)
  replace t39 := t39.below hn40.below (Nat.le_refl _)
  have B40 := B39.trans (hn40.below.mono B39.size)
  clear B39
  have t40 := hn40.seg
  clear hn40
  go_wp2_with fail
  refine (twin_any _ _ _ (X2) _ (by omega) s2).mono ?_
  rintro e wa41 ⟨ca41, rfl, hn41⟩
  replace s0 := s0.below hn41.below (Nat.le_refl _)
  replace s1 := s1.below hn41.below (Nat.le_refl _)
  replace s2 := s2.below hn41.below (Nat.le_refl _)
  replace t10 := t10.below hn41.below (Nat.le_refl _)
  replace t39 := t39.below hn41.below (Nat.le_refl _)
  replace t40 := t40.below hn41.below (Nat.le_refl _)
  have B41 := B40.trans (hn41.below.mono B40.size)
  clear B40
  have t41 := hn41.seg
  clear hn41
  go_wp2_with fail
  refine (Mul_is _ _ _ _ (X0) _ _ (X2) (Mac) _ (by omega) (by omega) t40 (by omega) (by omega) t41 E12.out).mono ?_
  rintro e wa42 ⟨ca42, rfl, hn42⟩
  replace s0 := s0.below hn42.below (Nat.le_refl _)
  replace s1 := s1.below hn42.below (Nat.le_refl _)
  replace s2 := s2.below hn42.below (Nat.le_refl _)
  replace t10 := t10.below hn42.below (Nat.le_refl _)
  replace t39 := t39.below hn42.below (Nat.le_refl _)
  replace t40 := t40.below hn42.below (Nat.le_refl _)
  replace t41 := t41.below hn42.below (Nat.le_refl _)
  have B42 := B41.trans (hn42.below.mono B41.size)
  clear B41
  have t42 := hn42.seg
  clear hn42
  clear t40
  clear t41
  go_wp2_with fail
  refine (twin_any _ _ _ (X1) _ (by omega) s1).mono ?_
  rintro e wa43 ⟨ca43, rfl, hn43⟩
  replace s0 := s0.below hn43.below (Nat.le_refl _)
  replace s1 := s1.below hn43.below (Nat.le_refl _)
  replace s2 := s2.below hn43.below (Nat.le_refl _)
  replace t10 := t10.below hn43.below (Nat.le_refl _)
  replace t39 := t39.below hn43.below (Nat.le_refl _)
  replace t42 := t42.below hn43.below (Nat.le_refl _)
  have B43 := B42.trans (hn43.below.mono B42.size)
  clear B42
  have t43 := hn43.seg
  clear hn43
  go_wp2_with fail
  refine (twin_any _ _ _ (X2) _ (by omega) s2).mono ?_
  rintro e wa44 ⟨ca44, rfl, hn44⟩
  replace s0 := s0.below hn44.below (Nat.le_refl _)
  replace s1 := s1.below hn44.below (Nat.le_refl _)
  replace s2 := s2.below hn44.below (Nat.le_refl _)
  replace t10 := t10.below hn44.below (Nat.le_refl _)
  replace t39 := t39.below hn44.below (Nat.le_refl _)
  replace t42 := t42.below hn44.below (Nat.le_refl _)
  replace t43 := t43.below hn44.below (Nat.le_refl _)
  have B44 := B43.trans (hn44.below.mono B43.size)
  clear B43
  have t44 := hn44.seg
  clear hn44
  go_wp2_with fail
  refine (Mul_is _ _ _ _ (X1) _ _ (X2) (Mbc) _ (by omega) (by omega) t43 (by omega) (by omega) t44 E9.out).mono ?_
  rintro e wa45 ⟨ca45, rfl, hn45⟩
  replace s0 := s0.below hn45.below (Nat.le_refl _)
  replace s1 := s1.below hn45.below (Nat.le_refl _)
  replace s2 := s2.below hn45.below (Nat.le_refl _)
  replace t10 := t10.below hn45.below (Nat.le_refl _)
  replace t39 := t39.below hn45.below (Nat.le_refl _)
  replace t42 := t42.below hn45.below (Nat.le_refl _)
  replace t43 := t43.below hn45.below (Nat.le_refl _)
  replace t44 := t44.below hn45.below (Nat.le_refl _)
  have B45 := B44.trans (hn45.below.mono B44.size)
  clear B44
  have t45 := hn45.seg
  clear hn45
  clear t43
  clear t44
  go_wp2_with fail
  refine (Add_is _ _ _ _ (Mac) _ _ (Mbc) (Ms) _ (by omega) (by omega) t42 (by omega) (by omega) t45 E13.out).mono ?_
  rintro e wa46 ⟨ca46, rfl, hn46⟩
  replace s0 := s0.below hn46.below (Nat.le_refl _)
  replace s1 := s1.below hn46.below (Nat.le_refl _)
  replace s2 := s2.below hn46.below (Nat.le_refl _)
  replace t10 := t10.below hn46.below (Nat.le_refl _)
  replace t39 := t39.below hn46.below (Nat.le_refl _)
  replace t42 := t42.below hn46.below (Nat.le_refl _)
  replace t45 := t45.below hn46.below (Nat.le_refl _)
  have B46 := B45.trans (hn46.below.mono B45.size)
  clear B45
  have t46 := hn46.seg
  clear hn46
  clear t42
  clear t45
  go_wp2_with fail
  refine (same_any _ _ _ _ (Ms) _ _ (Ms) _ (by omega) (by omega) t39 t46).mono ?_
  rintro e wa47 ⟨rfl, hd47⟩
  replace s0 := s0.dr hd47
  replace s1 := s1.dr hd47
  replace s2 := s2.dr hd47
  replace t10 := t10.dr hd47
  replace t39 := t39.dr hd47
  replace t46 := t46.dr hd47
  have B47 := B46.trans (hd47.below _)
  clear B46 hd47
  clear t39
  clear t46
  go_wp2_with fail
  refine (twin_any _ _ _ (X1) _ (by omega) s1).mono ?_
  rintro e wa48 ⟨ca48, rfl, hn48⟩
  replace s0 := s0.below hn48.below (Nat.le_refl _)
  replace s1 := s1.below hn48.below (Nat.le_refl _)
  replace s2 := s2.below hn48.below (Nat.le_refl _)
  replace t10 := t10.below hn48.below (Nat.le_refl _)
  have B48 := B47.trans (hn48.below.mono B47.size)
  clear B47
  have t48 := hn48.seg
  clear hn48
  go_wp2_with fail
  refine (Sub_is _ _ _ _ (Zab) _ _ (X1) (X0) _ (by omega) (by omega) t10 (by omega) (by omega) t48 E1.out).mono ?_
  rintro e wa49 ⟨ca49, rfl, hn49⟩
  replace s0 := s0.below hn49.below (Nat.le_refl _)
  replace s1 := s1.below hn49.below (Nat.le_refl _)
  replace s2 := s2.below hn49.below (Nat.le_refl _)
  replace t10 := t10.below hn49.below (Nat.le_refl _)
  replace t48 := t48.below hn49.below (Nat.le_refl _)
  have B49 := B48.trans (hn49.below.mono B48.size)
  clear B48
  have t49 := hn49.seg
  clear hn49
  clear t48
  clear t10
  go_wp2_with fail
  refine (twin_any _ _ _ (X0) _ (by omega) s0).mono ?_
  rintro e wa50 ⟨ca50, rfl, hn50⟩
  replace s0 := s0.below hn50.below (Nat.le_refl _)
  replace s1 := s1.below hn50.below (Nat.le_refl _)
  replace s2 := s2.below hn50.below (Nat.le_refl _)
  replace t49 := t49.below hn50.below (Nat.le_refl _)
  have B50 := B49.trans (hn50.below.mono B49.size)
  clear B49
  have t50 := hn50.seg
  clear hn50
  go_wp2_with fail
  refine (Norm_any _ _ _ (X0) _ (by omega) (by omega) t50).mono ?_
  rintro e wa51 ⟨ca51, rfl, hn51⟩
  replace s0 := s0.below hn51.below (Nat.le_refl _)
  replace s1 := s1.below hn51.below (Nat.le_refl _)
  replace s2 := s2.below hn51.below (Nat.le_refl _)
  replace t49 := t49.below hn51.below (Nat.le_refl _)
  replace t50 := t50.below hn51.below (Nat.le_refl _)
  have B51 := B50.trans (hn51.below.mono B50.size)
  clear B50
  have t51 := hn51.seg
  clear hn51
  clear t50
  go_wp2_with fail
  refine (same_any _ _ _ _ (X0) _ _ (X0) _ (by omega) (by omega) t49 t51).mono ?_
  rintro e wa52 ⟨rfl, hd52⟩
  replace s0 := s0.dr hd52
  replace s1 := s1.dr hd52
  replace s2 := s2.dr hd52
  replace t49 := t49.dr hd52
  replace t51 := t51.dr hd52
  have B52 := B51.trans (hd52.below _)
  clear B51 hd52
  clear t49
  clear t51
  go_wp2_with fail
  refine (twin_any _ _ _ (X0) _ (by omega) s0).mono ?_
  rintro e wa53 ⟨ca53, rfl, hn53⟩
  replace s0 := s0.below hn53.below (Nat.le_refl _)
  replace s1 := s1.below hn53.below (Nat.le_refl _)
  replace s2 := s2.below hn53.below (Nat.le_refl _)
  have B53 := B52.trans (hn53.below.mono B52.size)
  clear B52
  have t53 := hn53.seg
  clear hn53
  go_wp2_with fail
  have hn54 := single_new wa53 1 29 1 (by omega) rfl
  replace s0 := s0.below hn54.below (Nat.le_refl _)
  replace s1 := s1.below hn54.below (Nat.le_refl _)
  replace s2 := s2.below hn54.below (Nat.le_refl _)
  replace t53 := t53.below hn54.below (Nat.le_refl _)
  have B54 := B53.trans (hn54.below.mono B53.size)
  clear B53
  have t54 := hn54.seg
  clear hn54
  go_wp2_with fail
  refine (Mul_is _ _ _ _ (X0) _ _ (1) (X0) _ (by omega) (by omega) t53 (by omega) (by omega) t54 E14.out).mono ?_
  rintro e wa55 ⟨ca55, rfl, hn55⟩
  replace s0 := s0.below hn55.below (Nat.le_refl _)
  replace s1 := s1.below hn55.below (Nat.le_refl _)
  replace s2 := s2.below hn55.below (Nat.le_refl _)
  replace t53 := t53.below hn55.below (Nat.le_refl _)
  replace t54 := t54.below hn55.below (Nat.le_refl _)
  have B55 := B54.trans (hn55.below.mono B54.size)
  clear B54
  have t55 := hn55.seg
  clear hn55
  clear t53
  clear t54
  go_wp2_with fail
  refine (twin_any _ _ _ (X0) _ (by omega) s0).mono ?_
  rintro e wa56 ⟨ca56, rfl, hn56⟩
  replace s0 := s0.below hn56.below (Nat.le_refl _)
  replace s1 := s1.below hn56.below (Nat.le_refl _)
  replace s2 := s2.below hn56.below (Nat.le_refl _)
  replace t55 := t55.below hn56.below (Nat.le_refl _)
  have B56 := B55.trans (hn56.below.mono B55.size)
  clear B55
  have t56 := hn56.seg
  clear hn56
  go_wp2_with fail
  refine (Norm_any _ _ _ (X0) _ (by omega) (by omega) t56).mono ?_
  rintro e wa57 ⟨ca57, rfl, hn57⟩
  replace s0 := s0.below hn57.below (Nat.le_refl _)
  replace s1 := s1.below hn57.below (Nat.le_refl _)
  replace s2 := s2.below hn57.below (Nat.le_refl _)
  replace t55 := t55.below hn57.below (Nat.le_refl _)
  replace t56 := t56.below hn57.below (Nat.le_refl _)
  have B57 := B56.trans (hn57.below.mono B56.size)
  clear B56
  have t57 := hn57.seg
  clear hn57
  clear t56
  go_wp2_with fail
  refine (same_any _ _ _ _ (X0) _ _ (X0) _ (by omega) (by omega) t55 t57).mono ?_
  rintro e wa58 ⟨rfl, hd58⟩
  replace s0 := s0.dr hd58
  replace s1 := s1.dr hd58
  replace s2 := s2.dr hd58
  replace t55 := t55.dr hd58
  replace t57 := t57.dr hd58
  have B58 := B57.trans (hd58.below _)
  clear B57 hd58
  go_wp2
  go_ret
  exact ⟨rfl, B58⟩

theorem contract (H : Type) (enc : TypeId × Value → H) (W : World) (base : Nat) (args : Array Value) (ds gs : List (DataW H)) (before : List MemPlace)
    (hval : ∀ (j : Nat) t v, Try.f4.params[j]? = some t → args[j]? = some v → Value.okWide Try.prog W .any base t v)
    (hW : DataW.Whole enc Try.prog Try.f4.params.toList Rows.natRingSpec.vars false W args.toList ds gs before)
    (hsz : (DataW.weightsEach Try.prog (Try.f4.params.toList ++ Rows.natRingSpec.plain.varTypes Try.prog) (ds ++ gs)).all (· ≤ reachBytes) = true) (hk : Rows.uptoSmall H (ds ++ gs) = true) :
    Calls Try.prog 4 args W fun e W' => ∃ v, e = .returned v ∧ Rows.natRingSpec.post enc Try.prog Try.f4 false true false false W args v W' := by
  have hW' := hW
  obtain ⟨p, q, hA0, hV, rfl, hfz, hnd⟩ := hW
  have hA : DataW.TrodAll enc Try.prog W 0 (fun _ => true) true Try.f4.params.toList args.toList ds p := hA0
  rw [Try.params4] at hA hval hsz
  obtain ⟨v0, vs0, d0, ds0, p0, q0, hargs, rfl, rfl, h0, r0⟩ := trodAll_cons hA
  obtain ⟨v1, vs1, d1, ds1, p1, q1, rfl, rfl, rfl, h1, r1⟩ := trodAll_cons r0
  obtain ⟨v2, vs2, d2, ds2, p2, q2, rfl, rfl, rfl, h2, r2⟩ := trodAll_cons r1
  obtain ⟨rfl, rfl, rfl⟩ := trodAll_nil r2
  obtain rfl : args = #[v0, v1, v2] := by cases args; simp_all
  obtain ⟨rfl, rfl⟩ := trodVars_none hV
  obtain ⟨a0, len0, cap0, rfl⟩ := okWide_slice Try.underlying22 (hval 0 22 v0 rfl rfl)
  have lt0 : ∀ x ∈ p0, x.block < W.heap.size := by obtain ⟨m, hm⟩ := h0; exact DataW.trod_lt m _ _ _ hm
  obtain ⟨X0, hS0, hc0, hb0, hu0⟩ := open_nat Try.underlying22 h0 (fun elems spare h => sized_slice hsz (j := 0) (t := 22) (e := 29) rfl (by rw [h]; rfl) Try.underlying22)
  obtain ⟨a1, len1, cap1, rfl⟩ := okWide_slice Try.underlying22 (hval 1 22 v1 rfl rfl)
  have lt1 : ∀ x ∈ p1, x.block < W.heap.size := by obtain ⟨m, hm⟩ := h1; exact DataW.trod_lt m _ _ _ hm
  obtain ⟨X1, hS1, hc1, hb1, hu1⟩ := open_nat Try.underlying22 h1 (fun elems spare h => sized_slice hsz (j := 1) (t := 22) (e := 29) rfl (by rw [h]; rfl) Try.underlying22)
  obtain ⟨a2, len2, cap2, rfl⟩ := okWide_slice Try.underlying22 (hval 2 22 v2 rfl rfl)
  have lt2 : ∀ x ∈ p2, x.block < W.heap.size := by obtain ⟨m, hm⟩ := h2; exact DataW.trod_lt m _ _ _ hm
  obtain ⟨X2, hS2, hc2, hb2, hu2⟩ := open_nat Try.underlying22 h2 (fun elems spare h => sized_slice hsz (j := 2) (t := 22) (e := 29) rfl (by rw [h]; rfl) Try.underlying22)
  clear hA0
  have hbulk := of_decide_eq_true hk
  simp only [List.append_nil, Rows.uptoBulkAll] at hbulk
  have hb0 : len0 ≤ 1048576 := by omega
  have hb1 : len1 ≤ 1048576 := by omega
  have hb2 : len2 ≤ 1048576 := by omega
  simp only [List.append_nil] at hW'
  refine (walk a0 len0 cap0 X0 a1 len1 cap1 X1 a2 len2 cap2 X2 W hS0 hc0 hb0 hS1 hc1 hb1 hS2 hc2 hb2).mono fun e W' ⟨he, bel⟩ => ?_
  subst he
  exact ⟨_, rfl, _, _, _, [], _, [], hW', trodAll_mk1 (shut_bool Try.underlying4 _), (trodAll_cons_mk (Below.trod laidOut (by kernel_rfl) (of_decide_eq_true (by kernel_rfl)) h0 bel lt0) (trodAll_cons_mk (Below.trod laidOut (by kernel_rfl) (of_decide_eq_true (by kernel_rfl)) h1 bel lt1) (trodAll_cons_mk (Below.trod laidOut (by kernel_rfl) (of_decide_eq_true (by kernel_rfl)) h2 bel lt2) trodAll_mk0))), rfl, bel.frame _, fun h => by cases h⟩

set_option maxRecDepth 100000 in
theorem lifted (os : Os) (started : os.Started) (H : Type) (enc : TypeId × Value → H) (F : Stop.Interp) :
    ReturnsInHanded {} Try.checked os 4 .any ((Rows.OpenSpec.upto Rows.natRingSpec).pre6 enc Try.prog Try.f4 Rows.natRingUptoRow.domain false) (((Rows.OpenSpec.upto Rows.natRingSpec).at F).post enc Try.prog Try.f4 false true false false) := by
  refine returnsInHanded_of_cond_sized (C := Try.checked) (s := Rows.OpenSpec.upto Rows.natRingSpec) (k := Rows.uptoSmall) rfl own started (by kernel_rfl) Try.func4
    (OpenSpec.witness (enc := enc) (C := Try.checked) (s := Rows.OpenSpec.upto Rows.natRingSpec) (k := Rows.uptoSmall) rfl false ⟨#[], #[.slice none 0 0, .slice none 0 0, .slice none 0 0], []⟩ 8 (by kernel_rfl) (by kernel_rfl) (by kernel_rfl)
      (x := ([.nil, .nil, .nil], [], [])) (by kernel_rfl) rfl (by kernel_rfl)) ?_
  intro W base args ds gs before hval hW _ hk hsz _
  exact contract H enc W base args ds gs before hval hW hsz hk

theorem over : Rows.natRingUptoRow.holds Try.pinned (Rows.OpenSpec.upto Rows.natRingSpec) :=
  OpenClaim.holds_of_cond 4 Try.f4 rfl rfl rfl rfl rfl rfl rfl ⟨rfl, rfl, rfl, rfl, rfl⟩ rfl rfl rfl rfl rfl (by kernel_rfl) Try.func4 (by kernel_rfl)
    (of_decide_eq_true (by kernel_rfl)) (by unfold Func.isWrapper; first | (rw [if_pos (by decide +kernel)]; kernel_rfl) | (rw [if_neg (by decide +kernel)]; exact ⟨rfl, rfl⟩))
    (fun os started H enc _ F => lifted os started H enc F)

end Go.Proofs.Ytkbjfdfooompbab.natRing
namespace Go.Proofs.Ytkbjfdfooompbab
theorem natRing_holds : Rows.NatRingUptoSaid := natRing.over
#print axioms natRing_holds
end Go.Proofs.Ytkbjfdfooompbab
