/-
  NatGreatest: what divides both divides Gcd, which divides both.
-/
import Derived.Test.YtkbjfdfooompbacW17
import Derived.Test.YtkbjfdfooompbacW8
import Derived.Test.YtkbjfdfooompbacW4
import Derived.Test.YtkbjfdfooompbacOpen
namespace Go.Proofs.Ytkbjfdfooompbac.natGreatest
open Go.ChangeShapes Go.WideShapes Go.ChangeAt Go.RowKit Go.Proofs.Ytkbjfdfooompbac
set_option linter.unusedVariables false

theorem ln_small {X : Nat} (h0 : X ≠ 0) (h : X < 4294967296) : ln X = 1 := ln_of_top (by rw [Nat.pow_one, BB_eq]; exact h) (by rw [dg0, Nat.mod_eq_of_lt h]; exact h0)

set_option maxHeartbeats 4000000 in
theorem walk (a0 : Option Addr) (len0 cap0 X0 : Nat) (a1 : Option Addr) (len1 cap1 X1 : Nat) (a2 : Option Addr) (len2 cap2 X2 : Nat) (w : World) (hS0 : Seg w a0 X0 len0) (hc : len0 ≤ cap0) (hb : len0 ≤ 35184372087808) (hS1 : Seg w a1 X1 len1) (hc1 : len1 ≤ cap1) (hb1 : len1 ≤ 35184372087808) (hS2 : Seg w a2 X2 len2) (hc2 : len2 ≤ cap2) (hb2 : len2 ≤ 35184372087808) :
    Calls Try.prog 3 #[.slice a0 len0 cap0, .slice a1 len1 cap1, .slice a2 len2 cap2] w fun e w' => e = .returned (.bool true) ∧ Below w.heap.size w w' := by
  have lX0 : ln X0 ≤ 35184372087808 := by have := ln_le_of_lt hS0.1; omega
  have lX1 : ln X1 ≤ 35184372087808 := by have := ln_le_of_lt hS1.1; omega
  have lX2 : ln X2 ≤ 35184372087808 := by have := ln_le_of_lt hS2.1; omega
  obtain ⟨G, hG⟩ : ∃ Z, Nat.gcd X0 X1 = Z := ⟨_, rfl⟩
  obtain ⟨Mac, hMac⟩ : ∃ Z, X0 * X2 = Z := ⟨_, rfl⟩
  obtain ⟨Mbc, hMbc⟩ : ∃ Z, X1 * X2 = Z := ⟨_, rfl⟩
  obtain ⟨Mgc, hMgc⟩ : ∃ Z, G * X2 = Z := ⟨_, rfl⟩
  obtain ⟨Rz, hRz⟩ : ∃ Z, Z = 0 := ⟨0, rfl⟩
  obtain ⟨Pa, hPa⟩ : ∃ Z, X0 / G = Z := ⟨_, rfl⟩
  obtain ⟨Pb, hPb⟩ : ∃ Z, X1 / G = Z := ⟨_, rfl⟩
  have lG : ln G ≤ 35184372087808 := by
    by_cases h0 : X0 = 0
    · rw [← hG, h0, Nat.gcd_zero_left]; exact lX1
    · have : ln G ≤ ln X0 := ln_mono (by rw [← hG]; exact Nat.gcd_le_left _ (Nat.pos_of_ne_zero h0))
      omega
  have lMac : ln Mac ≤ 70368744175616 := by have := ln_prod hS0.1 hS2.1; rw [hMac] at this; omega
  have lMbc : ln Mbc ≤ 70368744175616 := by have := ln_prod hS1.1 hS2.1; rw [hMbc] at this; omega
  have lMgc : ln Mgc ≤ 70368744175616 := by have := ln_prod (ln_lt G) hS2.1; rw [hMgc] at this; omega
  have EA : Hid (X0 = Pa * G + Rz) := by
    show _ = _
    rw [hRz, Nat.add_zero, ← hPa, Nat.div_mul_cancel]
    rw [← hG]; exact Nat.gcd_dvd_left _ _
  have EB : Hid (X1 = Pb * G + Rz) := by
    show _ = _
    rw [hRz, Nat.add_zero, ← hPb, Nat.div_mul_cancel]
    rw [← hG]; exact Nat.gcd_dvd_right _ _
  have lPa : ln Pa ≤ 35184372087808 := by have : ln Pa ≤ ln X0 := ln_mono (by rw [← hPa]; exact Nat.div_le_self _ _); omega
  have lPb : ln Pb ≤ 35184372087808 := by have : ln Pb ≤ ln X1 := ln_mono (by rw [← hPb]; exact Nat.div_le_self _ _); omega
  have hlr : ¬ (0 : Int) < ((ln Rz : Nat) : Int) := by rw [hRz, ln_zero]; omega
  have E0 : Hid (Nat.gcd 4 6 = 2) := rfl
  have E1 : Hid (Nat.gcd X0 X1 = G) := hG
  have E2 : Hid (X0 * X2 = Mac) := hMac
  have E3 : Hid (X1 * X2 = Mbc) := hMbc
  have E5 : Hid (G * X2 = Mgc) := hMgc
  have E4 : Hid (Nat.gcd Mac Mbc = Mgc) := by show _ = _; rw [← hMac, ← hMbc, ← hMgc, ← hG, Nat.gcd_mul_right]
  have HZ := hid15 hRz
  have l2 : ln 2 ≤ 1 := by rw [ln_small (by omega) (by omega)]; omega
  have q2 : sameB (ln 2) 1 2 2 = true := by rw [ln_small (by omega) (by omega)]; exact sameB_self _ _
  have qg := sameB_self (ln Mgc) Mgc
  clear hG hMac hMbc hMgc hRz hPa hPb
  by_cases h0 : 0 < ln X0
  · have HRG : Hid (Rz < G) := by
      show _ < _
      rw [HZ.out, ← E1.out]
      exact Nat.gcd_pos_of_pos_left _ (Nat.pos_of_ne_zero fun h => by rw [h, ln_zero] at h0; omega)
    go_enter Try.func3, Try.ntmps3
    have B0 : Below w.heap.size w w := Below.refl _ _
    have s0 := hS0
    have s1 := hS1
    have s2 := hS2
    go_wp2_with fail
    have hn1 := single_new w 4 26 4 (by omega) rfl
    replace s0 := s0.below hn1.below (Nat.le_refl _)
    replace s1 := s1.below hn1.below (Nat.le_refl _)
    replace s2 := s2.below hn1.below (Nat.le_refl _)
    have B1 := B0.trans (hn1.below.mono B0.size)
    clear B0
    have t1 := hn1.seg
    clear hn1
    go_wp2_with fail
    have hn2 := single_new (w.alloc (.cells #[.int .u32 4] 26)) 6 26 6 (by omega) rfl
    replace s0 := s0.below hn2.below (Nat.le_refl _)
    replace s1 := s1.below hn2.below (Nat.le_refl _)
    replace s2 := s2.below hn2.below (Nat.le_refl _)
    replace t1 := t1.below hn2.below (Nat.le_refl _)
    have B2 := B1.trans (hn2.below.mono B1.size)
    clear B1
    have t2 := hn2.seg
    clear hn2
    rw [World.size_alloc] at t2
    go_wp2_with fail
    refine (Gcd_is _ _ _ _ (4) _ _ (6) (2) _ (by omega) (by omega) t1 (by omega) (by omega) t2 E0.out).mono ?_
    rintro e wa3 ⟨ca3, rfl, hn3⟩
    replace s0 := s0.below hn3.below (Nat.le_refl _)
    replace s1 := s1.below hn3.below (Nat.le_refl _)
    replace s2 := s2.below hn3.below (Nat.le_refl _)
    replace t1 := t1.below hn3.below (Nat.le_refl _)
    replace t2 := t2.below hn3.below (Nat.le_refl _)
    have B3 := B2.trans (hn3.below.mono B2.size)
    clear B2
    have t3 := hn3.seg
    clear hn3
    clear t1
    clear t2
    go_wp2_with fail
    have hn4 := single_new wa3 2 26 2 (by omega) rfl
    replace s0 := s0.below hn4.below (Nat.le_refl _)
    replace s1 := s1.below hn4.below (Nat.le_refl _)
    replace s2 := s2.below hn4.below (Nat.le_refl _)
    replace t3 := t3.below hn4.below (Nat.le_refl _)
    have B4 := B3.trans (hn4.below.mono B3.size)
    clear B3
    have t4 := hn4.seg
    clear hn4
    go_wp2_with fail
    refine (same_any _ _ _ _ (2) _ _ (2) _ (by omega) (by omega) t3 t4).mono ?_
    rintro e wa5 ⟨rfl, hd5⟩
    replace s0 := s0.dr hd5
    replace s1 := s1.dr hd5
    replace s2 := s2.dr hd5
    replace t3 := t3.dr hd5
    replace t4 := t4.dr hd5
    have B5 := B4.trans (hd5.below _)
    clear B4 hd5
    clear t3
    clear t4
    go_wp2_with fail
    refine (twin_any _ _ _ (X0) _ (by omega) s0).mono ?_
    rintro e wa6 ⟨ca6, rfl, hn6⟩
    replace s0 := s0.below hn6.below (Nat.le_refl _)
    replace s1 := s1.below hn6.below (Nat.le_refl _)
    replace s2 := s2.below hn6.below (Nat.le_refl _)
    have B6 := B5.trans (hn6.below.mono B5.size)
    clear B5
    have t6 := hn6.seg
    clear hn6
    go_wp2_with fail
    refine (twin_any _ _ _ (X1) _ (by omega) s1).mono ?_
    rintro e wa7 ⟨ca7, rfl, hn7⟩
    replace s0 := s0.below hn7.below (Nat.le_refl _)
    replace s1 := s1.below hn7.below (Nat.le_refl _)
    replace s2 := s2.below hn7.below (Nat.le_refl _)
    replace t6 := t6.below hn7.below (Nat.le_refl _)
    have B7 := B6.trans (hn7.below.mono B6.size)
    clear B6
    have t7 := hn7.seg
    clear hn7
    go_wp2_with fail
    refine (Gcd_is _ _ _ _ (X0) _ _ (X1) (G) _ (by omega) (by omega) t6 (by omega) (by omega) t7 E1.out).mono ?_
    rintro e wa8 ⟨ca8, rfl, hn8⟩
    replace s0 := s0.below hn8.below (Nat.le_refl _)
    replace s1 := s1.below hn8.below (Nat.le_refl _)
    replace s2 := s2.below hn8.below (Nat.le_refl _)
    replace t6 := t6.below hn8.below (Nat.le_refl _)
    replace t7 := t7.below hn8.below (Nat.le_refl _)
    have B8 := B7.trans (hn8.below.mono B7.size)
    clear B7
    have t8 := hn8.seg
    clear hn8
    clear t6
    clear t7
    go_wp2_with fail
    refine (rNorm_any _ _ _ (X0) _ (by omega) s0).mono ?_
    rintro e wa9 ⟨ca9, rfl, hn9⟩
    replace s0 := s0.below hn9.below (Nat.le_refl _)
    replace s1 := s1.below hn9.below (Nat.le_refl _)
    replace s2 := s2.below hn9.below (Nat.le_refl _)
    replace t8 := t8.below hn9.below (Nat.le_refl _)
    have B9 := B8.trans (hn9.below.mono B8.size)
    clear B8
    have t9 := hn9.seg
    clear hn9
    clear t9
    go_wp2_with fail
    refine (twin_any _ _ _ (X0) _ (by omega) s0).mono ?_
    rintro e wa10 ⟨ca10, rfl, hn10⟩
    replace s0 := s0.below hn10.below (Nat.le_refl _)
    replace s1 := s1.below hn10.below (Nat.le_refl _)
    replace s2 := s2.below hn10.below (Nat.le_refl _)
    replace t8 := t8.below hn10.below (Nat.le_refl _)
    have B10 := B9.trans (hn10.below.mono B9.size)
    clear B9
    have t10 := hn10.seg
    clear hn10
    go_wp2_with fail
    refine (Div_is _ _ _ _ X0 _ _ G Pa Rz _ (by omega) (by omega) t10 (by omega) (by omega) t8 EA.out HRG.out).mono ?_
    rintro e wa11 ⟨aq11, ar11, rfl, hq11, hr11⟩
    replace s0 := s0.below hq11.below (Nat.le_refl _)
    replace s1 := s1.below hq11.below (Nat.le_refl _)
    replace s2 := s2.below hq11.below (Nat.le_refl _)
    replace t8 := t8.below hq11.below (Nat.le_refl _)
    replace t10 := t10.below hq11.below (Nat.le_refl _)
    have B11 := B10.trans (hq11.below.mono B10.size)
    clear B10
    clear hq11 hr11
    clear t10
    go_wp2_with fail
    refine (twin_any _ _ _ (X1) _ (by omega) s1).mono ?_
    rintro e wa12 ⟨ca12, rfl, hn12⟩
    replace s0 := s0.below hn12.below (Nat.le_refl _)
    replace s1 := s1.below hn12.below (Nat.le_refl _)
    replace s2 := s2.below hn12.below (Nat.le_refl _)
    replace t8 := t8.below hn12.below (Nat.le_refl _)
    have B12 := B11.trans (hn12.below.mono B11.size)
    clear B11
    have t12 := hn12.seg
    clear hn12
    go_wp2_with fail
    refine (Div_is _ _ _ _ X1 _ _ G Pb Rz _ (by omega) (by omega) t12 (by omega) (by omega) t8 EB.out HRG.out).mono ?_
    rintro e wa13 ⟨aq13, ar13, rfl, hq13, hr13⟩
    replace s0 := s0.below hq13.below (Nat.le_refl _)
    replace s1 := s1.below hq13.below (Nat.le_refl _)
    replace s2 := s2.below hq13.below (Nat.le_refl _)
    replace t8 := t8.below hq13.below (Nat.le_refl _)
    replace t12 := t12.below hq13.below (Nat.le_refl _)
    have B13 := B12.trans (hq13.below.mono B12.size)
    clear B12
    clear hq13 hr13
    clear t12
    go_wp2_with fail
    refine (twin_any _ _ _ (X0) _ (by omega) s0).mono ?_
    rintro e wa14 ⟨ca14, rfl, hn14⟩
    replace s0 := s0.below hn14.below (Nat.le_refl _)
    replace s1 := s1.below hn14.below (Nat.le_refl _)
    replace s2 := s2.below hn14.below (Nat.le_refl _)
    replace t8 := t8.below hn14.below (Nat.le_refl _)
    have B14 := B13.trans (hn14.below.mono B13.size)
    clear B13
    have t14 := hn14.seg
    clear hn14
    go_wp2_with fail
    refine (twin_any _ _ _ (X2) _ (by omega) s2).mono ?_
    rintro e wa15 ⟨ca15, rfl, hn15⟩
    replace s0 := s0.below hn15.below (Nat.le_refl _)
    replace s1 := s1.below hn15.below (Nat.le_refl _)
    replace s2 := s2.below hn15.below (Nat.le_refl _)
    replace t8 := t8.below hn15.below (Nat.le_refl _)
    replace t14 := t14.below hn15.below (Nat.le_refl _)
    have B15 := B14.trans (hn15.below.mono B14.size)
    clear B14
    have t15 := hn15.seg
    clear hn15
    go_wp2_with fail
    refine (Mul_is _ _ _ _ (X0) _ _ (X2) (Mac) _ (by omega) (by omega) t14 (by omega) (by omega) t15 E2.out).mono ?_
    rintro e wa16 ⟨ca16, rfl, hn16⟩
    replace s0 := s0.below hn16.below (Nat.le_refl _)
    replace s1 := s1.below hn16.below (Nat.le_refl _)
    replace s2 := s2.below hn16.below (Nat.le_refl _)
    replace t8 := t8.below hn16.below (Nat.le_refl _)
    replace t14 := t14.below hn16.below (Nat.le_refl _)
    replace t15 := t15.below hn16.below (Nat.le_refl _)
    have B16 := B15.trans (hn16.below.mono B15.size)
    clear B15
    have t16 := hn16.seg
    clear hn16
    clear t14
    clear t15
    go_wp2_with fail
    refine (twin_any _ _ _ (X1) _ (by omega) s1).mono ?_
    rintro e wa17 ⟨ca17, rfl, hn17⟩
    replace s0 := s0.below hn17.below (Nat.le_refl _)
    replace s1 := s1.below hn17.below (Nat.le_refl _)
    replace s2 := s2.below hn17.below (Nat.le_refl _)
    replace t8 := t8.below hn17.below (Nat.le_refl _)
    replace t16 := t16.below hn17.below (Nat.le_refl _)
    have B17 := B16.trans (hn17.below.mono B16.size)
    clear B16
    have t17 := hn17.seg
    clear hn17
    go_wp2_with fail
    refine (twin_any _ _ _ (X2) _ (by omega) s2).mono ?_
    rintro e wa18 ⟨ca18, rfl, hn18⟩
    replace s0 := s0.below hn18.below (Nat.le_refl _)
    replace s1 := s1.below hn18.below (Nat.le_refl _)
    replace s2 := s2.below hn18.below (Nat.le_refl _)
    replace t8 := t8.below hn18.below (Nat.le_refl _)
    replace t16 := t16.below hn18.below (Nat.le_refl _)
    replace t17 := t17.below hn18.below (Nat.le_refl _)
    have B18 := B17.trans (hn18.below.mono B17.size)
    clear B17
    have t18 := hn18.seg
    clear hn18
    go_wp2_with fail
    refine (Mul_is _ _ _ _ (X1) _ _ (X2) (Mbc) _ (by omega) (by omega) t17 (by omega) (by omega) t18 E3.out).mono ?_
    rintro e wa19 ⟨ca19, rfl, hn19⟩
    replace s0 := s0.below hn19.below (Nat.le_refl _)
    replace s1 := s1.below hn19.below (Nat.le_refl _)
    replace s2 := s2.below hn19.below (Nat.le_refl _)
    replace t8 := t8.below hn19.below (Nat.le_refl _)
    replace t16 := t16.below hn19.below (Nat.le_refl _)
    replace t17 := t17.below hn19.below (Nat.le_refl _)
    replace t18 := t18.below hn19.below (Nat.le_refl _)
    have B19 := B18.trans (hn19.below.mono B18.size)
    clear B18
    have t19 := hn19.seg
    clear hn19
    clear t17
    clear t18
    go_wp2_with fail
    refine (Gcd_is _ _ _ _ (Mac) _ _ (Mbc) (Mgc) _ (by omega) (by omega) t16 (by omega) (by omega) t19 E4.out).mono ?_
    rintro e wa20 ⟨ca20, rfl, hn20⟩
    replace s0 := s0.below hn20.below (Nat.le_refl _)
    replace s1 := s1.below hn20.below (Nat.le_refl _)
    replace s2 := s2.below hn20.below (Nat.le_refl _)
    replace t8 := t8.below hn20.below (Nat.le_refl _)
    replace t16 := t16.below hn20.below (Nat.le_refl _)
    replace t19 := t19.below hn20.below (Nat.le_refl _)
    have B20 := B19.trans (hn20.below.mono B19.size)
    clear B19
    have t20 := hn20.seg
    clear hn20
    clear t16
    clear t19
    go_wp2_with fail
    refine (twin_any _ _ _ (X2) _ (by omega) s2).mono ?_
    rintro e wa21 ⟨ca21, rfl, hn21⟩
    replace s0 := s0.below hn21.below (Nat.le_refl _)
    replace s1 := s1.below hn21.below (Nat.le_refl _)
    replace s2 := s2.below hn21.below (Nat.le_refl _)
    replace t8 := t8.below hn21.below (Nat.le_refl _)
    replace t20 := t20.below hn21.below (Nat.le_refl _)
    have B21 := B20.trans (hn21.below.mono B20.size)
    clear B20
    have t21 := hn21.seg
    clear hn21
    go_wp2_with fail
    refine (Mul_is _ _ _ _ (G) _ _ (X2) (Mgc) _ (by omega) (by omega) t8 (by omega) (by omega) t21 E5.out).mono ?_
    rintro e wa22 ⟨ca22, rfl, hn22⟩
    replace s0 := s0.below hn22.below (Nat.le_refl _)
    replace s1 := s1.below hn22.below (Nat.le_refl _)
    replace s2 := s2.below hn22.below (Nat.le_refl _)
    replace t8 := t8.below hn22.below (Nat.le_refl _)
    replace t20 := t20.below hn22.below (Nat.le_refl _)
    replace t21 := t21.below hn22.below (Nat.le_refl _)
    have B22 := B21.trans (hn22.below.mono B21.size)
    clear B21
    have t22 := hn22.seg
    clear hn22
    clear t21
    go_wp2_with fail
    refine (same_any _ _ _ _ (Mgc) _ _ (Mgc) _ (by omega) (by omega) t20 t22).mono ?_
    rintro e wa23 ⟨rfl, hd23⟩
    replace s0 := s0.dr hd23
    replace s1 := s1.dr hd23
    replace s2 := s2.dr hd23
    replace t8 := t8.dr hd23
    replace t20 := t20.dr hd23
    replace t22 := t22.dr hd23
    have B23 := B22.trans (hd23.below _)
    clear B22 hd23
    go_wp2
    go_ret
    exact ⟨rfl, B23⟩
  · by_cases h1 : 0 < ln X1
    · have HRG : Hid (Rz < G) := by
        show _ < _
        rw [HZ.out, ← E1.out]
        exact Nat.gcd_pos_of_pos_right _ (Nat.pos_of_ne_zero fun h => by rw [h, ln_zero] at h1; omega)
      go_enter Try.func3, Try.ntmps3
      have B0 : Below w.heap.size w w := Below.refl _ _
      have s0 := hS0
      have s1 := hS1
      have s2 := hS2
      go_wp2_with fail
      have hn1 := single_new w 4 26 4 (by omega) rfl
      replace s0 := s0.below hn1.below (Nat.le_refl _)
      replace s1 := s1.below hn1.below (Nat.le_refl _)
      replace s2 := s2.below hn1.below (Nat.le_refl _)
      have B1 := B0.trans (hn1.below.mono B0.size)
      clear B0
      have t1 := hn1.seg
      clear hn1
      go_wp2_with fail
      have hn2 := single_new (w.alloc (.cells #[.int .u32 4] 26)) 6 26 6 (by omega) rfl
      replace s0 := s0.below hn2.below (Nat.le_refl _)
      replace s1 := s1.below hn2.below (Nat.le_refl _)
      replace s2 := s2.below hn2.below (Nat.le_refl _)
      replace t1 := t1.below hn2.below (Nat.le_refl _)
      have B2 := B1.trans (hn2.below.mono B1.size)
      clear B1
      have t2 := hn2.seg
      clear hn2
      rw [World.size_alloc] at t2
      go_wp2_with fail
      refine (Gcd_is _ _ _ _ (4) _ _ (6) (2) _ (by omega) (by omega) t1 (by omega) (by omega) t2 E0.out).mono ?_
      rintro e wa3 ⟨ca3, rfl, hn3⟩
      replace s0 := s0.below hn3.below (Nat.le_refl _)
      replace s1 := s1.below hn3.below (Nat.le_refl _)
      replace s2 := s2.below hn3.below (Nat.le_refl _)
      replace t1 := t1.below hn3.below (Nat.le_refl _)
      replace t2 := t2.below hn3.below (Nat.le_refl _)
      have B3 := B2.trans (hn3.below.mono B2.size)
      clear B2
      have t3 := hn3.seg
      clear hn3
      clear t1
      clear t2
      go_wp2_with fail
      have hn4 := single_new wa3 2 26 2 (by omega) rfl
      replace s0 := s0.below hn4.below (Nat.le_refl _)
      replace s1 := s1.below hn4.below (Nat.le_refl _)
      replace s2 := s2.below hn4.below (Nat.le_refl _)
      replace t3 := t3.below hn4.below (Nat.le_refl _)
      have B4 := B3.trans (hn4.below.mono B3.size)
      clear B3
      have t4 := hn4.seg
      clear hn4
      go_wp2_with fail
      refine (same_any _ _ _ _ (2) _ _ (2) _ (by omega) (by omega) t3 t4).mono ?_
      rintro e wa5 ⟨rfl, hd5⟩
      replace s0 := s0.dr hd5
      replace s1 := s1.dr hd5
      replace s2 := s2.dr hd5
      replace t3 := t3.dr hd5
      replace t4 := t4.dr hd5
      have B5 := B4.trans (hd5.below _)
      clear B4 hd5
      clear t3
      clear t4
      go_wp2_with fail
      refine (twin_any _ _ _ (X0) _ (by omega) s0).mono ?_
      rintro e wa6 ⟨ca6, rfl, hn6⟩
      replace s0 := s0.below hn6.below (Nat.le_refl _)
      replace s1 := s1.below hn6.below (Nat.le_refl _)
      replace s2 := s2.below hn6.below (Nat.le_refl _)
      have B6 := B5.trans (hn6.below.mono B5.size)
      clear B5
      have t6 := hn6.seg
      clear hn6
      go_wp2_with fail
      refine (twin_any _ _ _ (X1) _ (by omega) s1).mono ?_
      rintro e wa7 ⟨ca7, rfl, hn7⟩
      replace s0 := s0.below hn7.below (Nat.le_refl _)
      replace s1 := s1.below hn7.below (Nat.le_refl _)
      replace s2 := s2.below hn7.below (Nat.le_refl _)
      replace t6 := t6.below hn7.below (Nat.le_refl _)
      have B7 := B6.trans (hn7.below.mono B6.size)
      clear B6
      have t7 := hn7.seg
      clear hn7
      go_wp2_with fail
      refine (Gcd_is _ _ _ _ (X0) _ _ (X1) (G) _ (by omega) (by omega) t6 (by omega) (by omega) t7 E1.out).mono ?_
      rintro e wa8 ⟨ca8, rfl, hn8⟩
      replace s0 := s0.below hn8.below (Nat.le_refl _)
      replace s1 := s1.below hn8.below (Nat.le_refl _)
      replace s2 := s2.below hn8.below (Nat.le_refl _)
      replace t6 := t6.below hn8.below (Nat.le_refl _)
      replace t7 := t7.below hn8.below (Nat.le_refl _)
      have B8 := B7.trans (hn8.below.mono B7.size)
      clear B7
      have t8 := hn8.seg
      clear hn8
      clear t6
      clear t7
      go_wp2_with fail
      refine (rNorm_any _ _ _ (X0) _ (by omega) s0).mono ?_
      rintro e wa9 ⟨ca9, rfl, hn9⟩
      replace s0 := s0.below hn9.below (Nat.le_refl _)
      replace s1 := s1.below hn9.below (Nat.le_refl _)
      replace s2 := s2.below hn9.below (Nat.le_refl _)
      replace t8 := t8.below hn9.below (Nat.le_refl _)
      have B9 := B8.trans (hn9.below.mono B8.size)
      clear B8
      have t9 := hn9.seg
      clear hn9
      clear t9
      go_wp2_with fail
      refine (rNorm_any _ _ _ (X1) _ (by omega) s1).mono ?_
      rintro e wa10 ⟨ca10, rfl, hn10⟩
      replace s0 := s0.below hn10.below (Nat.le_refl _)
      replace s1 := s1.below hn10.below (Nat.le_refl _)
      replace s2 := s2.below hn10.below (Nat.le_refl _)
      replace t8 := t8.below hn10.below (Nat.le_refl _)
      have B10 := B9.trans (hn10.below.mono B9.size)
      clear B9
      have t10 := hn10.seg
      clear hn10
      clear t10
      go_wp2_with fail
      refine (twin_any _ _ _ (X0) _ (by omega) s0).mono ?_
      rintro e wa11 ⟨ca11, rfl, hn11⟩
      replace s0 := s0.below hn11.below (Nat.le_refl _)
      replace s1 := s1.below hn11.below (Nat.le_refl _)
      replace s2 := s2.below hn11.below (Nat.le_refl _)
      replace t8 := t8.below hn11.below (Nat.le_refl _)
      have B11 := B10.trans (hn11.below.mono B10.size)
      clear B10
      have t11 := hn11.seg
      clear hn11
      go_wp2_with fail
      refine (Div_is _ _ _ _ X0 _ _ G Pa Rz _ (by omega) (by omega) t11 (by omega) (by omega) t8 EA.out HRG.out).mono ?_
      rintro e wa12 ⟨aq12, ar12, rfl, hq12, hr12⟩
      replace s0 := s0.below hq12.below (Nat.le_refl _)
      replace s1 := s1.below hq12.below (Nat.le_refl _)
      replace s2 := s2.below hq12.below (Nat.le_refl _)
      replace t8 := t8.below hq12.below (Nat.le_refl _)
      replace t11 := t11.below hq12.below (Nat.le_refl _)
      have B12 := B11.trans (hq12.below.mono B11.size)
      clear B11
      clear hq12 hr12
      clear t11
      go_wp2_with fail
      refine (twin_any _ _ _ (X1) _ (by omega) s1).mono ?_
      rintro e wa13 ⟨ca13, rfl, hn13⟩
      replace s0 := s0.below hn13.below (Nat.le_refl _)
      replace s1 := s1.below hn13.below (Nat.le_refl _)
      replace s2 := s2.below hn13.below (Nat.le_refl _)
      replace t8 := t8.below hn13.below (Nat.le_refl _)
      have B13 := B12.trans (hn13.below.mono B12.size)
      clear B12
      have t13 := hn13.seg
      clear hn13
      go_wp2_with fail
      refine (Div_is _ _ _ _ X1 _ _ G Pb Rz _ (by omega) (by omega) t13 (by omega) (by omega) t8 EB.out HRG.out).mono ?_
      rintro e wa14 ⟨aq14, ar14, rfl, hq14, hr14⟩
      replace s0 := s0.below hq14.below (Nat.le_refl _)
      replace s1 := s1.below hq14.below (Nat.le_refl _)
      replace s2 := s2.below hq14.below (Nat.le_refl _)
      replace t8 := t8.below hq14.below (Nat.le_refl _)
      replace t13 := t13.below hq14.below (Nat.le_refl _)
      have B14 := B13.trans (hq14.below.mono B13.size)
      clear B13
      clear hq14 hr14
      clear t13
      go_wp2_with fail
      refine (twin_any _ _ _ (X0) _ (by omega) s0).mono ?_
      rintro e wa15 ⟨ca15, rfl, hn15⟩
      replace s0 := s0.below hn15.below (Nat.le_refl _)
      replace s1 := s1.below hn15.below (Nat.le_refl _)
      replace s2 := s2.below hn15.below (Nat.le_refl _)
      replace t8 := t8.below hn15.below (Nat.le_refl _)
      have B15 := B14.trans (hn15.below.mono B14.size)
      clear B14
      have t15 := hn15.seg
      clear hn15
      go_wp2_with fail
      refine (twin_any _ _ _ (X2) _ (by omega) s2).mono ?_
      rintro e wa16 ⟨ca16, rfl, hn16⟩
      replace s0 := s0.below hn16.below (Nat.le_refl _)
      replace s1 := s1.below hn16.below (Nat.le_refl _)
      replace s2 := s2.below hn16.below (Nat.le_refl _)
      replace t8 := t8.below hn16.below (Nat.le_refl _)
      replace t15 := t15.below hn16.below (Nat.le_refl _)
      have B16 := B15.trans (hn16.below.mono B15.size)
      clear B15
      have t16 := hn16.seg
      clear hn16
      go_wp2_with fail
      refine (Mul_is _ _ _ _ (X0) _ _ (X2) (Mac) _ (by omega) (by omega) t15 (by omega) (by omega) t16 E2.out).mono ?_
      rintro e wa17 ⟨ca17, rfl, hn17⟩
      replace s0 := s0.below hn17.below (Nat.le_refl _)
      replace s1 := s1.below hn17.below (Nat.le_refl _)
      replace s2 := s2.below hn17.below (Nat.le_refl _)
      replace t8 := t8.below hn17.below (Nat.le_refl _)
      replace t15 := t15.below hn17.below (Nat.le_refl _)
      replace t16 := t16.below hn17.below (Nat.le_refl _)
      have B17 := B16.trans (hn17.below.mono B16.size)
      clear B16
      have t17 := hn17.seg
      clear hn17
      clear t15
      clear t16
      go_wp2_with fail
      refine (twin_any _ _ _ (X1) _ (by omega) s1).mono ?_
      rintro e wa18 ⟨ca18, rfl, hn18⟩
      replace s0 := s0.below hn18.below (Nat.le_refl _)
      replace s1 := s1.below hn18.below (Nat.le_refl _)
      replace s2 := s2.below hn18.below (Nat.le_refl _)
      replace t8 := t8.below hn18.below (Nat.le_refl _)
      replace t17 := t17.below hn18.below (Nat.le_refl _)
      have B18 := B17.trans (hn18.below.mono B17.size)
      clear B17
      have t18 := hn18.seg
      clear hn18
      go_wp2_with fail
      refine (twin_any _ _ _ (X2) _ (by omega) s2).mono ?_
      rintro e wa19 ⟨ca19, rfl, hn19⟩
      replace s0 := s0.below hn19.below (Nat.le_refl _)
      replace s1 := s1.below hn19.below (Nat.le_refl _)
      replace s2 := s2.below hn19.below (Nat.le_refl _)
      replace t8 := t8.below hn19.below (Nat.le_refl _)
      replace t17 := t17.below hn19.below (Nat.le_refl _)
      replace t18 := t18.below hn19.below (Nat.le_refl _)
      have B19 := B18.trans (hn19.below.mono B18.size)
      clear B18
      have t19 := hn19.seg
      clear hn19
      go_wp2_with fail
      refine (Mul_is _ _ _ _ (X1) _ _ (X2) (Mbc) _ (by omega) (by omega) t18 (by omega) (by omega) t19 E3.out).mono ?_
      rintro e wa20 ⟨ca20, rfl, hn20⟩
      replace s0 := s0.below hn20.below (Nat.le_refl _)
      replace s1 := s1.below hn20.below (Nat.le_refl _)
      replace s2 := s2.below hn20.below (Nat.le_refl _)
      replace t8 := t8.below hn20.below (Nat.le_refl _)
      replace t17 := t17.below hn20.below (Nat.le_refl _)
      replace t18 := t18.below hn20.below (Nat.le_refl _)
      replace t19 := t19.below hn20.below (Nat.le_refl _)
      have B20 := B19.trans (hn20.below.mono B19.size)
      clear B19
      have t20 := hn20.seg
      clear hn20
      clear t18
      clear t19
      go_wp2_with fail
      refine (Gcd_is _ _ _ _ (Mac) _ _ (Mbc) (Mgc) _ (by omega) (by omega) t17 (by omega) (by omega) t20 E4.out).mono ?_
      rintro e wa21 ⟨ca21, rfl, hn21⟩
      replace s0 := s0.below hn21.below (Nat.le_refl _)
      replace s1 := s1.below hn21.below (Nat.le_refl _)
      replace s2 := s2.below hn21.below (Nat.le_refl _)
      replace t8 := t8.below hn21.below (Nat.le_refl _)
      replace t17 := t17.below hn21.below (Nat.le_refl _)
      replace t20 := t20.below hn21.below (Nat.le_refl _)
      have B21 := B20.trans (hn21.below.mono B20.size)
      clear B20
      have t21 := hn21.seg
      clear hn21
      clear t17
      clear t20
      go_wp2_with fail
      refine (twin_any _ _ _ (X2) _ (by omega) s2).mono ?_
      rintro e wa22 ⟨ca22, rfl, hn22⟩
      replace s0 := s0.below hn22.below (Nat.le_refl _)
      replace s1 := s1.below hn22.below (Nat.le_refl _)
      replace s2 := s2.below hn22.below (Nat.le_refl _)
      replace t8 := t8.below hn22.below (Nat.le_refl _)
      replace t21 := t21.below hn22.below (Nat.le_refl _)
      have B22 := B21.trans (hn22.below.mono B21.size)
      clear B21
      have t22 := hn22.seg
      clear hn22
      go_wp2_with fail
      refine (Mul_is _ _ _ _ (G) _ _ (X2) (Mgc) _ (by omega) (by omega) t8 (by omega) (by omega) t22 E5.out).mono ?_
      rintro e wa23 ⟨ca23, rfl, hn23⟩
      replace s0 := s0.below hn23.below (Nat.le_refl _)
      replace s1 := s1.below hn23.below (Nat.le_refl _)
      replace s2 := s2.below hn23.below (Nat.le_refl _)
      replace t8 := t8.below hn23.below (Nat.le_refl _)
      replace t21 := t21.below hn23.below (Nat.le_refl _)
      replace t22 := t22.below hn23.below (Nat.le_refl _)
      have B23 := B22.trans (hn23.below.mono B22.size)
      clear B22
      have t23 := hn23.seg
      clear hn23
      clear t22
      go_wp2_with fail
      refine (same_any _ _ _ _ (Mgc) _ _ (Mgc) _ (by omega) (by omega) t21 t23).mono ?_
      rintro e wa24 ⟨rfl, hd24⟩
      replace s0 := s0.dr hd24
      replace s1 := s1.dr hd24
      replace s2 := s2.dr hd24
      replace t8 := t8.dr hd24
      replace t21 := t21.dr hd24
      replace t23 := t23.dr hd24
      have B24 := B23.trans (hd24.below _)
      clear B23 hd24
      go_wp2
      go_ret
      exact ⟨rfl, B24⟩
    · go_enter Try.func3, Try.ntmps3
      have B0 : Below w.heap.size w w := Below.refl _ _
      have s0 := hS0
      have s1 := hS1
      have s2 := hS2
      go_wp2_with fail
      have hn1 := single_new w 4 26 4 (by omega) rfl
      replace s0 := s0.below hn1.below (Nat.le_refl _)
      replace s1 := s1.below hn1.below (Nat.le_refl _)
      replace s2 := s2.below hn1.below (Nat.le_refl _)
      have B1 := B0.trans (hn1.below.mono B0.size)
      clear B0
      have t1 := hn1.seg
      clear hn1
      go_wp2_with fail
      have hn2 := single_new (w.alloc (.cells #[.int .u32 4] 26)) 6 26 6 (by omega) rfl
      replace s0 := s0.below hn2.below (Nat.le_refl _)
      replace s1 := s1.below hn2.below (Nat.le_refl _)
      replace s2 := s2.below hn2.below (Nat.le_refl _)
      replace t1 := t1.below hn2.below (Nat.le_refl _)
      have B2 := B1.trans (hn2.below.mono B1.size)
      clear B1
      have t2 := hn2.seg
      clear hn2
      rw [World.size_alloc] at t2
      go_wp2_with fail
      refine (Gcd_is _ _ _ _ (4) _ _ (6) (2) _ (by omega) (by omega) t1 (by omega) (by omega) t2 E0.out).mono ?_
      rintro e wa3 ⟨ca3, rfl, hn3⟩
      replace s0 := s0.below hn3.below (Nat.le_refl _)
      replace s1 := s1.below hn3.below (Nat.le_refl _)
      replace s2 := s2.below hn3.below (Nat.le_refl _)
      replace t1 := t1.below hn3.below (Nat.le_refl _)
      replace t2 := t2.below hn3.below (Nat.le_refl _)
      have B3 := B2.trans (hn3.below.mono B2.size)
      clear B2
      have t3 := hn3.seg
      clear hn3
      clear t1
      clear t2
      go_wp2_with fail
      have hn4 := single_new wa3 2 26 2 (by omega) rfl
      replace s0 := s0.below hn4.below (Nat.le_refl _)
      replace s1 := s1.below hn4.below (Nat.le_refl _)
      replace s2 := s2.below hn4.below (Nat.le_refl _)
      replace t3 := t3.below hn4.below (Nat.le_refl _)
      have B4 := B3.trans (hn4.below.mono B3.size)
      clear B3
      have t4 := hn4.seg
      clear hn4
      go_wp2_with fail
      refine (same_any _ _ _ _ (2) _ _ (2) _ (by omega) (by omega) t3 t4).mono ?_
      rintro e wa5 ⟨rfl, hd5⟩
      replace s0 := s0.dr hd5
      replace s1 := s1.dr hd5
      replace s2 := s2.dr hd5
      replace t3 := t3.dr hd5
      replace t4 := t4.dr hd5
      have B5 := B4.trans (hd5.below _)
      clear B4 hd5
      clear t3
      clear t4
      go_wp2_with fail
      refine (twin_any _ _ _ (X0) _ (by omega) s0).mono ?_
      rintro e wa6 ⟨ca6, rfl, hn6⟩
      replace s0 := s0.below hn6.below (Nat.le_refl _)
      replace s1 := s1.below hn6.below (Nat.le_refl _)
      replace s2 := s2.below hn6.below (Nat.le_refl _)
      have B6 := B5.trans (hn6.below.mono B5.size)
      clear B5
      have t6 := hn6.seg
      clear hn6
      go_wp2_with fail
      refine (twin_any _ _ _ (X1) _ (by omega) s1).mono ?_
      rintro e wa7 ⟨ca7, rfl, hn7⟩
      replace s0 := s0.below hn7.below (Nat.le_refl _)
      replace s1 := s1.below hn7.below (Nat.le_refl _)
      replace s2 := s2.below hn7.below (Nat.le_refl _)
      replace t6 := t6.below hn7.below (Nat.le_refl _)
      have B7 := B6.trans (hn7.below.mono B6.size)
      clear B6
      have t7 := hn7.seg
      clear hn7
      go_wp2_with fail
      refine (Gcd_is _ _ _ _ (X0) _ _ (X1) (G) _ (by omega) (by omega) t6 (by omega) (by omega) t7 E1.out).mono ?_
      rintro e wa8 ⟨ca8, rfl, hn8⟩
      replace s0 := s0.below hn8.below (Nat.le_refl _)
      replace s1 := s1.below hn8.below (Nat.le_refl _)
      replace s2 := s2.below hn8.below (Nat.le_refl _)
      replace t6 := t6.below hn8.below (Nat.le_refl _)
      replace t7 := t7.below hn8.below (Nat.le_refl _)
      have B8 := B7.trans (hn8.below.mono B7.size)
      clear B7
      have t8 := hn8.seg
      clear hn8
      clear t6
      clear t7
      go_wp2_with fail
      refine (rNorm_any _ _ _ (X0) _ (by omega) s0).mono ?_
      rintro e wa9 ⟨ca9, rfl, hn9⟩
      replace s0 := s0.below hn9.below (Nat.le_refl _)
      replace s1 := s1.below hn9.below (Nat.le_refl _)
      replace s2 := s2.below hn9.below (Nat.le_refl _)
      replace t8 := t8.below hn9.below (Nat.le_refl _)
      have B9 := B8.trans (hn9.below.mono B8.size)
      clear B8
      have t9 := hn9.seg
      clear hn9
      clear t9
      go_wp2_with fail
      refine (rNorm_any _ _ _ (X1) _ (by omega) s1).mono ?_
      rintro e wa10 ⟨ca10, rfl, hn10⟩
      replace s0 := s0.below hn10.below (Nat.le_refl _)
      replace s1 := s1.below hn10.below (Nat.le_refl _)
      replace s2 := s2.below hn10.below (Nat.le_refl _)
      replace t8 := t8.below hn10.below (Nat.le_refl _)
      have B10 := B9.trans (hn10.below.mono B9.size)
      clear B9
      have t10 := hn10.seg
      clear hn10
      clear t10
      go_wp2_with fail
      refine (twin_any _ _ _ (X0) _ (by omega) s0).mono ?_
      rintro e wa11 ⟨ca11, rfl, hn11⟩
      replace s0 := s0.below hn11.below (Nat.le_refl _)
      replace s1 := s1.below hn11.below (Nat.le_refl _)
      replace s2 := s2.below hn11.below (Nat.le_refl _)
      replace t8 := t8.below hn11.below (Nat.le_refl _)
      have B11 := B10.trans (hn11.below.mono B10.size)
      clear B10
      have t11 := hn11.seg
      clear hn11
      go_wp2_with fail
      refine (twin_any _ _ _ (X2) _ (by omega) s2).mono ?_
      rintro e wa12 ⟨ca12, rfl, hn12⟩
      replace s0 := s0.below hn12.below (Nat.le_refl _)
      replace s1 := s1.below hn12.below (Nat.le_refl _)
      replace s2 := s2.below hn12.below (Nat.le_refl _)
      replace t8 := t8.below hn12.below (Nat.le_refl _)
      replace t11 := t11.below hn12.below (Nat.le_refl _)
      have B12 := B11.trans (hn12.below.mono B11.size)
      clear B11
      have t12 := hn12.seg
      clear hn12
      go_wp2_with fail
      refine (Mul_is _ _ _ _ (X0) _ _ (X2) (Mac) _ (by omega) (by omega) t11 (by omega) (by omega) t12 E2.out).mono ?_
      rintro e wa13 ⟨ca13, rfl, hn13⟩
      replace s0 := s0.below hn13.below (Nat.le_refl _)
      replace s1 := s1.below hn13.below (Nat.le_refl _)
      replace s2 := s2.below hn13.below (Nat.le_refl _)
      replace t8 := t8.below hn13.below (Nat.le_refl _)
      replace t11 := t11.below hn13.below (Nat.le_refl _)
      replace t12 := t12.below hn13.below (Nat.le_refl _)
      have B13 := B12.trans (hn13.below.mono B12.size)
      clear B12
      have t13 := hn13.seg
      clear hn13
      clear t11
      clear t12
      go_wp2_with fail
      refine (twin_any _ _ _ (X1) _ (by omega) s1).mono ?_
      rintro e wa14 ⟨ca14, rfl, hn14⟩
      replace s0 := s0.below hn14.below (Nat.le_refl _)
      replace s1 := s1.below hn14.below (Nat.le_refl _)
      replace s2 := s2.below hn14.below (Nat.le_refl _)
      replace t8 := t8.below hn14.below (Nat.le_refl _)
      replace t13 := t13.below hn14.below (Nat.le_refl _)
      have B14 := B13.trans (hn14.below.mono B13.size)
      clear B13
      have t14 := hn14.seg
      clear hn14
      go_wp2_with fail
      refine (twin_any _ _ _ (X2) _ (by omega) s2).mono ?_
      rintro e wa15 ⟨ca15, rfl, hn15⟩
      replace s0 := s0.below hn15.below (Nat.le_refl _)
      replace s1 := s1.below hn15.below (Nat.le_refl _)
      replace s2 := s2.below hn15.below (Nat.le_refl _)
      replace t8 := t8.below hn15.below (Nat.le_refl _)
      replace t13 := t13.below hn15.below (Nat.le_refl _)
      replace t14 := t14.below hn15.below (Nat.le_refl _)
      have B15 := B14.trans (hn15.below.mono B14.size)
      clear B14
      have t15 := hn15.seg
      clear hn15
      go_wp2_with fail
      refine (Mul_is _ _ _ _ (X1) _ _ (X2) (Mbc) _ (by omega) (by omega) t14 (by omega) (by omega) t15 E3.out).mono ?_
      rintro e wa16 ⟨ca16, rfl, hn16⟩
      replace s0 := s0.below hn16.below (Nat.le_refl _)
      replace s1 := s1.below hn16.below (Nat.le_refl _)
      replace s2 := s2.below hn16.below (Nat.le_refl _)
      replace t8 := t8.below hn16.below (Nat.le_refl _)
      replace t13 := t13.below hn16.below (Nat.le_refl _)
      replace t14 := t14.below hn16.below (Nat.le_refl _)
      replace t15 := t15.below hn16.below (Nat.le_refl _)
      have B16 := B15.trans (hn16.below.mono B15.size)
      clear B15
      have t16 := hn16.seg
      clear hn16
      clear t14
      clear t15
      go_wp2_with fail
      refine (Gcd_is _ _ _ _ (Mac) _ _ (Mbc) (Mgc) _ (by omega) (by omega) t13 (by omega) (by omega) t16 E4.out).mono ?_
      rintro e wa17 ⟨ca17, rfl, hn17⟩
      replace s0 := s0.below hn17.below (Nat.le_refl _)
      replace s1 := s1.below hn17.below (Nat.le_refl _)
      replace s2 := s2.below hn17.below (Nat.le_refl _)
      replace t8 := t8.below hn17.below (Nat.le_refl _)
      replace t13 := t13.below hn17.below (Nat.le_refl _)
      replace t16 := t16.below hn17.below (Nat.le_refl _)
      have B17 := B16.trans (hn17.below.mono B16.size)
      clear B16
      have t17 := hn17.seg
      clear hn17
      clear t13
      clear t16
      go_wp2_with fail
      refine (twin_any _ _ _ (X2) _ (by omega) s2).mono ?_
      rintro e wa18 ⟨ca18, rfl, hn18⟩
      replace s0 := s0.below hn18.below (Nat.le_refl _)
      replace s1 := s1.below hn18.below (Nat.le_refl _)
      replace s2 := s2.below hn18.below (Nat.le_refl _)
      replace t8 := t8.below hn18.below (Nat.le_refl _)
      replace t17 := t17.below hn18.below (Nat.le_refl _)
      have B18 := B17.trans (hn18.below.mono B17.size)
      clear B17
      have t18 := hn18.seg
      clear hn18
      go_wp2_with fail
      refine (Mul_is _ _ _ _ (G) _ _ (X2) (Mgc) _ (by omega) (by omega) t8 (by omega) (by omega) t18 E5.out).mono ?_
      rintro e wa19 ⟨ca19, rfl, hn19⟩
      replace s0 := s0.below hn19.below (Nat.le_refl _)
      replace s1 := s1.below hn19.below (Nat.le_refl _)
      replace s2 := s2.below hn19.below (Nat.le_refl _)
      replace t8 := t8.below hn19.below (Nat.le_refl _)
      replace t17 := t17.below hn19.below (Nat.le_refl _)
      replace t18 := t18.below hn19.below (Nat.le_refl _)
      have B19 := B18.trans (hn19.below.mono B18.size)
      clear B18
      have t19 := hn19.seg
      clear hn19
      clear t18
      go_wp2_with fail
      refine (same_any _ _ _ _ (Mgc) _ _ (Mgc) _ (by omega) (by omega) t17 t19).mono ?_
      rintro e wa20 ⟨rfl, hd20⟩
      replace s0 := s0.dr hd20
      replace s1 := s1.dr hd20
      replace s2 := s2.dr hd20
      replace t8 := t8.dr hd20
      replace t17 := t17.dr hd20
      replace t19 := t19.dr hd20
      have B20 := B19.trans (hd20.below _)
      clear B19 hd20
      go_wp2
      go_ret
      exact ⟨rfl, B20⟩

theorem contract (H : Type) (enc : TypeId × Value → H) (W : World) (base : Nat) (args : Array Value) (ds gs : List (DataW H)) (before : List MemPlace)
    (hval : ∀ (j : Nat) t v, Try.f3.params[j]? = some t → args[j]? = some v → Value.okWide Try.prog W .any base t v)
    (hW : DataW.Whole enc Try.prog Try.f3.params.toList Rows.natGreatestSpec.vars false W args.toList ds gs before)
    (hsz : (DataW.weightsEach Try.prog (Try.f3.params.toList ++ Rows.natGreatestSpec.plain.varTypes Try.prog) (ds ++ gs)).all (· ≤ reachBytes) = true) :
    Calls Try.prog 3 args W fun e W' => ∃ v, e = .returned v ∧ Rows.natGreatestSpec.post enc Try.prog Try.f3 false true false false W args v W' := by
  have hW' := hW
  obtain ⟨p, q, hA0, hV, rfl, hfz, hnd⟩ := hW
  have hA : DataW.TrodAll enc Try.prog W 0 (fun _ => true) true Try.f3.params.toList args.toList ds p := hA0
  rw [Try.params3] at hA hval hsz
  obtain ⟨v0, vs0, d0, ds0, p0, q0, hargs, rfl, rfl, h0, r0⟩ := trodAll_cons hA
  obtain ⟨v1, vs1, d1, ds1, p1, q1, rfl, rfl, rfl, h1, r1⟩ := trodAll_cons r0
  obtain ⟨v2, vs2, d2, ds2, p2, q2, rfl, rfl, rfl, h2, r2⟩ := trodAll_cons r1
  obtain ⟨rfl, rfl, rfl⟩ := trodAll_nil r2
  obtain rfl : args = #[v0, v1, v2] := by cases args; simp_all
  obtain ⟨rfl, rfl⟩ := trodVars_none hV
  obtain ⟨a0, len0, cap0, rfl⟩ := okWide_slice Try.underlying22 (hval 0 22 v0 rfl rfl)
  have lt0 : ∀ x ∈ p0, x.block < W.heap.size := by obtain ⟨m, hm⟩ := h0; exact DataW.trod_lt m _ _ _ hm
  obtain ⟨X0, hS0, hc0, hb0, hu0⟩ := open_nat Try.underlying22 h0 (fun elems spare h => sized_slice hsz (j := 0) (t := 22) (e := 26) rfl (by rw [h]; rfl) Try.underlying22)
  obtain ⟨a1, len1, cap1, rfl⟩ := okWide_slice Try.underlying22 (hval 1 22 v1 rfl rfl)
  have lt1 : ∀ x ∈ p1, x.block < W.heap.size := by obtain ⟨m, hm⟩ := h1; exact DataW.trod_lt m _ _ _ hm
  obtain ⟨X1, hS1, hc1, hb1, hu1⟩ := open_nat Try.underlying22 h1 (fun elems spare h => sized_slice hsz (j := 1) (t := 22) (e := 26) rfl (by rw [h]; rfl) Try.underlying22)
  obtain ⟨a2, len2, cap2, rfl⟩ := okWide_slice Try.underlying22 (hval 2 22 v2 rfl rfl)
  have lt2 : ∀ x ∈ p2, x.block < W.heap.size := by obtain ⟨m, hm⟩ := h2; exact DataW.trod_lt m _ _ _ hm
  obtain ⟨X2, hS2, hc2, hb2, hu2⟩ := open_nat Try.underlying22 h2 (fun elems spare h => sized_slice hsz (j := 2) (t := 22) (e := 26) rfl (by rw [h]; rfl) Try.underlying22)
  clear hA0
  simp only [List.append_nil] at hW'
  refine (walk a0 len0 cap0 X0 a1 len1 cap1 X1 a2 len2 cap2 X2 W hS0 hc0 hb0 hS1 hc1 hb1 hS2 hc2 hb2).mono fun e W' ⟨he, bel⟩ => ?_
  subst he
  exact ⟨_, rfl, _, _, _, [], _, [], hW', trodAll_mk1 (shut_bool Try.underlying4 _), (trodAll_cons_mk (Below.trod laidOut (by kernel_rfl) (of_decide_eq_true (by kernel_rfl)) h0 bel lt0) (trodAll_cons_mk (Below.trod laidOut (by kernel_rfl) (of_decide_eq_true (by kernel_rfl)) h1 bel lt1) (trodAll_cons_mk (Below.trod laidOut (by kernel_rfl) (of_decide_eq_true (by kernel_rfl)) h2 bel lt2) trodAll_mk0))), rfl, bel.frame _, fun h => by cases h⟩

set_option maxRecDepth 100000 in
theorem lifted (os : Os) (started : os.Started) (H : Type) (enc : TypeId × Value → H) :
    ReturnsInHanded {} Try.checked os 3 .any (Rows.natGreatestSpec.pre6 enc Try.prog Try.f3 Rows.natGreatestRow.domain false) (Rows.natGreatestSpec.post enc Try.prog Try.f3 false true false false) := by
  refine returnsInHanded_of_change_sized (C := Try.checked) own started (by kernel_rfl) Try.func3
    (ChangeSpec.witness6 (enc := enc) (C := Try.checked) false ⟨#[], #[.slice none 0 0, .slice none 0 0, .slice none 0 0], []⟩ 8 (by kernel_rfl) (by kernel_rfl) (by kernel_rfl) (by kernel_rfl)) ?_
  intro W base args ds gs before hval hW _ hsz _
  exact contract H enc W base args ds gs before hval hW hsz

theorem over : Rows.natGreatestRow.holds Try.pinned (OpenSpec.ofChange Rows.natGreatestSpec) :=
  OpenClaim.holds_of_wide 3 Try.f3 rfl rfl rfl rfl rfl rfl rfl ⟨rfl, rfl, rfl, rfl, rfl⟩ rfl rfl rfl rfl rfl (by kernel_rfl) Try.func3 (by kernel_rfl)
    (of_decide_eq_true (by kernel_rfl)) (by unfold Func.isWrapper; first | (rw [if_pos (by decide +kernel)]; kernel_rfl) | (rw [if_neg (by decide +kernel)]; exact ⟨rfl, rfl⟩))
    (fun os started H enc _ => lifted os started H enc)

end Go.Proofs.Ytkbjfdfooompbac.natGreatest
namespace Go.Proofs.Ytkbjfdfooompbac
theorem natGreatest_holds : Rows.NatGreatestSaid := natGreatest.over
#print axioms natGreatest_holds
end Go.Proofs.Ytkbjfdfooompbac
