/-
  NatOrder: Cmp is a total order that Add keeps.
-/
import Derived.Test.YtkbjfdfooompbacW4
import Derived.Test.YtkbjfdfooompbacOpen
namespace Go.Proofs.Ytkbjfdfooompbac.natOrder
open Go.ChangeShapes Go.WideShapes Go.ChangeAt Go.RowKit Go.Proofs.Ytkbjfdfooompbac
set_option linter.unusedVariables false

theorem cmp_one : cmpI 1 4294967296 = -1 := by simp [cmpI]
theorem cmp_swap (X Y : Nat) : cmpI X Y = -cmpI Y X := by
  unfold cmpI
  by_cases h : X < Y
  · rw [if_pos h, if_neg (by omega), if_neg (by omega)]
  · by_cases h2 : X = Y
    · simp [h2]
    · rw [if_neg h, if_neg h2, if_pos (by omega)]; omega
theorem cmp_add (X Y Z : Nat) : cmpI (X + Z) (Y + Z) = cmpI X Y := by
  unfold cmpI
  by_cases h : X < Y
  · rw [if_pos h, if_pos (by omega)]
  · by_cases h2 : X = Y
    · simp [h2]
    · rw [if_neg h, if_neg h2, if_neg (by omega), if_neg (by omega)]
theorem cmp_trans {X Y Z : Nat} (h : cmpI X Y = cmpI Y Z) : cmpI X Z = cmpI X Y := by
  unfold cmpI at *
  by_cases h1 : X < Y
  · rw [if_pos h1] at h ⊢
    by_cases h2 : Y < Z
    · rw [if_pos (by omega)]
    · rw [if_neg h2] at h; split at h <;> simp at h
  · rw [if_neg h1] at h ⊢
    by_cases h2 : X = Y
    · subst h2; rw [h]
    · rw [if_neg h2] at h ⊢
      by_cases h3 : Y < Z
      · rw [if_pos h3] at h; omega
      · rw [if_neg h3] at h
        by_cases h4 : Y = Z
        · rw [if_pos h4] at h; omega
        · rw [if_neg (by omega), if_neg (by omega)]
theorem cmp_zero {X Y : Nat} : (cmpI X Y == 0) = sameB (ln X) (ln Y) X Y := by
  unfold cmpI sameB
  by_cases h : X = Y
  · simp [h]
  · by_cases h2 : X < Y
    · simp [h2, h]
    · simp [h2, h]
theorem two_new (w : World) (t : TypeId) (X a b : Nat) (hX : X < 18446744073709551616) (ha : dg X 0 = a) (hb : dg X 1 = b) :
    New w (w.alloc (.cells #[.int .u32 (a : Nat), .int .u32 (b : Nat)] t)) (some ⟨w.heap.size, 0, none⟩) X 2 := pair_new w X t _ _ hX (by rw [ha]) (by rw [hb])

theorem ret_true {a : Bool} (h : a = true) : Ending.returned (.bool a) = .returned (.bool true) := by rw [h]

set_option maxHeartbeats 4000000 in
theorem walk (a0 : Option Addr) (len0 cap0 X0 : Nat) (a1 : Option Addr) (len1 cap1 X1 : Nat) (a2 : Option Addr) (len2 cap2 X2 : Nat) (w : World) (hS0 : Seg w a0 X0 len0) (hc : len0 ≤ cap0) (hb : len0 ≤ 35184372087808) (hS1 : Seg w a1 X1 len1) (hc1 : len1 ≤ cap1) (hb1 : len1 ≤ 35184372087808) (hS2 : Seg w a2 X2 len2) (hc2 : len2 ≤ cap2) (hb2 : len2 ≤ 35184372087808) :
    Calls Try.prog 4 #[.slice a0 len0 cap0, .slice a1 len1 cap1, .slice a2 len2 cap2] w fun e w' => e = .returned (.bool true) ∧ Below w.heap.size w w' := by
  have hlA : ln X0 ≤ 70368744177664 := by have := ln_le_of_lt hS0.1; omega
  have hlB : ln X1 ≤ 70368744177664 := by have := ln_le_of_lt hS1.1; omega
  have hlsA : ln (X0 + X2) ≤ 70368744177663 := ln_sum hS0.1 hS2.1 (by omega) (by omega)
  have hlsB : ln (X1 + X2) ≤ 70368744177663 := ln_sum hS1.1 hS2.1 (by omega) (by omega)
  have h1 := cmp_one
  have hz : (cmpI X0 X1 == 0) = sameB (ln X0) (ln X1) X0 X1 := cmp_zero
  have H0 : Hid (cmpI X0 X1 = -cmpI X1 X0) := cmp_swap X0 X1
  have hswb : (cmpI X0 X1 != -cmpI X1 X0) = false := by rw [H0.out]; simp
  have hadd : (cmpI (X0 + X2) (X1 + X2) == cmpI X0 X1) = true := by rw [cmp_add]; simp
  have hzb : ((cmpI X0 X1 == 0) == sameB (ln X0) (ln X1) X0 X1) = true := by rw [hz]; simp
  have hbd1 : -1 ≤ cmpI X1 X0 ∧ cmpI X1 X0 ≤ 1 := by unfold cmpI; split; omega; split <;> omega
  have hbd0 : -1 ≤ cmpI X0 X1 ∧ cmpI X0 X1 ≤ 1 := by unfold cmpI; split; omega; split <;> omega
  clear hz
  by_cases ht : cmpI X0 X1 = cmpI X1 X2
  · have htb : (cmpI X0 X1 == cmpI X1 X2) = true := by rw [ht]; simp
    have htc : (cmpI X0 X2 != cmpI X0 X1) = false := by rw [cmp_trans ht]; simp
    clear ht
    go_enter Try.func4, Try.ntmps4
    have B0 : Below w.heap.size w w := Below.refl _ _
    have s0 := hS0
    have s1 := hS1
    have s2 := hS2
    go_wp2_with fail
    have hn1 := pair_new w 1 26 1 0 (by omega) (by rw [dg0]; rfl) (by rw [dg1]; rfl)
    replace s0 := s0.below hn1.below (Nat.le_refl _)
    replace s1 := s1.below hn1.below (Nat.le_refl _)
    replace s2 := s2.below hn1.below (Nat.le_refl _)
    have B1 := B0.trans (hn1.below.mono B0.size)
    clear B0
    have t1 := hn1.seg
    clear hn1
    have hn2 := pair_new (w.alloc (.cells #[.int .u32 1, .int .u32 0] 26)) 4294967296 26 0 1 (by omega) (by rw [dg0]; rfl) (by rw [dg1]; rfl)
    replace t1 := t1.below hn2.below (Nat.le_refl _)
    replace s0 := s0.below hn2.below (Nat.le_refl _)
    replace s1 := s1.below hn2.below (Nat.le_refl _)
    replace s2 := s2.below hn2.below (Nat.le_refl _)
    have B2 := B1.trans (hn2.below.mono B1.size)
    clear B1
    have t2 := hn2.seg
    rw [World.size_alloc] at t2
    clear hn2
    refine (Cmp_any _ _ _ _ 1 _ _ 4294967296 _ (by omega) (by omega) t1 (by omega) (by omega) t2).mono ?_
    rintro e wa3 ⟨rfl, hd3⟩
    replace s0 := s0.dr hd3
    replace s1 := s1.dr hd3
    replace s2 := s2.dr hd3
    have B3 := B2.trans (hd3.below _)
    clear B2 hd3 t1 t2
    go_wp2_with fail
    refine (twin_any _ _ _ (X0) _ (by omega) s0).mono ?_
    rintro e wa4 ⟨ca4, rfl, hn4⟩
    replace s0 := s0.below hn4.below (Nat.le_refl _)
    replace s1 := s1.below hn4.below (Nat.le_refl _)
    replace s2 := s2.below hn4.below (Nat.le_refl _)
    have B4 := B3.trans (hn4.below.mono B3.size)
    clear B3
    have t4 := hn4.seg
    clear hn4
    go_wp2_with fail
    refine (twin_any _ _ _ (X1) _ (by omega) s1).mono ?_
    rintro e wa5 ⟨ca5, rfl, hn5⟩
    replace s0 := s0.below hn5.below (Nat.le_refl _)
    replace s1 := s1.below hn5.below (Nat.le_refl _)
    replace s2 := s2.below hn5.below (Nat.le_refl _)
    replace t4 := t4.below hn5.below (Nat.le_refl _)
    have B5 := B4.trans (hn5.below.mono B4.size)
    clear B4
    have t5 := hn5.seg
    clear hn5
    go_wp2_with fail
    refine (Cmp_any _ _ _ _ X0 _ _ X1 _ (by omega) (by omega) t4 (by omega) (by omega) t5).mono ?_
    rintro e wa6 ⟨rfl, hd6⟩
    replace s0 := s0.dr hd6
    replace s1 := s1.dr hd6
    replace s2 := s2.dr hd6
    replace t4 := t4.dr hd6
    replace t5 := t5.dr hd6
    have B6 := B5.trans (hd6.below _)
    clear B5 hd6
    clear t4
    clear t5
    go_wp2_with fail
    refine (twin_any _ _ _ (X1) _ (by omega) s1).mono ?_
    rintro e wa7 ⟨ca7, rfl, hn7⟩
    replace s0 := s0.below hn7.below (Nat.le_refl _)
    replace s1 := s1.below hn7.below (Nat.le_refl _)
    replace s2 := s2.below hn7.below (Nat.le_refl _)
    have B7 := B6.trans (hn7.below.mono B6.size)
    clear B6
    have t7 := hn7.seg
    clear hn7
    go_wp2_with fail
    refine (twin_any _ _ _ (X0) _ (by omega) s0).mono ?_
    rintro e wa8 ⟨ca8, rfl, hn8⟩
    replace s0 := s0.below hn8.below (Nat.le_refl _)
    replace s1 := s1.below hn8.below (Nat.le_refl _)
    replace s2 := s2.below hn8.below (Nat.le_refl _)
    replace t7 := t7.below hn8.below (Nat.le_refl _)
    have B8 := B7.trans (hn8.below.mono B7.size)
    clear B7
    have t8 := hn8.seg
    clear hn8
    go_wp2_with fail
    refine (Cmp_any _ _ _ _ X1 _ _ X0 _ (by omega) (by omega) t7 (by omega) (by omega) t8).mono ?_
    rintro e wa9 ⟨rfl, hd9⟩
    replace s0 := s0.dr hd9
    replace s1 := s1.dr hd9
    replace s2 := s2.dr hd9
    replace t7 := t7.dr hd9
    replace t8 := t8.dr hd9
    have B9 := B8.trans (hd9.below _)
    clear B8 hd9
    clear t7
    clear t8
    go_wp2_with fail
    refine (rNorm_any _ _ _ (X0) _ (by omega) s0).mono ?_
    rintro e wa10 ⟨ca10, rfl, hn10⟩
    replace s0 := s0.below hn10.below (Nat.le_refl _)
    replace s1 := s1.below hn10.below (Nat.le_refl _)
    replace s2 := s2.below hn10.below (Nat.le_refl _)
    have B10 := B9.trans (hn10.below.mono B9.size)
    clear B9
    have t10 := hn10.seg
    clear hn10
    go_wp2_with fail
    refine (rNorm_any _ _ _ (X1) _ (by omega) s1).mono ?_
    rintro e wa11 ⟨ca11, rfl, hn11⟩
    replace s0 := s0.below hn11.below (Nat.le_refl _)
    replace s1 := s1.below hn11.below (Nat.le_refl _)
    replace s2 := s2.below hn11.below (Nat.le_refl _)
    replace t10 := t10.below hn11.below (Nat.le_refl _)
    have B11 := B10.trans (hn11.below.mono B10.size)
    clear B10
    have t11 := hn11.seg
    clear hn11
    go_wp2_with fail
    refine (same_any _ _ _ _ (X0) _ _ (X1) _ (by omega) (by omega) t10 t11).mono ?_
    rintro e wa12 ⟨rfl, hd12⟩
    replace s0 := s0.dr hd12
    replace s1 := s1.dr hd12
    replace s2 := s2.dr hd12
    replace t10 := t10.dr hd12
    replace t11 := t11.dr hd12
    have B12 := B11.trans (hd12.below _)
    clear B11 hd12
    clear t10
    clear t11
    go_wp2_with fail
    refine (twin_any _ _ _ (X1) _ (by omega) s1).mono ?_
    rintro e wa13 ⟨ca13, rfl, hn13⟩
    replace s0 := s0.below hn13.below (Nat.le_refl _)
    replace s1 := s1.below hn13.below (Nat.le_refl _)
    replace s2 := s2.below hn13.below (Nat.le_refl _)
    have B13 := B12.trans (hn13.below.mono B12.size)
    clear B12
    have t13 := hn13.seg
    clear hn13
    go_wp2_with fail
    refine (twin_any _ _ _ (X2) _ (by omega) s2).mono ?_
    rintro e wa14 ⟨ca14, rfl, hn14⟩
    replace s0 := s0.below hn14.below (Nat.le_refl _)
    replace s1 := s1.below hn14.below (Nat.le_refl _)
    replace s2 := s2.below hn14.below (Nat.le_refl _)
    replace t13 := t13.below hn14.below (Nat.le_refl _)
    have B14 := B13.trans (hn14.below.mono B13.size)
    clear B13
    have t14 := hn14.seg
    clear hn14
    go_wp2_with fail
    refine (Cmp_any _ _ _ _ X1 _ _ X2 _ (by omega) (by omega) t13 (by omega) (by omega) t14).mono ?_
    rintro e wa15 ⟨rfl, hd15⟩
    replace s0 := s0.dr hd15
    replace s1 := s1.dr hd15
    replace s2 := s2.dr hd15
    replace t13 := t13.dr hd15
    replace t14 := t14.dr hd15
    have B15 := B14.trans (hd15.below _)
    clear B14 hd15
    clear t13
    clear t14
    go_wp2_with fail
    refine (twin_any _ _ _ (X0) _ (by omega) s0).mono ?_
    rintro e wa16 ⟨ca16, rfl, hn16⟩
    replace s0 := s0.below hn16.below (Nat.le_refl _)
    replace s1 := s1.below hn16.below (Nat.le_refl _)
    replace s2 := s2.below hn16.below (Nat.le_refl _)
    have B16 := B15.trans (hn16.below.mono B15.size)
    clear B15
    have t16 := hn16.seg
    clear hn16
    go_wp2_with fail
    refine (twin_any _ _ _ (X2) _ (by omega) s2).mono ?_
    rintro e wa17 ⟨ca17, rfl, hn17⟩
    replace s0 := s0.below hn17.below (Nat.le_refl _)
    replace s1 := s1.below hn17.below (Nat.le_refl _)
    replace s2 := s2.below hn17.below (Nat.le_refl _)
    replace t16 := t16.below hn17.below (Nat.le_refl _)
    have B17 := B16.trans (hn17.below.mono B16.size)
    clear B16
    have t17 := hn17.seg
    clear hn17
    go_wp2_with fail
    refine (Cmp_any _ _ _ _ X0 _ _ X2 _ (by omega) (by omega) t16 (by omega) (by omega) t17).mono ?_
    rintro e wa18 ⟨rfl, hd18⟩
    replace s0 := s0.dr hd18
    replace s1 := s1.dr hd18
    replace s2 := s2.dr hd18
    replace t16 := t16.dr hd18
    replace t17 := t17.dr hd18
    have B18 := B17.trans (hd18.below _)
    clear B17 hd18
    clear t16
    clear t17
    go_wp2_with fail
    refine (twin_any _ _ _ (X0) _ (by omega) s0).mono ?_
    rintro e wa19 ⟨ca19, rfl, hn19⟩
    replace s0 := s0.below hn19.below (Nat.le_refl _)
    replace s1 := s1.below hn19.below (Nat.le_refl _)
    replace s2 := s2.below hn19.below (Nat.le_refl _)
    have B19 := B18.trans (hn19.below.mono B18.size)
    clear B18
    have t19 := hn19.seg
    clear hn19
    go_wp2_with fail
    refine (twin_any _ _ _ (X2) _ (by omega) s2).mono ?_
    rintro e wa20 ⟨ca20, rfl, hn20⟩
    replace s0 := s0.below hn20.below (Nat.le_refl _)
    replace s1 := s1.below hn20.below (Nat.le_refl _)
    replace s2 := s2.below hn20.below (Nat.le_refl _)
    replace t19 := t19.below hn20.below (Nat.le_refl _)
    have B20 := B19.trans (hn20.below.mono B19.size)
    clear B19
    have t20 := hn20.seg
    clear hn20
    go_wp2_with fail
    refine (Add_any _ _ _ _ (X0) _ _ (X2) _ (by omega) (by omega) t19 (by omega) (by omega) t20).mono ?_
    rintro e wa21 ⟨ca21, rfl, hn21⟩
    replace s0 := s0.below hn21.below (Nat.le_refl _)
    replace s1 := s1.below hn21.below (Nat.le_refl _)
    replace s2 := s2.below hn21.below (Nat.le_refl _)
    replace t19 := t19.below hn21.below (Nat.le_refl _)
    replace t20 := t20.below hn21.below (Nat.le_refl _)
    have B21 := B20.trans (hn21.below.mono B20.size)
    clear B20
    have t21 := hn21.seg
    clear hn21
    clear t19
    clear t20
    go_wp2_with fail
    refine (twin_any _ _ _ (X1) _ (by omega) s1).mono ?_
    rintro e wa22 ⟨ca22, rfl, hn22⟩
    replace s0 := s0.below hn22.below (Nat.le_refl _)
    replace s1 := s1.below hn22.below (Nat.le_refl _)
    replace s2 := s2.below hn22.below (Nat.le_refl _)
    replace t21 := t21.below hn22.below (Nat.le_refl _)
    have B22 := B21.trans (hn22.below.mono B21.size)
    clear B21
    have t22 := hn22.seg
    clear hn22
    go_wp2_with fail
    refine (twin_any _ _ _ (X2) _ (by omega) s2).mono ?_
    rintro e wa23 ⟨ca23, rfl, hn23⟩
    replace s0 := s0.below hn23.below (Nat.le_refl _)
    replace s1 := s1.below hn23.below (Nat.le_refl _)
    replace s2 := s2.below hn23.below (Nat.le_refl _)
    replace t21 := t21.below hn23.below (Nat.le_refl _)
    replace t22 := t22.below hn23.below (Nat.le_refl _)
    have B23 := B22.trans (hn23.below.mono B22.size)
    clear B22
    have t23 := hn23.seg
    clear hn23
    go_wp2_with fail
    refine (Add_any _ _ _ _ (X1) _ _ (X2) _ (by omega) (by omega) t22 (by omega) (by omega) t23).mono ?_
    rintro e wa24 ⟨ca24, rfl, hn24⟩
    replace s0 := s0.below hn24.below (Nat.le_refl _)
    replace s1 := s1.below hn24.below (Nat.le_refl _)
    replace s2 := s2.below hn24.below (Nat.le_refl _)
    replace t21 := t21.below hn24.below (Nat.le_refl _)
    replace t22 := t22.below hn24.below (Nat.le_refl _)
    replace t23 := t23.below hn24.below (Nat.le_refl _)
    have B24 := B23.trans (hn24.below.mono B23.size)
    clear B23
    have t24 := hn24.seg
    clear hn24
    clear t22
    clear t23
    go_wp2_with fail
    refine (Cmp_any _ _ _ _ (X0 + X2) _ _ (X1 + X2) _ (by omega) (by omega) t21 (by omega) (by omega) t24).mono ?_
    rintro e wa25 ⟨rfl, hd25⟩
    replace s0 := s0.dr hd25
    replace s1 := s1.dr hd25
    replace s2 := s2.dr hd25
    replace t21 := t21.dr hd25
    replace t24 := t24.dr hd25
    have B25 := B24.trans (hd25.below _)
    clear B24 hd25
    go_wp2
    go_ret
    exact ⟨rfl, B25⟩
  · have htb : (cmpI X0 X1 == cmpI X1 X2) = false := by rw [beq_eq_false_iff_ne]; exact ht
    clear ht
    go_enter Try.func4, Try.ntmps4
    have B0 : Below w.heap.size w w := Below.refl _ _
    have s0 := hS0
    have s1 := hS1
    have s2 := hS2
    go_wp2_with fail
    have hn1 := pair_new w 1 26 1 0 (by omega) (by rw [dg0]; rfl) (by rw [dg1]; rfl)
    replace s0 := s0.below hn1.below (Nat.le_refl _)
    replace s1 := s1.below hn1.below (Nat.le_refl _)
    replace s2 := s2.below hn1.below (Nat.le_refl _)
    have B1 := B0.trans (hn1.below.mono B0.size)
    clear B0
    have t1 := hn1.seg
    clear hn1
    have hn2 := pair_new (w.alloc (.cells #[.int .u32 1, .int .u32 0] 26)) 4294967296 26 0 1 (by omega) (by rw [dg0]; rfl) (by rw [dg1]; rfl)
    replace t1 := t1.below hn2.below (Nat.le_refl _)
    replace s0 := s0.below hn2.below (Nat.le_refl _)
    replace s1 := s1.below hn2.below (Nat.le_refl _)
    replace s2 := s2.below hn2.below (Nat.le_refl _)
    have B2 := B1.trans (hn2.below.mono B1.size)
    clear B1
    have t2 := hn2.seg
    rw [World.size_alloc] at t2
    clear hn2
    refine (Cmp_any _ _ _ _ 1 _ _ 4294967296 _ (by omega) (by omega) t1 (by omega) (by omega) t2).mono ?_
    rintro e wa3 ⟨rfl, hd3⟩
    replace s0 := s0.dr hd3
    replace s1 := s1.dr hd3
    replace s2 := s2.dr hd3
    have B3 := B2.trans (hd3.below _)
    clear B2 hd3 t1 t2
    go_wp2_with fail
    refine (twin_any _ _ _ (X0) _ (by omega) s0).mono ?_
    rintro e wa4 ⟨ca4, rfl, hn4⟩
    replace s0 := s0.below hn4.below (Nat.le_refl _)
    replace s1 := s1.below hn4.below (Nat.le_refl _)
    replace s2 := s2.below hn4.below (Nat.le_refl _)
    have B4 := B3.trans (hn4.below.mono B3.size)
    clear B3
    have t4 := hn4.seg
    clear hn4
    go_wp2_with fail
    refine (twin_any _ _ _ (X1) _ (by omega) s1).mono ?_
    rintro e wa5 ⟨ca5, rfl, hn5⟩
    replace s0 := s0.below hn5.below (Nat.le_refl _)
    replace s1 := s1.below hn5.below (Nat.le_refl _)
    replace s2 := s2.below hn5.below (Nat.le_refl _)
    replace t4 := t4.below hn5.below (Nat.le_refl _)
    have B5 := B4.trans (hn5.below.mono B4.size)
    clear B4
    have t5 := hn5.seg
    clear hn5
    go_wp2_with fail
    refine (Cmp_any _ _ _ _ X0 _ _ X1 _ (by omega) (by omega) t4 (by omega) (by omega) t5).mono ?_
    rintro e wa6 ⟨rfl, hd6⟩
    replace s0 := s0.dr hd6
    replace s1 := s1.dr hd6
    replace s2 := s2.dr hd6
    replace t4 := t4.dr hd6
    replace t5 := t5.dr hd6
    have B6 := B5.trans (hd6.below _)
    clear B5 hd6
    clear t4
    clear t5
    go_wp2_with fail
    refine (twin_any _ _ _ (X1) _ (by omega) s1).mono ?_
    rintro e wa7 ⟨ca7, rfl, hn7⟩
    replace s0 := s0.below hn7.below (Nat.le_refl _)
    replace s1 := s1.below hn7.below (Nat.le_refl _)
    replace s2 := s2.below hn7.below (Nat.le_refl _)
    have B7 := B6.trans (hn7.below.mono B6.size)
    clear B6
    have t7 := hn7.seg
    clear hn7
    go_wp2_with fail
    refine (twin_any _ _ _ (X0) _ (by omega) s0).mono ?_
    rintro e wa8 ⟨ca8, rfl, hn8⟩
    replace s0 := s0.below hn8.below (Nat.le_refl _)
    replace s1 := s1.below hn8.below (Nat.le_refl _)
    replace s2 := s2.below hn8.below (Nat.le_refl _)
    replace t7 := t7.below hn8.below (Nat.le_refl _)
    have B8 := B7.trans (hn8.below.mono B7.size)
    clear B7
    have t8 := hn8.seg
    clear hn8
    go_wp2_with fail
    refine (Cmp_any _ _ _ _ X1 _ _ X0 _ (by omega) (by omega) t7 (by omega) (by omega) t8).mono ?_
    rintro e wa9 ⟨rfl, hd9⟩
    replace s0 := s0.dr hd9
    replace s1 := s1.dr hd9
    replace s2 := s2.dr hd9
    replace t7 := t7.dr hd9
    replace t8 := t8.dr hd9
    have B9 := B8.trans (hd9.below _)
    clear B8 hd9
    clear t7
    clear t8
    go_wp2_with fail
    refine (rNorm_any _ _ _ (X0) _ (by omega) s0).mono ?_
    rintro e wa10 ⟨ca10, rfl, hn10⟩
    replace s0 := s0.below hn10.below (Nat.le_refl _)
    replace s1 := s1.below hn10.below (Nat.le_refl _)
    replace s2 := s2.below hn10.below (Nat.le_refl _)
    have B10 := B9.trans (hn10.below.mono B9.size)
    clear B9
    have t10 := hn10.seg
    clear hn10
    go_wp2_with fail
    refine (rNorm_any _ _ _ (X1) _ (by omega) s1).mono ?_
    rintro e wa11 ⟨ca11, rfl, hn11⟩
    replace s0 := s0.below hn11.below (Nat.le_refl _)
    replace s1 := s1.below hn11.below (Nat.le_refl _)
    replace s2 := s2.below hn11.below (Nat.le_refl _)
    replace t10 := t10.below hn11.below (Nat.le_refl _)
    have B11 := B10.trans (hn11.below.mono B10.size)
    clear B10
    have t11 := hn11.seg
    clear hn11
    go_wp2_with fail
    refine (same_any _ _ _ _ (X0) _ _ (X1) _ (by omega) (by omega) t10 t11).mono ?_
    rintro e wa12 ⟨rfl, hd12⟩
    replace s0 := s0.dr hd12
    replace s1 := s1.dr hd12
    replace s2 := s2.dr hd12
    replace t10 := t10.dr hd12
    replace t11 := t11.dr hd12
    have B12 := B11.trans (hd12.below _)
    clear B11 hd12
    clear t10
    clear t11
    go_wp2_with fail
    refine (twin_any _ _ _ (X1) _ (by omega) s1).mono ?_
    rintro e wa13 ⟨ca13, rfl, hn13⟩
    replace s0 := s0.below hn13.below (Nat.le_refl _)
    replace s1 := s1.below hn13.below (Nat.le_refl _)
    replace s2 := s2.below hn13.below (Nat.le_refl _)
    have B13 := B12.trans (hn13.below.mono B12.size)
    clear B12
    have t13 := hn13.seg
    clear hn13
    go_wp2_with fail
    refine (twin_any _ _ _ (X2) _ (by omega) s2).mono ?_
    rintro e wa14 ⟨ca14, rfl, hn14⟩
    replace s0 := s0.below hn14.below (Nat.le_refl _)
    replace s1 := s1.below hn14.below (Nat.le_refl _)
    replace s2 := s2.below hn14.below (Nat.le_refl _)
    replace t13 := t13.below hn14.below (Nat.le_refl _)
    have B14 := B13.trans (hn14.below.mono B13.size)
    clear B13
    have t14 := hn14.seg
    clear hn14
    go_wp2_with fail
    refine (Cmp_any _ _ _ _ X1 _ _ X2 _ (by omega) (by omega) t13 (by omega) (by omega) t14).mono ?_
    rintro e wa15 ⟨rfl, hd15⟩
    replace s0 := s0.dr hd15
    replace s1 := s1.dr hd15
    replace s2 := s2.dr hd15
    replace t13 := t13.dr hd15
    replace t14 := t14.dr hd15
    have B15 := B14.trans (hd15.below _)
    clear B14 hd15
    clear t13
    clear t14
    go_wp2_with fail
    refine (twin_any _ _ _ (X0) _ (by omega) s0).mono ?_
    rintro e wa16 ⟨ca16, rfl, hn16⟩
    replace s0 := s0.below hn16.below (Nat.le_refl _)
    replace s1 := s1.below hn16.below (Nat.le_refl _)
    replace s2 := s2.below hn16.below (Nat.le_refl _)
    have B16 := B15.trans (hn16.below.mono B15.size)
    clear B15
    have t16 := hn16.seg
    clear hn16
    go_wp2_with fail
    refine (twin_any _ _ _ (X2) _ (by omega) s2).mono ?_
    rintro e wa17 ⟨ca17, rfl, hn17⟩
    replace s0 := s0.below hn17.below (Nat.le_refl _)
    replace s1 := s1.below hn17.below (Nat.le_refl _)
    replace s2 := s2.below hn17.below (Nat.le_refl _)
    replace t16 := t16.below hn17.below (Nat.le_refl _)
    have B17 := B16.trans (hn17.below.mono B16.size)
    clear B16
    have t17 := hn17.seg
    clear hn17
    go_wp2_with fail
    refine (Add_any _ _ _ _ (X0) _ _ (X2) _ (by omega) (by omega) t16 (by omega) (by omega) t17).mono ?_
    rintro e wa18 ⟨ca18, rfl, hn18⟩
    replace s0 := s0.below hn18.below (Nat.le_refl _)
    replace s1 := s1.below hn18.below (Nat.le_refl _)
    replace s2 := s2.below hn18.below (Nat.le_refl _)
    replace t16 := t16.below hn18.below (Nat.le_refl _)
    replace t17 := t17.below hn18.below (Nat.le_refl _)
    have B18 := B17.trans (hn18.below.mono B17.size)
    clear B17
    have t18 := hn18.seg
    clear hn18
    clear t16
    clear t17
    go_wp2_with fail
    refine (twin_any _ _ _ (X1) _ (by omega) s1).mono ?_
    rintro e wa19 ⟨ca19, rfl, hn19⟩
    replace s0 := s0.below hn19.below (Nat.le_refl _)
    replace s1 := s1.below hn19.below (Nat.le_refl _)
    replace s2 := s2.below hn19.below (Nat.le_refl _)
    replace t18 := t18.below hn19.below (Nat.le_refl _)
    have B19 := B18.trans (hn19.below.mono B18.size)
    clear B18
    have t19 := hn19.seg
    clear hn19
    go_wp2_with fail
    refine (twin_any _ _ _ (X2) _ (by omega) s2).mono ?_
    rintro e wa20 ⟨ca20, rfl, hn20⟩
    replace s0 := s0.below hn20.below (Nat.le_refl _)
    replace s1 := s1.below hn20.below (Nat.le_refl _)
    replace s2 := s2.below hn20.below (Nat.le_refl _)
    replace t18 := t18.below hn20.below (Nat.le_refl _)
    replace t19 := t19.below hn20.below (Nat.le_refl _)
    have B20 := B19.trans (hn20.below.mono B19.size)
    clear B19
    have t20 := hn20.seg
    clear hn20
    go_wp2_with fail
    refine (Add_any _ _ _ _ (X1) _ _ (X2) _ (by omega) (by omega) t19 (by omega) (by omega) t20).mono ?_
    rintro e wa21 ⟨ca21, rfl, hn21⟩
    replace s0 := s0.below hn21.below (Nat.le_refl _)
    replace s1 := s1.below hn21.below (Nat.le_refl _)
    replace s2 := s2.below hn21.below (Nat.le_refl _)
    replace t18 := t18.below hn21.below (Nat.le_refl _)
    replace t19 := t19.below hn21.below (Nat.le_refl _)
    replace t20 := t20.below hn21.below (Nat.le_refl _)
    have B21 := B20.trans (hn21.below.mono B20.size)
    clear B20
    have t21 := hn21.seg
    clear hn21
    clear t19
    clear t20
    go_wp2_with fail
    refine (Cmp_any _ _ _ _ (X0 + X2) _ _ (X1 + X2) _ (by omega) (by omega) t18 (by omega) (by omega) t21).mono ?_
    rintro e wa22 ⟨rfl, hd22⟩
    replace s0 := s0.dr hd22
    replace s1 := s1.dr hd22
    replace s2 := s2.dr hd22
    replace t18 := t18.dr hd22
    replace t21 := t21.dr hd22
    have B22 := B21.trans (hd22.below _)
    clear B21 hd22
    go_wp2
    go_ret
    exact ⟨rfl, B22⟩

theorem contract (H : Type) (enc : TypeId × Value → H) (W : World) (base : Nat) (args : Array Value) (ds gs : List (DataW H)) (before : List MemPlace)
    (hval : ∀ (j : Nat) t v, Try.f4.params[j]? = some t → args[j]? = some v → Value.okWide Try.prog W .any base t v)
    (hW : DataW.Whole enc Try.prog Try.f4.params.toList Rows.natOrderSpec.vars false W args.toList ds gs before)
    (hsz : (DataW.weightsEach Try.prog (Try.f4.params.toList ++ Rows.natOrderSpec.plain.varTypes Try.prog) (ds ++ gs)).all (· ≤ reachBytes) = true) :
    Calls Try.prog 4 args W fun e W' => ∃ v, e = .returned v ∧ Rows.natOrderSpec.post enc Try.prog Try.f4 false true false false W args v W' := by
  have hW' := hW
  obtain ⟨p, q, hA0, hV, rfl, hfz, hnd⟩ := hW
  have hA : DataW.TrodAll enc Try.prog W 0 (fun _ => true) true Try.f4.params.toList args.toList ds p := hA0
  rw [Try.params4] at hA hval hsz
  obtain ⟨v0, vs0, d0, ds0, p0, q0, hargs, rfl, rfl, h0, r0⟩ := trodAll_cons hA
  obtain ⟨v1, vs1, d1, ds1, p1, q1, rfl, rfl, rfl, h1, r1⟩ := trodAll_cons r0
  obtain ⟨v2, vs2, d2, ds2, p2, q2, rfl, rfl, rfl, h2, r2⟩ := trodAll_cons r1
  obtain ⟨rfl, rfl, rfl⟩ := trodAll_nil r2
  obtain rfl : args = #[v0, v1, v2] := by cases args; simp_all
  obtain ⟨rfl, rfl⟩ := trodVars_none hV
  obtain ⟨a0, len0, cap0, rfl⟩ := okWide_slice Try.underlying22 (hval 0 22 v0 rfl rfl)
  have lt0 : ∀ x ∈ p0, x.block < W.heap.size := by obtain ⟨m, hm⟩ := h0; exact DataW.trod_lt m _ _ _ hm
  obtain ⟨X0, hS0, hc0, hb0, hu0⟩ := open_nat Try.underlying22 h0 (fun elems spare h => sized_slice hsz (j := 0) (t := 22) (e := 26) rfl (by rw [h]; rfl) Try.underlying22)
  obtain ⟨a1, len1, cap1, rfl⟩ := okWide_slice Try.underlying22 (hval 1 22 v1 rfl rfl)
  have lt1 : ∀ x ∈ p1, x.block < W.heap.size := by obtain ⟨m, hm⟩ := h1; exact DataW.trod_lt m _ _ _ hm
  obtain ⟨X1, hS1, hc1, hb1, hu1⟩ := open_nat Try.underlying22 h1 (fun elems spare h => sized_slice hsz (j := 1) (t := 22) (e := 26) rfl (by rw [h]; rfl) Try.underlying22)
  obtain ⟨a2, len2, cap2, rfl⟩ := okWide_slice Try.underlying22 (hval 2 22 v2 rfl rfl)
  have lt2 : ∀ x ∈ p2, x.block < W.heap.size := by obtain ⟨m, hm⟩ := h2; exact DataW.trod_lt m _ _ _ hm
  obtain ⟨X2, hS2, hc2, hb2, hu2⟩ := open_nat Try.underlying22 h2 (fun elems spare h => sized_slice hsz (j := 2) (t := 22) (e := 26) rfl (by rw [h]; rfl) Try.underlying22)
  clear hA0
  simp only [List.append_nil] at hW'
  refine (walk a0 len0 cap0 X0 a1 len1 cap1 X1 a2 len2 cap2 X2 W hS0 hc0 hb0 hS1 hc1 hb1 hS2 hc2 hb2).mono fun e W' ⟨he, bel⟩ => ?_
  subst he
  exact ⟨_, rfl, _, _, _, [], _, [], hW', trodAll_mk1 (shut_bool Try.underlying4 _), (trodAll_cons_mk (Below.trod laidOut (by kernel_rfl) (of_decide_eq_true (by kernel_rfl)) h0 bel lt0) (trodAll_cons_mk (Below.trod laidOut (by kernel_rfl) (of_decide_eq_true (by kernel_rfl)) h1 bel lt1) (trodAll_cons_mk (Below.trod laidOut (by kernel_rfl) (of_decide_eq_true (by kernel_rfl)) h2 bel lt2) trodAll_mk0))), rfl, bel.frame _, fun h => by cases h⟩

set_option maxRecDepth 100000 in
theorem lifted (os : Os) (started : os.Started) (H : Type) (enc : TypeId × Value → H) :
    ReturnsInHanded {} Try.checked os 4 .any (Rows.natOrderSpec.pre6 enc Try.prog Try.f4 Rows.natOrderRow.domain false) (Rows.natOrderSpec.post enc Try.prog Try.f4 false true false false) := by
  refine returnsInHanded_of_change_sized (C := Try.checked) own started (by kernel_rfl) Try.func4
    (ChangeSpec.witness6 (enc := enc) (C := Try.checked) false ⟨#[], #[.slice none 0 0, .slice none 0 0, .slice none 0 0], []⟩ 8 (by kernel_rfl) (by kernel_rfl) (by kernel_rfl) (by kernel_rfl)) ?_
  intro W base args ds gs before hval hW _ hsz _
  exact contract H enc W base args ds gs before hval hW hsz

theorem over : Rows.natOrderRow.holds Try.pinned (OpenSpec.ofChange Rows.natOrderSpec) :=
  OpenClaim.holds_of_wide 4 Try.f4 rfl rfl rfl rfl rfl rfl rfl ⟨rfl, rfl, rfl, rfl, rfl⟩ rfl rfl rfl rfl rfl (by kernel_rfl) Try.func4 (by kernel_rfl)
    (of_decide_eq_true (by kernel_rfl)) (by unfold Func.isWrapper; first | (rw [if_pos (by decide +kernel)]; kernel_rfl) | (rw [if_neg (by decide +kernel)]; exact ⟨rfl, rfl⟩))
    (fun os started H enc _ => lifted os started H enc)

end Go.Proofs.Ytkbjfdfooompbac.natOrder
namespace Go.Proofs.Ytkbjfdfooompbac
theorem natOrder_holds : Rows.NatOrderSaid := natOrder.over
#print axioms natOrder_holds
end Go.Proofs.Ytkbjfdfooompbac
