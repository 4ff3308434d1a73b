/-
  NatMoves: Shift is Mul and Div by a power of two.
-/
import Derived.Test.YtkbjfdfooompbacW12
import Derived.Test.YtkbjfdfooompbacW4
import Derived.Test.YtkbjfdfooompbacOpen
namespace Go.Proofs.Ytkbjfdfooompbac.natMoves
open Go.ChangeShapes Go.WideShapes Go.ChangeAt Go.RowKit Go.Proofs.Ytkbjfdfooompbac
set_option linter.unusedVariables false

theorem two_lt_BB {n k : Nat} (h : n < 32 * k) : 2 ^ n < BB ^ k := by rw [BB_two]; exact Nat.pow_lt_pow_right (by omega) h
theorem Up_is (ao : Option Addr) (n cap X s Z : Nat) (w : World) (hc : n ≤ cap) (hm : n ≤ 35184372088832) (hs : s ≤ 1048576) (hS : Seg w ao X n) (hz : X * 2 ^ s = Z) :
    Calls Try.prog 15 #[.slice ao n cap, .int .i64 s] w fun e w' => ∃ ao', e = .returned (.tuple #[.slice ao' (ln Z) (ln Z), .int .i64 0]) ∧ New w w' ao' Z (ln Z) := by
  subst hz; exact Shift_up ao n cap X s w hc hm hs hS
theorem Down_is (ao : Option Addr) (n cap X s Z : Nat) (w : World) (hc : n ≤ cap) (hm : n ≤ 35184372088832) (h0 : 0 < s) (hs : s ≤ 1048576) (hS : Seg w ao X n) (hz : X / 2 ^ s = Z) :
    Calls Try.prog 15 #[.slice ao n cap, .int .i64 (-(s : Int))] w fun e w' => ∃ ao', e = .returned (.tuple #[.slice ao' (ln Z) (ln Z), .int .i64 0]) ∧ New w w' ao' Z (ln Z) := by
  subst hz; exact Shift_down ao n cap X s w hc hm h0 hs hS
theorem Down0_is (ao : Option Addr) (n cap X s Z : Nat) (w : World) (hc : n ≤ cap) (hm : n ≤ 35184372088832) (h0 : s ≤ 0) (hS : Seg w ao X n) (hz : X / 2 ^ s = Z) :
    Calls Try.prog 15 #[.slice ao n cap, .int .i64 (-(s : Int))] w fun e w' => ∃ ao', e = .returned (.tuple #[.slice ao' (ln Z) (ln Z), .int .i64 0]) ∧ New w w' ao' Z (ln Z) := by
  have e : s = 0 := by omega
  subst e
  have := Up_is ao n cap X 0 Z w hc hm (by omega) hS (by rw [← hz]; simp)
  rwa [show ((0 : Nat) : Int) = -((0 : Nat) : Int) by omega] at this
theorem Pow_is (ao : Option Addr) (m cap X n Z : Nat) (w : World) (hc : m ≤ cap) (hm : m ≤ 35184372088832) (hn : n ≤ 4096) (hmn : m * n ≤ 35184372088831) (hS : Seg w ao X m) (hz : X ^ n = Z) :
    Calls Try.prog 16 #[.slice ao m cap, .int .i64 n] w fun e w' => ∃ ao', e = .returned (.tuple #[.slice ao' (ln Z) (ln Z), .int .i64 0]) ∧ New w w' ao' Z (ln Z) := by
  subst hz; exact Pow_any ao m cap X n w hc hm hn hmn hS

set_option maxHeartbeats 4000000 in
theorem walk (a0 : Option Addr) (len0 cap0 X0 : Nat) (z1 : Int) (w : World) (hS0 : Seg w a0 X0 len0) (hc : len0 ≤ cap0) (hb : len0 ≤ 35184372087808) (h1 : -9223372036854775808 ≤ z1) (h2 : z1 ≤ 9223372036854775807) :
    Calls Try.prog 5 #[.slice a0 len0 cap0, .int .i64 z1] w fun e w' => e = .returned (.bool true) ∧ Below w.heap.size w w' := by
  by_cases hout : z1 < 0 ∨ 4096 < z1
  · rcases hout with ho | ho
    · go_enter Try.func5, Try.ntmps5
      have B0 : Below w.heap.size w w := Below.refl _ _
      have s0 := hS0
      go_wp2_with fail
      refine (twin_any _ _ _ (X0) _ (by omega) s0).mono ?_
      rintro e wa1 ⟨ca1, rfl, hn1⟩
      replace s0 := s0.below hn1.below (Nat.le_refl _)
      have B1 := B0.trans (hn1.below.mono B0.size)
      clear B0
      have t1 := hn1.seg
      clear hn1
      go_wp2_with fail
      refine (Shift_no _ _ _ 1048577 _ (Or.inr (by omega))).mono ?_
      rintro e wa2 ⟨rfl, rfl⟩
      go_wp2
      go_ret
      exact ⟨rfl, B1⟩
    · have ho2 : ¬ z1 < 0 := by omega
      go_enter Try.func5, Try.ntmps5
      have B0 : Below w.heap.size w w := Below.refl _ _
      have s0 := hS0
      go_wp2_with fail
      refine (twin_any _ _ _ (X0) _ (by omega) s0).mono ?_
      rintro e wa1 ⟨ca1, rfl, hn1⟩
      replace s0 := s0.below hn1.below (Nat.le_refl _)
      have B1 := B0.trans (hn1.below.mono B0.size)
      clear B0
      have t1 := hn1.seg
      clear hn1
      go_wp2_with fail
      refine (Shift_no _ _ _ 1048577 _ (Or.inr (by omega))).mono ?_
      rintro e wa2 ⟨rfl, rfl⟩
      go_wp2
      go_ret
      exact ⟨rfl, B1⟩
  · obtain ⟨n, rfl⟩ := Int.eq_ofNat_of_zero_le (show 0 ≤ z1 by omega)
    have hn : n ≤ 4096 := by omega
    obtain ⟨P, hP⟩ : ∃ Z, 2 ^ n = Z := ⟨_, rfl⟩
    obtain ⟨U, hU⟩ : ∃ Z, X0 * 2 ^ n = Z := ⟨_, rfl⟩
    obtain ⟨Q, hQ⟩ : ∃ Z, X0 / 2 ^ n = Z := ⟨_, rfl⟩
    obtain ⟨R, hR⟩ : ∃ Z, X0 % 2 ^ n = Z := ⟨_, rfl⟩
    have E1 : Hid (2 ^ n = P) := hP
    have E2 : Hid (X0 * 2 ^ n = U) := hU
    have E3 : Hid (X0 / 2 ^ n = Q) := hQ
    have E4 : Hid (X0 * P = U) := by show _ = _; rw [← hP]; exact hU
    have E5 : Hid (X0 = Q * P + R) := by
      show _ = _
      rw [← hQ, ← hR, ← hP]
      have := Nat.div_add_mod X0 (2 ^ n); rw [Nat.mul_comm] at this; exact this.symm
    have E6 : Hid (R < P) := by show _ < _; rw [← hR, ← hP]; exact Nat.mod_lt _ (Nat.two_pow_pos n)
    have hPb : P < BB ^ 129 := by
      rw [← hP]; exact two_lt_BB (by omega)
    have lP : ln P ≤ 129 := ln_le_of_lt hPb
    have lQ : ln Q ≤ 35184372087808 := by have := ln_le_of_lt (Nat.lt_of_le_of_lt (Nat.div_le_self X0 (2 ^ n)) hS0.1); rw [hQ] at this; omega
    have lU : ln U ≤ 35184372088000 := by have := ln_prod hS0.1 hPb; rw [E4.out] at this; omega
    have hbl : ((bl P : Int) != (n : Int) + 1) = false := by
      have : bl P = n + 1 := by rw [← hP]; exact bl_of (Nat.le_refl _) (Nat.pow_lt_pow_right (by omega) (by omega))
      rw [bne_eq_false_iff_eq, this]; omega
    have qU := sameB_self (ln U) U
    have qQ := sameB_self (ln Q) Q
    clear hout hP hU hQ hR hPb
    by_cases h0 : n = 0
    · have hn0 : n ≤ 0 := by omega
      clear h0
      go_enter Try.func5, Try.ntmps5
      have B0 : Below w.heap.size w w := Below.refl _ _
      have s0 := hS0
      go_wp2_with fail
      have hn1 := single_new w 2 26 2 (by omega) rfl
      replace s0 := s0.below hn1.below (Nat.le_refl _)
      have B1 := B0.trans (hn1.below.mono B0.size)
      clear B0
      have t1 := hn1.seg
      clear hn1
      go_wp2_with fail
      refine (Pow_is _ _ _ 2 n P _ (by omega) (by omega) hn (by omega) t1 E1.out).mono ?_
      rintro e wa2 ⟨ca2, rfl, hn2⟩
      replace s0 := s0.below hn2.below (Nat.le_refl _)
      replace t1 := t1.below hn2.below (Nat.le_refl _)
      have B2 := B1.trans (hn2.below.mono B1.size)
      clear B1
      have t2 := hn2.seg
      clear hn2
      clear t1
      go_wp2_with fail
      refine (twin_any _ _ _ (X0) _ (by omega) s0).mono ?_
      rintro e wa3 ⟨ca3, rfl, hn3⟩
      replace s0 := s0.below hn3.below (Nat.le_refl _)
      replace t2 := t2.below hn3.below (Nat.le_refl _)
      have B3 := B2.trans (hn3.below.mono B2.size)
      clear B2
      have t3 := hn3.seg
      clear hn3
      go_wp2_with fail
      refine (Up_is _ _ _ X0 n U _ (by omega) (by omega) (by omega) t3 E2.out).mono ?_
      rintro e wa4 ⟨ca4, rfl, hn4⟩
      replace s0 := s0.below hn4.below (Nat.le_refl _)
      replace t2 := t2.below hn4.below (Nat.le_refl _)
      replace t3 := t3.below hn4.below (Nat.le_refl _)
      have B4 := B3.trans (hn4.below.mono B3.size)
      clear B3
      have t4 := hn4.seg
      clear hn4
      clear t3
      go_wp2_with fail
      refine (twin_any _ _ _ (X0) _ (by omega) s0).mono ?_
      rintro e wa5 ⟨ca5, rfl, hn5⟩
      replace s0 := s0.below hn5.below (Nat.le_refl _)
      replace t2 := t2.below hn5.below (Nat.le_refl _)
      replace t4 := t4.below hn5.below (Nat.le_refl _)
      have B5 := B4.trans (hn5.below.mono B4.size)
      clear B4
      have t5 := hn5.seg
      clear hn5
      go_wp2_with fail
      refine (Down0_is _ _ _ X0 n Q _ (by omega) (by omega) hn0 t5 E3.out).mono ?_
      rintro e wa6 ⟨ca6, rfl, hn6⟩
      replace s0 := s0.below hn6.below (Nat.le_refl _)
      replace t2 := t2.below hn6.below (Nat.le_refl _)
      replace t4 := t4.below hn6.below (Nat.le_refl _)
      replace t5 := t5.below hn6.below (Nat.le_refl _)
      have B6 := B5.trans (hn6.below.mono B5.size)
      clear B5
      have t6 := hn6.seg
      clear hn6
      clear t5
      go_wp2_with fail
      refine (Bits_any _ _ _ P _ (by omega) (by omega) t2).mono ?_
      rintro e wa7 ⟨rfl, rfl⟩
      go_wp2_with fail
      refine (twin_any _ _ _ (X0) _ (by omega) s0).mono ?_
      rintro e wa8 ⟨ca8, rfl, hn8⟩
      replace s0 := s0.below hn8.below (Nat.le_refl _)
      replace t2 := t2.below hn8.below (Nat.le_refl _)
      replace t4 := t4.below hn8.below (Nat.le_refl _)
      replace t6 := t6.below hn8.below (Nat.le_refl _)
      have B8 := B6.trans (hn8.below.mono B6.size)
      clear B6
      have t8 := hn8.seg
      clear hn8
      go_wp2_with fail
      refine (Div_is _ _ _ _ X0 _ _ P Q R _ (by omega) (by omega) t8 (by omega) (by omega) t2 E5.out E6.out).mono ?_
      rintro e wa9 ⟨aq, ar, rfl, hq9, hr9⟩
      replace s0 := s0.below hq9.below (Nat.le_refl _)
      replace t2 := t2.below hq9.below (Nat.le_refl _)
      replace t4 := t4.below hq9.below (Nat.le_refl _)
      replace t6 := t6.below hq9.below (Nat.le_refl _)
      replace t8 := t8.below hq9.below (Nat.le_refl _)
      have B9 := B8.trans (hq9.below.mono B8.size)
      clear B8
      have tq := hq9.seg
      clear hq9 hr9
      clear t8
      go_wp2_with fail
      refine (twin_any _ _ _ (X0) _ (by omega) s0).mono ?_
      rintro e wa10 ⟨ca10, rfl, hn10⟩
      replace s0 := s0.below hn10.below (Nat.le_refl _)
      replace t2 := t2.below hn10.below (Nat.le_refl _)
      replace t4 := t4.below hn10.below (Nat.le_refl _)
      replace t6 := t6.below hn10.below (Nat.le_refl _)
      replace tq := tq.below hn10.below (Nat.le_refl _)
      have B10 := B9.trans (hn10.below.mono B9.size)
      clear B9
      have t10 := hn10.seg
      clear hn10
      go_wp2_with fail
      refine (Mul_is _ _ _ _ (X0) _ _ (P) (U) _ (by omega) (by omega) t10 (by omega) (by omega) t2 E4.out).mono ?_
      rintro e wa11 ⟨ca11, rfl, hn11⟩
      replace s0 := s0.below hn11.below (Nat.le_refl _)
      replace t2 := t2.below hn11.below (Nat.le_refl _)
      replace t4 := t4.below hn11.below (Nat.le_refl _)
      replace t6 := t6.below hn11.below (Nat.le_refl _)
      replace tq := tq.below hn11.below (Nat.le_refl _)
      replace t10 := t10.below hn11.below (Nat.le_refl _)
      have B11 := B10.trans (hn11.below.mono B10.size)
      clear B10
      have t11 := hn11.seg
      clear hn11
      clear t10
      clear t2
      go_wp2_with fail
      refine (same_any _ _ _ _ (U) _ _ (U) _ (by omega) (by omega) t4 t11).mono ?_
      rintro e wa12 ⟨rfl, hd12⟩
      replace s0 := s0.dr hd12
      replace t4 := t4.dr hd12
      replace t6 := t6.dr hd12
      replace tq := tq.dr hd12
      replace t11 := t11.dr hd12
      have B12 := B11.trans (hd12.below _)
      clear B11 hd12
      clear t4
      clear t11
      go_wp2_with fail
      refine (same_any _ _ _ _ (Q) _ _ (Q) _ (by omega) (by omega) t6 tq).mono ?_
      rintro e wa13 ⟨rfl, hd13⟩
      replace s0 := s0.dr hd13
      replace t6 := t6.dr hd13
      replace tq := tq.dr hd13
      have B13 := B12.trans (hd13.below _)
      clear B12 hd13
      go_wp2
      go_ret
      exact ⟨rfl, B13⟩
    · have hn0 : 0 < n := by omega
      clear h0
      go_enter Try.func5, Try.ntmps5
      have B0 : Below w.heap.size w w := Below.refl _ _
      have s0 := hS0
      go_wp2_with fail
      have hn1 := single_new w 2 26 2 (by omega) rfl
      replace s0 := s0.below hn1.below (Nat.le_refl _)
      have B1 := B0.trans (hn1.below.mono B0.size)
      clear B0
      have t1 := hn1.seg
      clear hn1
      go_wp2_with fail
      refine (Pow_is _ _ _ 2 n P _ (by omega) (by omega) hn (by omega) t1 E1.out).mono ?_
      rintro e wa2 ⟨ca2, rfl, hn2⟩
      replace s0 := s0.below hn2.below (Nat.le_refl _)
      replace t1 := t1.below hn2.below (Nat.le_refl _)
      have B2 := B1.trans (hn2.below.mono B1.size)
      clear B1
      have t2 := hn2.seg
      clear hn2
      clear t1
      go_wp2_with fail
      refine (twin_any _ _ _ (X0) _ (by omega) s0).mono ?_
      rintro e wa3 ⟨ca3, rfl, hn3⟩
      replace s0 := s0.below hn3.below (Nat.le_refl _)
      replace t2 := t2.below hn3.below (Nat.le_refl _)
      have B3 := B2.trans (hn3.below.mono B2.size)
      clear B2
      have t3 := hn3.seg
      clear hn3
      go_wp2_with fail
      refine (Up_is _ _ _ X0 n U _ (by omega) (by omega) (by omega) t3 E2.out).mono ?_
      rintro e wa4 ⟨ca4, rfl, hn4⟩
      replace s0 := s0.below hn4.below (Nat.le_refl _)
      replace t2 := t2.below hn4.below (Nat.le_refl _)
      replace t3 := t3.below hn4.below (Nat.le_refl _)
      have B4 := B3.trans (hn4.below.mono B3.size)
      clear B3
      have t4 := hn4.seg
      clear hn4
      clear t3
      go_wp2_with fail
      refine (twin_any _ _ _ (X0) _ (by omega) s0).mono ?_
      rintro e wa5 ⟨ca5, rfl, hn5⟩
      replace s0 := s0.below hn5.below (Nat.le_refl _)
      replace t2 := t2.below hn5.below (Nat.le_refl _)
      replace t4 := t4.below hn5.below (Nat.le_refl _)
      have B5 := B4.trans (hn5.below.mono B4.size)
      clear B4
      have t5 := hn5.seg
      clear hn5
      go_wp2_with fail
      refine (Down_is _ _ _ X0 n Q _ (by omega) (by omega) hn0 (by omega) t5 E3.out).mono ?_
      rintro e wa6 ⟨ca6, rfl, hn6⟩
      replace s0 := s0.below hn6.below (Nat.le_refl _)
      replace t2 := t2.below hn6.below (Nat.le_refl _)
      replace t4 := t4.below hn6.below (Nat.le_refl _)
      replace t5 := t5.below hn6.below (Nat.le_refl _)
      have B6 := B5.trans (hn6.below.mono B5.size)
      clear B5
      have t6 := hn6.seg
      clear hn6
      clear t5
      go_wp2_with fail
      refine (Bits_any _ _ _ P _ (by omega) (by omega) t2).mono ?_
      rintro e wa7 ⟨rfl, rfl⟩
      go_wp2_with fail
      refine (twin_any _ _ _ (X0) _ (by omega) s0).mono ?_
      rintro e wa8 ⟨ca8, rfl, hn8⟩
      replace s0 := s0.below hn8.below (Nat.le_refl _)
      replace t2 := t2.below hn8.below (Nat.le_refl _)
      replace t4 := t4.below hn8.below (Nat.le_refl _)
      replace t6 := t6.below hn8.below (Nat.le_refl _)
      have B8 := B6.trans (hn8.below.mono B6.size)
      clear B6
      have t8 := hn8.seg
      clear hn8
      go_wp2_with fail
      refine (Div_is _ _ _ _ X0 _ _ P Q R _ (by omega) (by omega) t8 (by omega) (by omega) t2 E5.out E6.out).mono ?_
      rintro e wa9 ⟨aq, ar, rfl, hq9, hr9⟩
      replace s0 := s0.below hq9.below (Nat.le_refl _)
      replace t2 := t2.below hq9.below (Nat.le_refl _)
      replace t4 := t4.below hq9.below (Nat.le_refl _)
      replace t6 := t6.below hq9.below (Nat.le_refl _)
      replace t8 := t8.below hq9.below (Nat.le_refl _)
      have B9 := B8.trans (hq9.below.mono B8.size)
      clear B8
      have tq := hq9.seg
      clear hq9 hr9
      clear t8
      go_wp2_with fail
      refine (twin_any _ _ _ (X0) _ (by omega) s0).mono ?_
      rintro e wa10 ⟨ca10, rfl, hn10⟩
      replace s0 := s0.below hn10.below (Nat.le_refl _)
      replace t2 := t2.below hn10.below (Nat.le_refl _)
      replace t4 := t4.below hn10.below (Nat.le_refl _)
      replace t6 := t6.below hn10.below (Nat.le_refl _)
      replace tq := tq.below hn10.below (Nat.le_refl _)
      have B10 := B9.trans (hn10.below.mono B9.size)
      clear B9
      have t10 := hn10.seg
      clear hn10
      go_wp2_with fail
      refine (Mul_is _ _ _ _ (X0) _ _ (P) (U) _ (by omega) (by omega) t10 (by omega) (by omega) t2 E4.out).mono ?_
      rintro e wa11 ⟨ca11, rfl, hn11⟩
      replace s0 := s0.below hn11.below (Nat.le_refl _)
      replace t2 := t2.below hn11.below (Nat.le_refl _)
      replace t4 := t4.below hn11.below (Nat.le_refl _)
      replace t6 := t6.below hn11.below (Nat.le_refl _)
      replace tq := tq.below hn11.below (Nat.le_refl _)
      replace t10 := t10.below hn11.below (Nat.le_refl _)
      have B11 := B10.trans (hn11.below.mono B10.size)
      clear B10
      have t11 := hn11.seg
      clear hn11
      clear t10
      clear t2
      go_wp2_with fail
      refine (same_any _ _ _ _ (U) _ _ (U) _ (by omega) (by omega) t4 t11).mono ?_
      rintro e wa12 ⟨rfl, hd12⟩
      replace s0 := s0.dr hd12
      replace t4 := t4.dr hd12
      replace t6 := t6.dr hd12
      replace tq := tq.dr hd12
      replace t11 := t11.dr hd12
      have B12 := B11.trans (hd12.below _)
      clear B11 hd12
      clear t4
      clear t11
      go_wp2_with fail
      refine (same_any _ _ _ _ (Q) _ _ (Q) _ (by omega) (by omega) t6 tq).mono ?_
      rintro e wa13 ⟨rfl, hd13⟩
      replace s0 := s0.dr hd13
      replace t6 := t6.dr hd13
      replace tq := tq.dr hd13
      have B13 := B12.trans (hd13.below _)
      clear B12 hd13
      go_wp2
      go_ret
      exact ⟨rfl, B13⟩

theorem contract (H : Type) (enc : TypeId × Value → H) (W : World) (base : Nat) (args : Array Value) (ds gs : List (DataW H)) (before : List MemPlace)
    (hval : ∀ (j : Nat) t v, Try.f5.params[j]? = some t → args[j]? = some v → Value.okWide Try.prog W .any base t v)
    (hW : DataW.Whole enc Try.prog Try.f5.params.toList Rows.natMovesSpec.vars false W args.toList ds gs before)
    (hsz : (DataW.weightsEach Try.prog (Try.f5.params.toList ++ Rows.natMovesSpec.plain.varTypes Try.prog) (ds ++ gs)).all (· ≤ reachBytes) = true) :
    Calls Try.prog 5 args W fun e W' => ∃ v, e = .returned v ∧ Rows.natMovesSpec.post enc Try.prog Try.f5 false true false false W args v W' := by
  have hW' := hW
  obtain ⟨p, q, hA0, hV, rfl, hfz, hnd⟩ := hW
  have hA : DataW.TrodAll enc Try.prog W 0 (fun _ => true) true Try.f5.params.toList args.toList ds p := hA0
  rw [Try.params5] at hA hval hsz
  obtain ⟨v0, vs0, d0, ds0, p0, q0, hargs, rfl, rfl, h0, r0⟩ := trodAll_cons hA
  obtain ⟨v1, vs1, d1, ds1, p1, q1, rfl, rfl, rfl, h1, r1⟩ := trodAll_cons r0
  obtain ⟨rfl, rfl, rfl⟩ := trodAll_nil r1
  obtain rfl : args = #[v0, v1] := by cases args; simp_all
  obtain ⟨rfl, rfl⟩ := trodVars_none hV
  obtain ⟨a0, len0, cap0, rfl⟩ := okWide_slice Try.underlying22 (hval 0 22 v0 rfl rfl)
  have lt0 : ∀ x ∈ p0, x.block < W.heap.size := by obtain ⟨m, hm⟩ := h0; exact DataW.trod_lt m _ _ _ hm
  obtain ⟨X0, hS0, hc0, hb0, hu0⟩ := open_nat Try.underlying22 h0 (fun elems spare h => sized_slice hsz (j := 0) (t := 22) (e := 26) rfl (by rw [h]; rfl) Try.underlying22)
  obtain ⟨z1, rfl, rfl, rfl, w1⟩ := open_int Try.underlying3 (hval 1 3 v1 rfl rfl) h1
  have bz1 := bounds_i64 w1
  clear hA0
  simp only [List.append_nil] at hW'
  refine (walk a0 len0 cap0 X0 z1 W hS0 hc0 hb0 (by omega) (by omega)).mono fun e W' ⟨he, bel⟩ => ?_
  subst he
  exact ⟨_, rfl, _, _, _, [], _, [], hW', trodAll_mk1 (shut_bool Try.underlying4 _), (trodAll_cons_mk (Below.trod laidOut (by kernel_rfl) (of_decide_eq_true (by kernel_rfl)) h0 bel lt0) (trodAll_cons_mk (shut_int Try.underlying3 w1) trodAll_mk0)), rfl, bel.frame _, fun h => by cases h⟩

set_option maxRecDepth 100000 in
theorem lifted (os : Os) (started : os.Started) (H : Type) (enc : TypeId × Value → H) :
    ReturnsInHanded {} Try.checked os 5 .any (Rows.natMovesSpec.pre6 enc Try.prog Try.f5 Rows.natMovesRow.domain false) (Rows.natMovesSpec.post enc Try.prog Try.f5 false true false false) := by
  refine returnsInHanded_of_change_sized (C := Try.checked) own started (by kernel_rfl) Try.func5
    (ChangeSpec.witness6 (enc := enc) (C := Try.checked) false ⟨#[], #[.slice none 0 0, .int .i64 0], []⟩ 8 (by kernel_rfl) (by kernel_rfl) (by kernel_rfl) (by kernel_rfl)) ?_
  intro W base args ds gs before hval hW _ hsz _
  exact contract H enc W base args ds gs before hval hW hsz

theorem over : Rows.natMovesRow.holds Try.pinned (OpenSpec.ofChange Rows.natMovesSpec) :=
  OpenClaim.holds_of_wide 5 Try.f5 rfl rfl rfl rfl rfl rfl rfl ⟨rfl, rfl, rfl, rfl, rfl⟩ rfl rfl rfl rfl rfl (by kernel_rfl) Try.func5 (by kernel_rfl)
    (of_decide_eq_true (by kernel_rfl)) (by unfold Func.isWrapper; first | (rw [if_pos (by decide +kernel)]; kernel_rfl) | (rw [if_neg (by decide +kernel)]; exact ⟨rfl, rfl⟩))
    (fun os started H enc _ => lifted os started H enc)

end Go.Proofs.Ytkbjfdfooompbac.natMoves
namespace Go.Proofs.Ytkbjfdfooompbac
theorem natMoves_holds : Rows.NatMovesSaid := natMoves.over
#print axioms natMoves_holds
end Go.Proofs.Ytkbjfdfooompbac
