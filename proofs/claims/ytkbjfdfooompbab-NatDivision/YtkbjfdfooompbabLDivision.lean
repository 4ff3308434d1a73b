/-
  NatDivision: q and r of q b + r are found again.
-/
import Derived.Test.YtkbjfdfooompbabW11
import Derived.Test.YtkbjfdfooompbabW8
import Derived.Test.YtkbjfdfooompbabOpen
namespace Go.Proofs.Ytkbjfdfooompbab.natDivision
open Go.ChangeShapes Go.WideShapes Go.ChangeAt Go.RowKit Go.Proofs.Ytkbjfdfooompbab
set_option linter.unusedVariables false

set_option maxHeartbeats 4000000 in
theorem walk (a0 : Option Addr) (len0 cap0 X0 : Nat) (a1 : Option Addr) (len1 cap1 X1 : Nat) (a2 : Option Addr) (len2 cap2 X2 : Nat) (w : World) (hS0 : Seg w a0 X0 len0) (hc : len0 ≤ cap0) (hb : len0 ≤ 35184372087808) (hS1 : Seg w a1 X1 len1) (hc1 : len1 ≤ cap1) (hb1 : len1 ≤ 35184372087808) (hS2 : Seg w a2 X2 len2) (hc2 : len2 ≤ cap2) (hb2 : len2 ≤ 35184372087808) :
    Calls Try.prog 5 #[.slice a0 len0 cap0, .slice a1 len1 cap1, .slice a2 len2 cap2] w fun e w' => e = .returned (.bool true) ∧ Below w.heap.size w w' := by
  have lX0 : ln X0 ≤ 35184372087808 := by have := ln_le_of_lt hS0.1; omega
  have lX1 : ln X1 ≤ 35184372087808 := by have := ln_le_of_lt hS1.1; omega
  have lX2 : ln X2 ≤ 35184372087808 := by have := ln_le_of_lt hS2.1; omega
  by_cases hlt : X2 < X1
  · have HL : Hid (X2 < X1) := hlt
    have hcm : cmpI X2 X1 < 0 := by rw [cmpI_lt hlt]; omega
    obtain ⟨Mm, hM⟩ : ∃ Z, X0 * X1 = Z := ⟨_, rfl⟩
    obtain ⟨Ss, hSs⟩ : ∃ Z, Mm + X2 = Z := ⟨_, rfl⟩
    have E1 : Hid (X0 * X1 = Mm) := hM
    have E2 : Hid (Mm + X2 = Ss) := hSs
    have E3 : Hid (Ss = X0 * X1 + X2) := by show _ = _; rw [hM, hSs]
    have lM : ln Mm ≤ 70368744175616 := by have := ln_prod hS0.1 hS1.1; rw [hM] at this; omega
    have lS : ln Ss ≤ 70368744175617 := by rw [← hSs]; exact ln_sum (ln_lt Mm) hS2.1 (by omega) (by omega)
    have q0 := sameB_self (ln X0) X0
    have q2 := sameB_self (ln X2) X2
    clear hlt hM hSs
    go_enter Try.func5, Try.ntmps5
    have B0 : Below w.heap.size w w := Below.refl _ _
    have s0 := hS0
    have s1 := hS1
    have s2 := hS2
    go_wp2_with fail
    refine (twin_any _ _ _ (X2) _ (by omega) s2).mono ?_
    rintro e wa1 ⟨ca1, rfl, hn1⟩
    replace s0 := s0.below hn1.below (Nat.le_refl _)
    replace s1 := s1.below hn1.below (Nat.le_refl _)
    replace s2 := s2.below hn1.below (Nat.le_refl _)
    have B1 := B0.trans (hn1.below.mono B0.size)
    clear B0
    have t1 := hn1.seg
    clear hn1
    go_wp2_with fail
    refine (twin_any _ _ _ (X1) _ (by omega) s1).mono ?_
    rintro e wa2 ⟨ca2, rfl, hn2⟩
    replace s0 := s0.below hn2.below (Nat.le_refl _)
    replace s1 := s1.below hn2.below (Nat.le_refl _)
    replace s2 := s2.below hn2.below (Nat.le_refl _)
    replace t1 := t1.below hn2.below (Nat.le_refl _)
    have B2 := B1.trans (hn2.below.mono B1.size)
    clear B1
    have t2 := hn2.seg
    clear hn2
    go_wp2_with fail
    refine (Cmp_any _ _ _ _ X2 _ _ X1 _ (by omega) (by omega) t1 (by omega) (by omega) t2).mono ?_
    rintro e wa3 ⟨rfl, hd3⟩
    replace s0 := s0.dr hd3
    replace s1 := s1.dr hd3
    replace s2 := s2.dr hd3
    replace t1 := t1.dr hd3
    replace t2 := t2.dr hd3
    have B3 := B2.trans (hd3.below _)
    clear B2 hd3
    clear t1
    clear t2
    go_wp2_with fail
    refine (twin_any _ _ _ (X0) _ (by omega) s0).mono ?_
    rintro e wa4 ⟨ca4, rfl, hn4⟩
    replace s0 := s0.below hn4.below (Nat.le_refl _)
    replace s1 := s1.below hn4.below (Nat.le_refl _)
    replace s2 := s2.below hn4.below (Nat.le_refl _)
    have B4 := B3.trans (hn4.below.mono B3.size)
    clear B3
    have t4 := hn4.seg
    clear hn4
    go_wp2_with fail
    refine (twin_any _ _ _ (X1) _ (by omega) s1).mono ?_
    rintro e wa5 ⟨ca5, rfl, hn5⟩
    replace s0 := s0.below hn5.below (Nat.le_refl _)
    replace s1 := s1.below hn5.below (Nat.le_refl _)
    replace s2 := s2.below hn5.below (Nat.le_refl _)
    replace t4 := t4.below hn5.below (Nat.le_refl _)
    have B5 := B4.trans (hn5.below.mono B4.size)
    clear B4
    have t5 := hn5.seg
    clear hn5
    go_wp2_with fail
    refine (Mul_is _ _ _ _ (X0) _ _ (X1) (Mm) _ (by omega) (by omega) t4 (by omega) (by omega) t5 E1.out).mono ?_
    rintro e wa6 ⟨ca6, rfl, hn6⟩
    replace s0 := s0.below hn6.below (Nat.le_refl _)
    replace s1 := s1.below hn6.below (Nat.le_refl _)
    replace s2 := s2.below hn6.below (Nat.le_refl _)
    replace t4 := t4.below hn6.below (Nat.le_refl _)
    replace t5 := t5.below hn6.below (Nat.le_refl _)
    have B6 := B5.trans (hn6.below.mono B5.size)
    clear B5
    have t6 := hn6.seg
    clear hn6
    clear t4
    clear t5
    go_wp2_with fail
    refine (twin_any _ _ _ (X2) _ (by omega) s2).mono ?_
    rintro e wa7 ⟨ca7, rfl, hn7⟩
    replace s0 := s0.below hn7.below (Nat.le_refl _)
    replace s1 := s1.below hn7.below (Nat.le_refl _)
    replace s2 := s2.below hn7.below (Nat.le_refl _)
    replace t6 := t6.below hn7.below (Nat.le_refl _)
    have B7 := B6.trans (hn7.below.mono B6.size)
    clear B6
    have t7 := hn7.seg
    clear hn7
    go_wp2_with fail
    refine (Add_is _ _ _ _ (Mm) _ _ (X2) (Ss) _ (by omega) (by omega) t6 (by omega) (by omega) t7 E2.out).mono ?_
    rintro e wa8 ⟨ca8, rfl, hn8⟩
    replace s0 := s0.below hn8.below (Nat.le_refl _)
    replace s1 := s1.below hn8.below (Nat.le_refl _)
    replace s2 := s2.below hn8.below (Nat.le_refl _)
    replace t6 := t6.below hn8.below (Nat.le_refl _)
    replace t7 := t7.below hn8.below (Nat.le_refl _)
    have B8 := B7.trans (hn8.below.mono B7.size)
    clear B7
    have t8 := hn8.seg
    clear hn8
    clear t7
    clear t6
    go_wp2_with fail
    refine (twin_any _ _ _ (X1) _ (by omega) s1).mono ?_
    rintro e wa9 ⟨ca9, rfl, hn9⟩
    replace s0 := s0.below hn9.below (Nat.le_refl _)
    replace s1 := s1.below hn9.below (Nat.le_refl _)
    replace s2 := s2.below hn9.below (Nat.le_refl _)
    replace t8 := t8.below hn9.below (Nat.le_refl _)
    have B9 := B8.trans (hn9.below.mono B8.size)
    clear B8
    have t9 := hn9.seg
    clear hn9
    go_wp2_with fail
    refine (Div_is _ _ _ _ Ss _ _ X1 X0 X2 _ (by omega) (by omega) t8 (by omega) (by omega) t9 E3.out HL.out).mono ?_
    rintro e wa10 ⟨aq, ar, rfl, hq10, hr10⟩
    replace s0 := s0.below hq10.below (Nat.le_refl _)
    replace s1 := s1.below hq10.below (Nat.le_refl _)
    replace s2 := s2.below hq10.below (Nat.le_refl _)
    replace t8 := t8.below hq10.below (Nat.le_refl _)
    replace t9 := t9.below hq10.below (Nat.le_refl _)
    have B10 := B9.trans (hq10.below.mono B9.size)
    clear B9
    have tq := hq10.seg
    have tr := hr10.seg
    clear hq10 hr10
    clear t8
    clear t9
    go_wp2_with fail
    refine (rNorm_any _ _ _ (X0) _ (by omega) s0).mono ?_
    rintro e wa11 ⟨ca11, rfl, hn11⟩
    replace s0 := s0.below hn11.below (Nat.le_refl _)
    replace s1 := s1.below hn11.below (Nat.le_refl _)
    replace s2 := s2.below hn11.below (Nat.le_refl _)
    replace tq := tq.below hn11.below (Nat.le_refl _)
    replace tr := tr.below hn11.below (Nat.le_refl _)
    have B11 := B10.trans (hn11.below.mono B10.size)
    clear B10
    have t11 := hn11.seg
    clear hn11
    go_wp2_with fail
    refine (same_any _ _ _ _ (X0) _ _ (X0) _ (by omega) (by omega) tq t11).mono ?_
    rintro e wa12 ⟨rfl, hd12⟩
    replace s0 := s0.dr hd12
    replace s1 := s1.dr hd12
    replace s2 := s2.dr hd12
    replace tq := tq.dr hd12
    replace tr := tr.dr hd12
    replace t11 := t11.dr hd12
    have B12 := B11.trans (hd12.below _)
    clear B11 hd12
    clear tq
    clear t11
    go_wp2_with fail
    refine (rNorm_any _ _ _ (X2) _ (by omega) s2).mono ?_
    rintro e wa13 ⟨ca13, rfl, hn13⟩
    replace s0 := s0.below hn13.below (Nat.le_refl _)
    replace s1 := s1.below hn13.below (Nat.le_refl _)
    replace s2 := s2.below hn13.below (Nat.le_refl _)
    replace tr := tr.below hn13.below (Nat.le_refl _)
    have B13 := B12.trans (hn13.below.mono B12.size)
    clear B12
    have t13 := hn13.seg
    clear hn13
    go_wp2_with fail
    refine (same_any _ _ _ _ (X2) _ _ (X2) _ (by omega) (by omega) tr t13).mono ?_
    rintro e wa14 ⟨rfl, hd14⟩
    replace s0 := s0.dr hd14
    replace s1 := s1.dr hd14
    replace s2 := s2.dr hd14
    replace tr := tr.dr hd14
    replace t13 := t13.dr hd14
    have B14 := B13.trans (hd14.below _)
    clear B13 hd14
    go_wp2
    go_ret
    exact ⟨rfl, B14⟩
  · have hcm : ¬ cmpI X2 X1 < 0 := by unfold cmpI; rw [if_neg hlt]; split <;> simp
    clear hlt
    by_cases h0 : X1 = 0
    · subst h0
      have hln : (((ln 0 : Nat) : Int) == 0) = true := by rw [ln_zero]; rfl
      go_enter Try.func5, Try.ntmps5
      have B0 : Below w.heap.size w w := Below.refl _ _
      have s0 := hS0
      have s1 := hS1
      have s2 := hS2
      go_wp2_with fail
      refine (twin_any _ _ _ (X2) _ (by omega) s2).mono ?_
      rintro e wa1 ⟨ca1, rfl, hn1⟩
      replace s0 := s0.below hn1.below (Nat.le_refl _)
      replace s1 := s1.below hn1.below (Nat.le_refl _)
      replace s2 := s2.below hn1.below (Nat.le_refl _)
      have B1 := B0.trans (hn1.below.mono B0.size)
      clear B0
      have t1 := hn1.seg
      clear hn1
      go_wp2_with fail
      refine (twin_any _ _ _ (0) _ (by omega) s1).mono ?_
      rintro e wa2 ⟨ca2, rfl, hn2⟩
      replace s0 := s0.below hn2.below (Nat.le_refl _)
      replace s1 := s1.below hn2.below (Nat.le_refl _)
      replace s2 := s2.below hn2.below (Nat.le_refl _)
      replace t1 := t1.below hn2.below (Nat.le_refl _)
      have B2 := B1.trans (hn2.below.mono B1.size)
      clear B1
      have t2 := hn2.seg
      clear hn2
      go_wp2_with fail
      refine (Cmp_any _ _ _ _ X2 _ _ 0 _ (by omega) (by omega) t1 (by omega) (by omega) t2).mono ?_
      rintro e wa3 ⟨rfl, hd3⟩
      replace s0 := s0.dr hd3
      replace s1 := s1.dr hd3
      replace s2 := s2.dr hd3
      replace t1 := t1.dr hd3
      replace t2 := t2.dr hd3
      have B3 := B2.trans (hd3.below _)
      clear B2 hd3
      clear t1
      clear t2
      go_wp2_with fail
      refine (twin_any _ _ _ (X2) _ (by omega) s2).mono ?_
      rintro e wa4 ⟨ca4, rfl, hn4⟩
      replace s0 := s0.below hn4.below (Nat.le_refl _)
      replace s1 := s1.below hn4.below (Nat.le_refl _)
      replace s2 := s2.below hn4.below (Nat.le_refl _)
      have B4 := B3.trans (hn4.below.mono B3.size)
      clear B3
      have t4 := hn4.seg
      clear hn4
      go_wp2_with fail
      refine (twin_any _ _ _ (0) _ (by omega) s1).mono ?_
      rintro e wa5 ⟨ca5, rfl, hn5⟩
      replace s0 := s0.below hn5.below (Nat.le_refl _)
      replace s1 := s1.below hn5.below (Nat.le_refl _)
      replace s2 := s2.below hn5.below (Nat.le_refl _)
      replace t4 := t4.below hn5.below (Nat.le_refl _)
      have B5 := B4.trans (hn5.below.mono B4.size)
      clear B4
      have t5 := hn5.seg
      clear hn5
      go_wp2_with fail
      refine (Div_zero _ _ _ _ X2 _ _ _ (by omega) (by omega) t4 (by omega) (by omega) t5).mono ?_
      rintro e wa6 ⟨rfl, rfl⟩
      go_wp2_with fail
      refine (rNorm_any _ _ _ (0) _ (by omega) s1).mono ?_
      rintro e wa7 ⟨ca7, rfl, hn7⟩
      replace s0 := s0.below hn7.below (Nat.le_refl _)
      replace s1 := s1.below hn7.below (Nat.le_refl _)
      replace s2 := s2.below hn7.below (Nat.le_refl _)
      replace t4 := t4.below hn7.below (Nat.le_refl _)
      replace t5 := t5.below hn7.below (Nat.le_refl _)
      have B7 := B5.trans (hn7.below.mono B5.size)
      clear B5
      have t7 := hn7.seg
      clear hn7
      go_wp2
      go_ret
      exact ⟨rfl, B7⟩
    · have HN : Hid (X1 ≠ 0) := h0
      have hln : (((ln X1 : Nat) : Int) == 0) = false := by rw [beq_eq_false_iff_ne]; have := mt ln_eq_zero.1 h0; omega
      clear h0
      go_enter Try.func5, Try.ntmps5
      have B0 : Below w.heap.size w w := Below.refl _ _
      have s0 := hS0
      have s1 := hS1
      have s2 := hS2
      go_wp2_with fail
      refine (twin_any _ _ _ (X2) _ (by omega) s2).mono ?_
      rintro e wa1 ⟨ca1, rfl, hn1⟩
      replace s0 := s0.below hn1.below (Nat.le_refl _)
      replace s1 := s1.below hn1.below (Nat.le_refl _)
      replace s2 := s2.below hn1.below (Nat.le_refl _)
      have B1 := B0.trans (hn1.below.mono B0.size)
      clear B0
      have t1 := hn1.seg
      clear hn1
      go_wp2_with fail
      refine (twin_any _ _ _ (X1) _ (by omega) s1).mono ?_
      rintro e wa2 ⟨ca2, rfl, hn2⟩
      replace s0 := s0.below hn2.below (Nat.le_refl _)
      replace s1 := s1.below hn2.below (Nat.le_refl _)
      replace s2 := s2.below hn2.below (Nat.le_refl _)
      replace t1 := t1.below hn2.below (Nat.le_refl _)
      have B2 := B1.trans (hn2.below.mono B1.size)
      clear B1
      have t2 := hn2.seg
      clear hn2
      go_wp2_with fail
      refine (Cmp_any _ _ _ _ X2 _ _ X1 _ (by omega) (by omega) t1 (by omega) (by omega) t2).mono ?_
      rintro e wa3 ⟨rfl, hd3⟩
      replace s0 := s0.dr hd3
      replace s1 := s1.dr hd3
      replace s2 := s2.dr hd3
      replace t1 := t1.dr hd3
      replace t2 := t2.dr hd3
      have B3 := B2.trans (hd3.below _)
      clear B2 hd3
      clear t1
      clear t2
      go_wp2_with fail
      refine (twin_any _ _ _ (X2) _ (by omega) s2).mono ?_
      rintro e wa4 ⟨ca4, rfl, hn4⟩
      replace s0 := s0.below hn4.below (Nat.le_refl _)
      replace s1 := s1.below hn4.below (Nat.le_refl _)
      replace s2 := s2.below hn4.below (Nat.le_refl _)
      have B4 := B3.trans (hn4.below.mono B3.size)
      clear B3
      have t4 := hn4.seg
      clear hn4
      go_wp2_with fail
      refine (twin_any _ _ _ (X1) _ (by omega) s1).mono ?_
      rintro e wa5 ⟨ca5, rfl, hn5⟩
      replace s0 := s0.below hn5.below (Nat.le_refl _)
      replace s1 := s1.below hn5.below (Nat.le_refl _)
      replace s2 := s2.below hn5.below (Nat.le_refl _)
      replace t4 := t4.below hn5.below (Nat.le_refl _)
      have B5 := B4.trans (hn5.below.mono B4.size)
      clear B4
      have t5 := hn5.seg
      clear hn5
      go_wp2_with fail
      refine (Div_any _ _ _ _ X2 _ _ X1 _ (by omega) (by omega) t4 (by omega) (by omega) t5 HN.out).mono ?_
      rintro e wa6 ⟨aq, ar, rfl, hq6, hr6⟩
      replace s0 := s0.below hq6.below (Nat.le_refl _)
      replace s1 := s1.below hq6.below (Nat.le_refl _)
      replace s2 := s2.below hq6.below (Nat.le_refl _)
      replace t4 := t4.below hq6.below (Nat.le_refl _)
      replace t5 := t5.below hq6.below (Nat.le_refl _)
      have B6 := B5.trans (hq6.below.mono B5.size)
      clear B5
      clear hq6 hr6
      go_wp2_with fail
      refine (rNorm_any _ _ _ (X1) _ (by omega) s1).mono ?_
      rintro e wa7 ⟨ca7, rfl, hn7⟩
      replace s0 := s0.below hn7.below (Nat.le_refl _)
      replace s1 := s1.below hn7.below (Nat.le_refl _)
      replace s2 := s2.below hn7.below (Nat.le_refl _)
      replace t4 := t4.below hn7.below (Nat.le_refl _)
      replace t5 := t5.below hn7.below (Nat.le_refl _)
      have B7 := B6.trans (hn7.below.mono B6.size)
      clear B6
      have t7 := hn7.seg
      clear hn7
      go_wp2
      go_ret
      exact ⟨rfl, B7⟩

theorem contract (H : Type) (enc : TypeId × Value → H) (W : World) (base : Nat) (args : Array Value) (ds gs : List (DataW H)) (before : List MemPlace)
    (hval : ∀ (j : Nat) t v, Try.f5.params[j]? = some t → args[j]? = some v → Value.okWide Try.prog W .any base t v)
    (hW : DataW.Whole enc Try.prog Try.f5.params.toList Rows.natDivisionSpec.vars false W args.toList ds gs before)
    (hsz : (DataW.weightsEach Try.prog (Try.f5.params.toList ++ Rows.natDivisionSpec.plain.varTypes Try.prog) (ds ++ gs)).all (· ≤ reachBytes) = true) :
    Calls Try.prog 5 args W fun e W' => ∃ v, e = .returned v ∧ Rows.natDivisionSpec.post enc Try.prog Try.f5 false true false false W args v W' := by
  have hW' := hW
  obtain ⟨p, q, hA0, hV, rfl, hfz, hnd⟩ := hW
  have hA : DataW.TrodAll enc Try.prog W 0 (fun _ => true) true Try.f5.params.toList args.toList ds p := hA0
  rw [Try.params5] at hA hval hsz
  obtain ⟨v0, vs0, d0, ds0, p0, q0, hargs, rfl, rfl, h0, r0⟩ := trodAll_cons hA
  obtain ⟨v1, vs1, d1, ds1, p1, q1, rfl, rfl, rfl, h1, r1⟩ := trodAll_cons r0
  obtain ⟨v2, vs2, d2, ds2, p2, q2, rfl, rfl, rfl, h2, r2⟩ := trodAll_cons r1
  obtain ⟨rfl, rfl, rfl⟩ := trodAll_nil r2
  obtain rfl : args = #[v0, v1, v2] := by cases args; simp_all
  obtain ⟨rfl, rfl⟩ := trodVars_none hV
  obtain ⟨a0, len0, cap0, rfl⟩ := okWide_slice Try.underlying22 (hval 0 22 v0 rfl rfl)
  have lt0 : ∀ x ∈ p0, x.block < W.heap.size := by obtain ⟨m, hm⟩ := h0; exact DataW.trod_lt m _ _ _ hm
  obtain ⟨X0, hS0, hc0, hb0, hu0⟩ := open_nat Try.underlying22 h0 (fun elems spare h => sized_slice hsz (j := 0) (t := 22) (e := 29) rfl (by rw [h]; rfl) Try.underlying22)
  obtain ⟨a1, len1, cap1, rfl⟩ := okWide_slice Try.underlying22 (hval 1 22 v1 rfl rfl)
  have lt1 : ∀ x ∈ p1, x.block < W.heap.size := by obtain ⟨m, hm⟩ := h1; exact DataW.trod_lt m _ _ _ hm
  obtain ⟨X1, hS1, hc1, hb1, hu1⟩ := open_nat Try.underlying22 h1 (fun elems spare h => sized_slice hsz (j := 1) (t := 22) (e := 29) rfl (by rw [h]; rfl) Try.underlying22)
  obtain ⟨a2, len2, cap2, rfl⟩ := okWide_slice Try.underlying22 (hval 2 22 v2 rfl rfl)
  have lt2 : ∀ x ∈ p2, x.block < W.heap.size := by obtain ⟨m, hm⟩ := h2; exact DataW.trod_lt m _ _ _ hm
  obtain ⟨X2, hS2, hc2, hb2, hu2⟩ := open_nat Try.underlying22 h2 (fun elems spare h => sized_slice hsz (j := 2) (t := 22) (e := 29) rfl (by rw [h]; rfl) Try.underlying22)
  clear hA0
  simp only [List.append_nil] at hW'
  refine (walk a0 len0 cap0 X0 a1 len1 cap1 X1 a2 len2 cap2 X2 W hS0 hc0 hb0 hS1 hc1 hb1 hS2 hc2 hb2).mono fun e W' ⟨he, bel⟩ => ?_
  subst he
  exact ⟨_, rfl, _, _, _, [], _, [], hW', trodAll_mk1 (shut_bool Try.underlying4 _), (trodAll_cons_mk (Below.trod laidOut (by kernel_rfl) (of_decide_eq_true (by kernel_rfl)) h0 bel lt0) (trodAll_cons_mk (Below.trod laidOut (by kernel_rfl) (of_decide_eq_true (by kernel_rfl)) h1 bel lt1) (trodAll_cons_mk (Below.trod laidOut (by kernel_rfl) (of_decide_eq_true (by kernel_rfl)) h2 bel lt2) trodAll_mk0))), rfl, bel.frame _, fun h => by cases h⟩

set_option maxRecDepth 100000 in
theorem lifted (os : Os) (started : os.Started) (H : Type) (enc : TypeId × Value → H) :
    ReturnsInHanded {} Try.checked os 5 .any (Rows.natDivisionSpec.pre6 enc Try.prog Try.f5 Rows.natDivisionRow.domain false) (Rows.natDivisionSpec.post enc Try.prog Try.f5 false true false false) := by
  refine returnsInHanded_of_change_sized (C := Try.checked) own started (by kernel_rfl) Try.func5
    (ChangeSpec.witness6 (enc := enc) (C := Try.checked) false ⟨#[], #[.slice none 0 0, .slice none 0 0, .slice none 0 0], []⟩ 8 (by kernel_rfl) (by kernel_rfl) (by kernel_rfl) (by kernel_rfl)) ?_
  intro W base args ds gs before hval hW _ hsz _
  exact contract H enc W base args ds gs before hval hW hsz

theorem over : Rows.natDivisionRow.holds Try.pinned (OpenSpec.ofChange Rows.natDivisionSpec) :=
  OpenClaim.holds_of_wide 5 Try.f5 rfl rfl rfl rfl rfl rfl rfl ⟨rfl, rfl, rfl, rfl, rfl⟩ rfl rfl rfl rfl rfl (by kernel_rfl) Try.func5 (by kernel_rfl)
    (of_decide_eq_true (by kernel_rfl)) (by unfold Func.isWrapper; first | (rw [if_pos (by decide +kernel)]; kernel_rfl) | (rw [if_neg (by decide +kernel)]; exact ⟨rfl, rfl⟩))
    (fun os started H enc _ => lifted os started H enc)

end Go.Proofs.Ytkbjfdfooompbab.natDivision
namespace Go.Proofs.Ytkbjfdfooompbab
theorem natDivision_holds : Rows.NatDivisionSaid := natDivision.over
#print axioms natDivision_holds
end Go.Proofs.Ytkbjfdfooompbab
