/-
  NatShifts: Shift is what the document says.
-/
import Derived.Test.YtkbjfdfooompbabW14
import Derived.Test.YtkbjfdfooompbabW3
import Derived.Test.YtkbjfdfooompbabOpen
namespace Go.Proofs.Ytkbjfdfooompbab.natShifts
open Go.ChangeShapes Go.WideShapes Go.ChangeAt Go.RowKit Go.Proofs.Ytkbjfdfooompbab
set_option linter.unusedVariables false

theorem Up_is (ao : Option Addr) (n cap X s Z : Nat) (w : World) (hc : n ≤ cap) (hm : n ≤ 35184372088832) (hs : s ≤ 1048576) (hS : Seg w ao X n) (hz : X * 2 ^ s = Z) :
    Calls Try.prog 6 #[.slice ao n cap, .int .i64 s] w fun e w' => ∃ ao', e = .returned (.tuple #[.slice ao' (ln Z) (ln Z), .int .i64 0]) ∧ New w w' ao' Z (ln Z) := by
  subst hz; exact Shift_up ao n cap X s w hc hm hs hS
theorem Down_is (ao : Option Addr) (n cap X s Z : Nat) (w : World) (hc : n ≤ cap) (hm : n ≤ 35184372088832) (h0 : 0 < s) (hs : s ≤ 1048576) (hS : Seg w ao X n) (hz : X / 2 ^ s = Z) :
    Calls Try.prog 6 #[.slice ao n cap, .int .i64 (-(s : Int))] w fun e w' => ∃ ao', e = .returned (.tuple #[.slice ao' (ln Z) (ln Z), .int .i64 0]) ∧ New w w' ao' Z (ln Z) := by
  subst hz; exact Shift_down ao n cap X s w hc hm h0 hs hS
theorem rUp_is (ao : Option Addr) (n cap X s Z : Nat) (w : World) (hm : n ≤ 35184372088832) (hs : s ≤ 1048576) (hS : Seg w ao X n) (hz : X * 2 ^ s = Z) :
    Calls Try.prog 8 #[.slice ao n cap, .int .i64 s] w fun e w' => ∃ ao', e = .returned (.tuple #[.slice ao' (ln Z) (ln Z), .int .i64 0]) ∧ Seg w' ao' Z (ln Z) ∧ Below w.heap.size w w' := by
  by_cases hX : X = 0
  · subst hX
    rw [Nat.zero_mul] at hz
    subst hz
    refine (rShift_zero ao n cap s w (by omega) (by omega) (by omega) hS).mono ?_
    rintro e w' ⟨a, rfl, hb⟩
    rw [ln_zero]
    exact ⟨a, rfl, Seg.nil _ _, hb⟩
  · subst hz
    refine (rShift_up ao n cap X s w (by omega) hs hS hX).mono ?_
    rintro e w' ⟨a, rfl, hn⟩
    exact ⟨a, rfl, hn.seg, hn.below⟩
theorem rDown_is (ao : Option Addr) (n cap X s Z : Nat) (w : World) (hm : n ≤ 35184372088832) (h0 : 0 < s) (hs : s ≤ 1048576) (hS : Seg w ao X n) (hz : X / 2 ^ s = Z) :
    Calls Try.prog 8 #[.slice ao n cap, .int .i64 (-(s : Int))] w fun e w' => ∃ ao', e = .returned (.tuple #[.slice ao' (ln Z) (ln Z), .int .i64 0]) ∧ Seg w' ao' Z (ln Z) ∧ Below w.heap.size w w' := by
  by_cases hX : X = 0
  · subst hX
    rw [Nat.zero_div] at hz
    subst hz
    refine (rShift_zero ao n cap (-(s : Int)) w (by omega) (by omega) (by omega) hS).mono ?_
    rintro e w' ⟨a, rfl, hb⟩
    rw [ln_zero]
    exact ⟨a, rfl, Seg.nil _ _, hb⟩
  · subst hz
    refine (rShift_down ao n cap X s w (by omega) h0 hs hS hX).mono ?_
    rintro e w' ⟨a, rfl, hn⟩
    exact ⟨a, rfl, hn.seg, hn.below⟩
theorem ln8 : ln 8589934592 = 2 := ln_of_top (by rw [BB_eq]; omega) (by rw [dg1]; omega)
theorem Up_33 (ao : Option Addr) (w : World) (hS : Seg w ao 1 1) :
    Calls Try.prog 6 #[.slice ao 1 1, .int .i64 33] w fun e w' => ∃ ao', e = .returned (.tuple #[.slice ao' 2 2, .int .i64 0]) ∧ New w w' ao' 8589934592 2 := by
  have := Up_is ao 1 1 1 33 8589934592 w (by omega) (by omega) (by omega) hS (by omega)
  rwa [ln8] at this

set_option maxHeartbeats 4000000 in
theorem walk (a0 : Option Addr) (len0 cap0 X0 : Nat) (z1 : Int) (w : World) (hS0 : Seg w a0 X0 len0) (hc : len0 ≤ cap0) (hb : len0 ≤ 35184372087808) (h1 : -9223372036854775808 ≤ z1) (h2 : z1 ≤ 9223372036854775807) :
    Calls Try.prog 3 #[.slice a0 len0 cap0, .int .i64 z1] w fun e w' => e = .returned (.bool true) ∧ Below w.heap.size w w' := by
  have q8 := sameB_self 2 8589934592
  by_cases hno : z1 < -1048576 ∨ 1048576 < z1
  · have q0 := sameB_self 0 0
    go_enter Try.func3, Try.ntmps3
    have B0 : Below w.heap.size w w := Below.refl _ _
    have s0 := hS0
    go_wp2_with fail
    refine (twin_any _ _ _ (X0) _ (by omega) s0).mono ?_
    rintro e wa1 ⟨ca1, rfl, hn1⟩
    replace s0 := s0.below hn1.below (Nat.le_refl _)
    have B1 := B0.trans (hn1.below.mono B0.size)
    clear B0
    have t1 := hn1.seg
    clear hn1
    go_wp2_with fail
    refine (Shift_no _ _ _ z1 _ hno).mono ?_
    rintro e wa2 ⟨rfl, rfl⟩
    clear t1
    go_wp2_with fail
    refine (rShift_no _ _ _ z1 _ hno).mono ?_
    rintro e wa3 ⟨rfl, rfl⟩
    go_wp2_with fail
    refine (same_any _ _ _ _ 0 _ _ 0 _ (by omega) (by omega) (Seg.nil _ _) (Seg.nil _ _)).mono ?_
    rintro e wa4 ⟨rfl, hd4⟩
    replace s0 := s0.dr hd4
    have B4 := B1.trans (hd4.below _)
    clear B1 hd4
    go_wp2_with fail
    have hn5 := single_new wa4 1 29 1 (by omega) rfl
    replace s0 := s0.below hn5.below (Nat.le_refl _)
    have B5 := B4.trans (hn5.below.mono B4.size)
    clear B4
    have t5 := hn5.seg
    clear hn5
    go_wp2_with fail
    refine (Up_33 _ _ t5).mono ?_
    rintro e wa6 ⟨ca6, rfl, hn6⟩
    replace s0 := s0.below hn6.below (Nat.le_refl _)
    replace t5 := t5.below hn6.below (Nat.le_refl _)
    have B6 := B5.trans (hn6.below.mono B5.size)
    clear B5
    have t6 := hn6.seg
    clear hn6
    clear t5
    go_wp2_with fail
    have hn7 := pair_new wa6 8589934592 29 0 2 (by omega) (by rw [dg0]; rfl) (by rw [dg1]; rfl)
    replace s0 := s0.below hn7.below (Nat.le_refl _)
    replace t6 := t6.below hn7.below (Nat.le_refl _)
    have B7 := B6.trans (hn7.below.mono B6.size)
    clear B6
    have t7 := hn7.seg
    clear hn7
    go_wp2_with fail
    refine (same_any _ _ _ _ (8589934592) _ _ (8589934592) _ (by omega) (by omega) t6 t7).mono ?_
    rintro e wa8 ⟨rfl, hd8⟩
    replace s0 := s0.dr hd8
    replace t6 := t6.dr hd8
    replace t7 := t7.dr hd8
    have B8 := B7.trans (hd8.below _)
    clear B7 hd8
    go_wp2
    go_ret
    exact ⟨rfl, B8⟩
  · by_cases hneg : z1 < 0
    · obtain ⟨m, rfl⟩ : ∃ m : Nat, z1 = -(m : Int) := ⟨(-z1).toNat, by omega⟩
      have hm0 : 0 < m := by omega
      have hm : m ≤ 1048576 := by omega
      obtain ⟨Z, hZ⟩ : ∃ Z, X0 / 2 ^ m = Z := ⟨_, rfl⟩
      have E1 : Hid (X0 / 2 ^ m = Z) := hZ
      have lZ : ln Z ≤ 35184372087808 := by have := ln_le_of_lt (Nat.lt_of_le_of_lt (Nat.div_le_self X0 (2 ^ m)) hS0.1); rw [hZ] at this; omega
      have qZ := sameB_self (ln Z) Z
      clear hno hneg hZ h1 h2
      go_enter Try.func3, Try.ntmps3
      have B0 : Below w.heap.size w w := Below.refl _ _
      have s0 := hS0
      go_wp2_with fail
      refine (twin_any _ _ _ (X0) _ (by omega) s0).mono ?_
      rintro e wa1 ⟨ca1, rfl, hn1⟩
      replace s0 := s0.below hn1.below (Nat.le_refl _)
      have B1 := B0.trans (hn1.below.mono B0.size)
      clear B0
      have t1 := hn1.seg
      clear hn1
      go_wp2_with fail
      refine (Down_is _ _ _ X0 m Z _ (by omega) (by omega) hm0 (by omega) t1 E1.out).mono ?_
      rintro e wa2 ⟨ca2, rfl, hn2⟩
      replace s0 := s0.below hn2.below (Nat.le_refl _)
      replace t1 := t1.below hn2.below (Nat.le_refl _)
      have B2 := B1.trans (hn2.below.mono B1.size)
      clear B1
      have t2 := hn2.seg
      clear hn2
      clear t1
      go_wp2_with fail
      refine (rDown_is _ _ _ X0 m Z _ (by omega) hm0 (by omega) s0 E1.out).mono ?_
      rintro e wa3 ⟨ca3, rfl, ts3, hb3⟩
      replace s0 := s0.below hb3 (Nat.le_refl _)
      replace t2 := t2.below hb3 (Nat.le_refl _)
      have B3 := B2.trans (hb3.mono B2.size)
      clear B2
      clear hb3
      go_wp2_with fail
      refine (same_any _ _ _ _ (Z) _ _ (Z) _ (by omega) (by omega) t2 ts3).mono ?_
      rintro e wa4 ⟨rfl, hd4⟩
      replace s0 := s0.dr hd4
      replace t2 := t2.dr hd4
      replace ts3 := ts3.dr hd4
      have B4 := B3.trans (hd4.below _)
      clear B3 hd4
      clear t2
      clear ts3
      go_wp2_with fail
      have hn5 := single_new wa4 1 29 1 (by omega) rfl
      replace s0 := s0.below hn5.below (Nat.le_refl _)
      have B5 := B4.trans (hn5.below.mono B4.size)
      clear B4
      have t5 := hn5.seg
      clear hn5
      go_wp2_with fail
      refine (Up_33 _ _ t5).mono ?_
      rintro e wa6 ⟨ca6, rfl, hn6⟩
      replace s0 := s0.below hn6.below (Nat.le_refl _)
      replace t5 := t5.below hn6.below (Nat.le_refl _)
      have B6 := B5.trans (hn6.below.mono B5.size)
      clear B5
      have t6 := hn6.seg
      clear hn6
      clear t5
      go_wp2_with fail
      have hn7 := pair_new wa6 8589934592 29 0 2 (by omega) (by rw [dg0]; rfl) (by rw [dg1]; rfl)
      replace s0 := s0.below hn7.below (Nat.le_refl _)
      replace t6 := t6.below hn7.below (Nat.le_refl _)
      have B7 := B6.trans (hn7.below.mono B6.size)
      clear B6
      have t7 := hn7.seg
      clear hn7
      go_wp2_with fail
      refine (same_any _ _ _ _ (8589934592) _ _ (8589934592) _ (by omega) (by omega) t6 t7).mono ?_
      rintro e wa8 ⟨rfl, hd8⟩
      replace s0 := s0.dr hd8
      replace t6 := t6.dr hd8
      replace t7 := t7.dr hd8
      have B8 := B7.trans (hd8.below _)
      clear B7 hd8
      go_wp2
      go_ret
      exact ⟨rfl, B8⟩
    · obtain ⟨m, rfl⟩ := Int.eq_ofNat_of_zero_le (show 0 ≤ z1 by omega)
      have hm : m ≤ 1048576 := by omega
      obtain ⟨Z, hZ⟩ : ∃ Z, X0 * 2 ^ m = Z := ⟨_, rfl⟩
      have E1 : Hid (X0 * 2 ^ m = Z) := hZ
      have lZ : ln Z ≤ 35184372087808 + 40000 := by
        obtain ⟨K, hK, hK2⟩ : ∃ K : Nat, m < 32 * K ∧ K ≤ 32769 := ⟨32769, by omega, Nat.le_refl _⟩
        have h3 : 2 ^ m < BB ^ K := by rw [BB_two']; exact Nat.pow_lt_pow_right (by omega) hK
        have := ln_prod hS0.1 h3; rw [hZ] at this; omega
      have qZ := sameB_self (ln Z) Z
      clear hno hneg hZ h1 h2
      go_enter Try.func3, Try.ntmps3
      have B0 : Below w.heap.size w w := Below.refl _ _
      have s0 := hS0
      go_wp2_with fail
      refine (twin_any _ _ _ (X0) _ (by omega) s0).mono ?_
      rintro e wa1 ⟨ca1, rfl, hn1⟩
      replace s0 := s0.below hn1.below (Nat.le_refl _)
      have B1 := B0.trans (hn1.below.mono B0.size)
      clear B0
      have t1 := hn1.seg
      clear hn1
      go_wp2_with fail
      refine (Up_is _ _ _ X0 m Z _ (by omega) (by omega) (by omega) t1 E1.out).mono ?_
      rintro e wa2 ⟨ca2, rfl, hn2⟩
      replace s0 := s0.below hn2.below (Nat.le_refl _)
      replace t1 := t1.below hn2.below (Nat.le_refl _)
      have B2 := B1.trans (hn2.below.mono B1.size)
      clear B1
      have t2 := hn2.seg
      clear hn2
      clear t1
      go_wp2_with fail
      refine (rUp_is _ _ _ X0 m Z _ (by omega) (by omega) s0 E1.out).mono ?_
      rintro e wa3 ⟨ca3, rfl, ts3, hb3⟩
      replace s0 := s0.below hb3 (Nat.le_refl _)
      replace t2 := t2.below hb3 (Nat.le_refl _)
      have B3 := B2.trans (hb3.mono B2.size)
      clear B2
      clear hb3
      go_wp2_with fail
      refine (same_any _ _ _ _ (Z) _ _ (Z) _ (by omega) (by omega) t2 ts3).mono ?_
      rintro e wa4 ⟨rfl, hd4⟩
      replace s0 := s0.dr hd4
      replace t2 := t2.dr hd4
      replace ts3 := ts3.dr hd4
      have B4 := B3.trans (hd4.below _)
      clear B3 hd4
      clear t2
      clear ts3
      go_wp2_with fail
      have hn5 := single_new wa4 1 29 1 (by omega) rfl
      replace s0 := s0.below hn5.below (Nat.le_refl _)
      have B5 := B4.trans (hn5.below.mono B4.size)
      clear B4
      have t5 := hn5.seg
      clear hn5
      go_wp2_with fail
      refine (Up_33 _ _ t5).mono ?_
      rintro e wa6 ⟨ca6, rfl, hn6⟩
      replace s0 := s0.below hn6.below (Nat.le_refl _)
      replace t5 := t5.below hn6.below (Nat.le_refl _)
      have B6 := B5.trans (hn6.below.mono B5.size)
      clear B5
      have t6 := hn6.seg
      clear hn6
      clear t5
      go_wp2_with fail
      have hn7 := pair_new wa6 8589934592 29 0 2 (by omega) (by rw [dg0]; rfl) (by rw [dg1]; rfl)
      replace s0 := s0.below hn7.below (Nat.le_refl _)
      replace t6 := t6.below hn7.below (Nat.le_refl _)
      have B7 := B6.trans (hn7.below.mono B6.size)
      clear B6
      have t7 := hn7.seg
      clear hn7
      go_wp2_with fail
      refine (same_any _ _ _ _ (8589934592) _ _ (8589934592) _ (by omega) (by omega) t6 t7).mono ?_
      rintro e wa8 ⟨rfl, hd8⟩
      replace s0 := s0.dr hd8
      replace t6 := t6.dr hd8
      replace t7 := t7.dr hd8
      have B8 := B7.trans (hd8.below _)
      clear B7 hd8
      go_wp2
      go_ret
      exact ⟨rfl, B8⟩

theorem contract (H : Type) (enc : TypeId × Value → H) (W : World) (base : Nat) (args : Array Value) (ds gs : List (DataW H)) (before : List MemPlace)
    (hval : ∀ (j : Nat) t v, Try.f3.params[j]? = some t → args[j]? = some v → Value.okWide Try.prog W .any base t v)
    (hW : DataW.Whole enc Try.prog Try.f3.params.toList Rows.natShiftsSpec.vars false W args.toList ds gs before)
    (hsz : (DataW.weightsEach Try.prog (Try.f3.params.toList ++ Rows.natShiftsSpec.plain.varTypes Try.prog) (ds ++ gs)).all (· ≤ reachBytes) = true) :
    Calls Try.prog 3 args W fun e W' => ∃ v, e = .returned v ∧ Rows.natShiftsSpec.post enc Try.prog Try.f3 false true false false W args v W' := by
  have hW' := hW
  obtain ⟨p, q, hA0, hV, rfl, hfz, hnd⟩ := hW
  have hA : DataW.TrodAll enc Try.prog W 0 (fun _ => true) true Try.f3.params.toList args.toList ds p := hA0
  rw [Try.params3] at hA hval hsz
  obtain ⟨v0, vs0, d0, ds0, p0, q0, hargs, rfl, rfl, h0, r0⟩ := trodAll_cons hA
  obtain ⟨v1, vs1, d1, ds1, p1, q1, rfl, rfl, rfl, h1, r1⟩ := trodAll_cons r0
  obtain ⟨rfl, rfl, rfl⟩ := trodAll_nil r1
  obtain rfl : args = #[v0, v1] := by cases args; simp_all
  obtain ⟨rfl, rfl⟩ := trodVars_none hV
  obtain ⟨a0, len0, cap0, rfl⟩ := okWide_slice Try.underlying22 (hval 0 22 v0 rfl rfl)
  have lt0 : ∀ x ∈ p0, x.block < W.heap.size := by obtain ⟨m, hm⟩ := h0; exact DataW.trod_lt m _ _ _ hm
  obtain ⟨X0, hS0, hc0, hb0, hu0⟩ := open_nat Try.underlying22 h0 (fun elems spare h => sized_slice hsz (j := 0) (t := 22) (e := 29) rfl (by rw [h]; rfl) Try.underlying22)
  obtain ⟨z1, rfl, rfl, rfl, w1⟩ := open_int Try.underlying3 (hval 1 3 v1 rfl rfl) h1
  have bz1 := bounds_i64 w1
  clear hA0
  simp only [List.append_nil] at hW'
  refine (walk a0 len0 cap0 X0 z1 W hS0 hc0 hb0 (by omega) (by omega)).mono fun e W' ⟨he, bel⟩ => ?_
  subst he
  exact ⟨_, rfl, _, _, _, [], _, [], hW', trodAll_mk1 (shut_bool Try.underlying4 _), (trodAll_cons_mk (Below.trod laidOut (by kernel_rfl) (of_decide_eq_true (by kernel_rfl)) h0 bel lt0) (trodAll_cons_mk (shut_int Try.underlying3 w1) trodAll_mk0)), rfl, bel.frame _, fun h => by cases h⟩

set_option maxRecDepth 100000 in
theorem lifted (os : Os) (started : os.Started) (H : Type) (enc : TypeId × Value → H) :
    ReturnsInHanded {} Try.checked os 3 .any (Rows.natShiftsSpec.pre6 enc Try.prog Try.f3 Rows.natShiftsRow.domain false) (Rows.natShiftsSpec.post enc Try.prog Try.f3 false true false false) := by
  refine returnsInHanded_of_change_sized (C := Try.checked) own started (by kernel_rfl) Try.func3
    (ChangeSpec.witness6 (enc := enc) (C := Try.checked) false ⟨#[], #[.slice none 0 0, .int .i64 0], []⟩ 8 (by kernel_rfl) (by kernel_rfl) (by kernel_rfl) (by kernel_rfl)) ?_
  intro W base args ds gs before hval hW _ hsz _
  exact contract H enc W base args ds gs before hval hW hsz

theorem over : Rows.natShiftsRow.holds Try.pinned (OpenSpec.ofChange Rows.natShiftsSpec) :=
  OpenClaim.holds_of_wide 3 Try.f3 rfl rfl rfl rfl rfl rfl rfl ⟨rfl, rfl, rfl, rfl, rfl⟩ rfl rfl rfl rfl rfl (by kernel_rfl) Try.func3 (by kernel_rfl)
    (of_decide_eq_true (by kernel_rfl)) (by unfold Func.isWrapper; first | (rw [if_pos (by decide +kernel)]; kernel_rfl) | (rw [if_neg (by decide +kernel)]; exact ⟨rfl, rfl⟩))
    (fun os started H enc _ => lifted os started H enc)

end Go.Proofs.Ytkbjfdfooompbab.natShifts
namespace Go.Proofs.Ytkbjfdfooompbab
theorem natShifts_holds : Rows.NatShiftsSaid := natShifts.over
#print axioms natShifts_holds
end Go.Proofs.Ytkbjfdfooompbab
