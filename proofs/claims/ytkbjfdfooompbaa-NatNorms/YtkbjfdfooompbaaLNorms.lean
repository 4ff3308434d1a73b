/-
  NatNorms: Norm, Of and Small of any limbs.
-/
import Derived.Test.YtkbjfdfooompbaaW4
import Derived.Test.YtkbjfdfooompbaaOpen
namespace Go.Proofs.Ytkbjfdfooompbaa.natNorms
open Go.ChangeShapes Go.WideShapes Go.ChangeAt Go.RowKit Go.Proofs.Ytkbjfdfooompbaa
set_option linter.unusedVariables false

set_option maxHeartbeats 1000000 in
theorem walk (a0 : Option Addr) (len0 cap0 X0 n1 : Nat) (w : World) (hS0 : Seg w a0 X0 len0) (hc : len0 ≤ cap0) (hb : len0 ≤ 35184372087808) (hn : n1 < 18446744073709551616) :
    Calls Try.prog 4 #[.slice a0 len0 cap0, .int .u64 n1] w fun e w' => e = .returned (.bool true) ∧ Below w.heap.size w w' := by
  have hl := ln_le_of_lt hS0.1
  have hl1 : ln n1 ≤ 2 := ln_le_of_lt (by rw [BB2]; exact hn)
  have hsame := sameB_self (ln X0) X0
  have hsm := smV_of hn
  have hsb := smB_of hn
  have hsame1 := sameB_self (ln n1) n1
  go_enter Try.func4, Try.ntmps4
  have B0 : Below w.heap.size w w := Below.refl _ _
  have s0 := hS0
  go_wp2_with fail
  refine (twin_any _ _ _ (X0) _ (by omega) s0).mono ?_
  rintro e wa1 ⟨ca1, rfl, hn1⟩
  replace s0 := s0.below hn1.below (Nat.le_refl _)
  have B1 := B0.trans (hn1.below.mono B0.size)
  clear B0
  have t1 := hn1.seg
  clear hn1
  go_wp2_with fail
  refine (Norm_any _ _ _ (X0) _ (by omega) (by omega) t1).mono ?_
  rintro e wa2 ⟨ca2, rfl, hn2⟩
  replace s0 := s0.below hn2.below (Nat.le_refl _)
  replace t1 := t1.below hn2.below (Nat.le_refl _)
  have B2 := B1.trans (hn2.below.mono B1.size)
  clear B1
  have t2 := hn2.seg
  clear hn2
  go_wp2_with fail
  refine (rNorm_any _ _ _ (X0) _ (by omega) s0).mono ?_
  rintro e wa3 ⟨ca3, rfl, hn3⟩
  replace s0 := s0.below hn3.below (Nat.le_refl _)
  replace t1 := t1.below hn3.below (Nat.le_refl _)
  replace t2 := t2.below hn3.below (Nat.le_refl _)
  have B3 := B2.trans (hn3.below.mono B2.size)
  clear B2
  have t3 := hn3.seg
  clear hn3
  go_wp2_with fail
  refine (same_any _ _ _ _ (X0) _ _ (X0) _ (by omega) (by omega) t2 t3).mono ?_
  rintro e wa4 ⟨rfl, hd4⟩
  replace s0 := s0.dr hd4
  replace t1 := t1.dr hd4
  replace t2 := t2.dr hd4
  replace t3 := t3.dr hd4
  have B4 := B3.trans (hd4.below _)
  clear B3 hd4
  clear t2
  clear t3
  clear t1
  go_wp2_with fail
  refine (Of_any n1 _ hn).mono ?_
  rintro e wa5 ⟨ca5, rfl, hn5⟩
  replace s0 := s0.below hn5.below (Nat.le_refl _)
  have B5 := B4.trans (hn5.below.mono B4.size)
  clear B4
  have t5 := hn5.seg
  clear hn5
  go_wp2_with fail
  refine (rOf_any n1 _ hn).mono ?_
  rintro e wa6 ⟨ca6, rfl, hn6⟩
  replace s0 := s0.below hn6.below (Nat.le_refl _)
  replace t5 := t5.below hn6.below (Nat.le_refl _)
  have B6 := B5.trans (hn6.below.mono B5.size)
  clear B5
  have t6 := hn6.seg
  clear hn6
  go_wp2_with fail
  refine (same_any _ _ _ _ (n1) _ _ (n1) _ (by omega) (by omega) t5 t6).mono ?_
  rintro e wa7 ⟨rfl, hd7⟩
  replace s0 := s0.dr hd7
  replace t5 := t5.dr hd7
  replace t6 := t6.dr hd7
  have B7 := B6.trans (hd7.below _)
  clear B6 hd7
  clear t5
  clear t6
  go_wp2_with fail
  refine (twin_any _ _ _ (X0) _ (by omega) s0).mono ?_
  rintro e wa8 ⟨ca8, rfl, hn8⟩
  replace s0 := s0.below hn8.below (Nat.le_refl _)
  have B8 := B7.trans (hn8.below.mono B7.size)
  clear B7
  have t8 := hn8.seg
  clear hn8
  go_wp2_with fail
  refine (Small_any _ _ _ X0 _ (by omega) (by omega) t8).mono ?_
  rintro e wa9 ⟨rfl, rfl⟩
  go_wp2_with fail
  refine (rSmall_any _ _ _ X0 _ (by omega) s0).mono ?_
  rintro e wa10 ⟨rfl, hw10⟩
  replace s0 := s0.below hw10 (Nat.le_refl _)
  replace t8 := t8.below hw10 (Nat.le_refl _)
  have B10 := B8.trans (hw10.mono B8.size)
  clear B8
  clear hw10
  go_wp2_with fail
  refine (Of_any n1 _ hn).mono ?_
  rintro e wa11 ⟨ca11, rfl, hn11⟩
  replace s0 := s0.below hn11.below (Nat.le_refl _)
  replace t8 := t8.below hn11.below (Nat.le_refl _)
  have B11 := B10.trans (hn11.below.mono B10.size)
  clear B10
  have t11 := hn11.seg
  clear hn11
  go_wp2_with fail
  refine (Small_any _ _ _ n1 _ (by omega) (by omega) t11).mono ?_
  rintro e wa12 ⟨rfl, rfl⟩
  go_wp2
  go_ret
  exact ⟨rfl, B11⟩

theorem contract (H : Type) (enc : TypeId × Value → H) (W : World) (base : Nat) (args : Array Value) (ds gs : List (DataW H)) (before : List MemPlace)
    (hval : ∀ (j : Nat) t v, Try.f4.params[j]? = some t → args[j]? = some v → Value.okWide Try.prog W .any base t v)
    (hW : DataW.Whole enc Try.prog Try.f4.params.toList Rows.natNormsSpec.vars false W args.toList ds gs before)
    (hsz : (DataW.weightsEach Try.prog (Try.f4.params.toList ++ Rows.natNormsSpec.plain.varTypes Try.prog) (ds ++ gs)).all (· ≤ reachBytes) = true) :
    Calls Try.prog 4 args W fun e W' => ∃ v, e = .returned v ∧ Rows.natNormsSpec.post enc Try.prog Try.f4 false true false false W args v W' := by
  have hW' := hW
  obtain ⟨p, q, hA0, hV, rfl, hfz, hnd⟩ := hW
  have hA : DataW.TrodAll enc Try.prog W 0 (fun _ => true) true Try.f4.params.toList args.toList ds p := hA0
  rw [Try.params4] at hA hval hsz
  obtain ⟨v0, vs0, d0, ds0, p0, q0, hargs, rfl, rfl, h0, r0⟩ := trodAll_cons hA
  obtain ⟨v1, vs1, d1, ds1, p1, q1, rfl, rfl, rfl, h1, r1⟩ := trodAll_cons r0
  obtain ⟨rfl, rfl, rfl⟩ := trodAll_nil r1
  obtain rfl : args = #[v0, v1] := by cases args; simp_all
  obtain ⟨rfl, rfl⟩ := trodVars_none hV
  obtain ⟨a0, len0, cap0, rfl⟩ := okWide_slice Try.underlying23 (hval 0 23 v0 rfl rfl)
  have lt0 : ∀ x ∈ p0, x.block < W.heap.size := by obtain ⟨m, hm⟩ := h0; exact DataW.trod_lt m _ _ _ hm
  obtain ⟨X0, hS0, hc0, hb0, hu0⟩ := open_nat Try.underlying23 h0 (fun elems spare h => sized_slice hsz (j := 0) (t := 23) (e := 27) rfl (by rw [h]; rfl) Try.underlying23)
  obtain ⟨z1, rfl, rfl, rfl, w1⟩ := open_int Try.underlying26 (hval 1 26 v1 rfl rfl) h1
  have bz1 := bounds_u64 w1
  obtain ⟨n1, rfl⟩ : ∃ n : Nat, z1 = (n : Int) := ⟨z1.toNat, by omega⟩
  have hn1 : n1 < 18446744073709551616 := by omega
  clear hA0
  simp only [List.append_nil] at hW'
  refine (walk a0 len0 cap0 X0 n1 W hS0 hc0 hb0 hn1).mono fun e W' ⟨he, bel⟩ => ?_
  subst he
  exact ⟨_, rfl, _, _, _, [], _, [], hW', trodAll_mk1 (shut_bool Try.underlying4 _), (trodAll_cons_mk (Below.trod laidOut (by kernel_rfl) (of_decide_eq_true (by kernel_rfl)) h0 bel lt0) (trodAll_cons_mk (shut_int Try.underlying26 w1) trodAll_mk0)), rfl, bel.frame _, fun h => by cases h⟩

set_option maxRecDepth 100000 in
theorem lifted (os : Os) (started : os.Started) (H : Type) (enc : TypeId × Value → H) :
    ReturnsInHanded {} Try.checked os 4 .any (Rows.natNormsSpec.pre6 enc Try.prog Try.f4 Rows.natNormsRow.domain false) (Rows.natNormsSpec.post enc Try.prog Try.f4 false true false false) := by
  refine returnsInHanded_of_change_sized (C := Try.checked) own started (by kernel_rfl) Try.func4
    (ChangeSpec.witness6 (enc := enc) (C := Try.checked) false ⟨#[], #[.slice none 0 0, .int .u64 0], []⟩ 8 (by kernel_rfl) (by kernel_rfl) (by kernel_rfl) (by kernel_rfl)) ?_
  intro W base args ds gs before hval hW _ hsz _
  exact contract H enc W base args ds gs before hval hW hsz

theorem over : Rows.natNormsRow.holds Try.pinned (OpenSpec.ofChange Rows.natNormsSpec) :=
  OpenClaim.holds_of_wide 4 Try.f4 rfl rfl rfl rfl rfl rfl rfl ⟨rfl, rfl, rfl, rfl, rfl⟩ rfl rfl rfl rfl rfl (by kernel_rfl) Try.func4 (by kernel_rfl)
    (of_decide_eq_true (by kernel_rfl)) (by unfold Func.isWrapper; first | (rw [if_pos (by decide +kernel)]; kernel_rfl) | (rw [if_neg (by decide +kernel)]; exact ⟨rfl, rfl⟩))
    (fun os started H enc _ => lifted os started H enc)

end Go.Proofs.Ytkbjfdfooompbaa.natNorms
namespace Go.Proofs.Ytkbjfdfooompbaa
theorem natNorms_holds : Rows.NatNormsSaid := natNorms.over
#print axioms natNorms_holds
end Go.Proofs.Ytkbjfdfooompbaa
