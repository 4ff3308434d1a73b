/-
  NatDivisors: Gcd as the reference's.
-/
import Derived.Test.YtkbjfdfooompbaaW17
import Derived.Test.YtkbjfdfooompbaaW18
import Derived.Test.YtkbjfdfooompbaaOpen
namespace Go.Proofs.Ytkbjfdfooompbaa.natDivisors
open Go.ChangeShapes Go.WideShapes Go.ChangeAt Go.RowKit Go.Proofs.Ytkbjfdfooompbaa
set_option linter.unusedVariables false

theorem ln_small {X : Nat} (h0 : X ≠ 0) (h : X < 4294967296) : ln X = 1 := ln_of_top (by rw [Nat.pow_one, BB_eq]; exact h) (by rw [dg0, Nat.mod_eq_of_lt h]; exact h0)

set_option maxHeartbeats 4000000 in
theorem walk (a0 : Option Addr) (len0 cap0 X0 : Nat) (a1 : Option Addr) (len1 cap1 X1 : Nat) (w : World) (hS0 : Seg w a0 X0 len0) (hc : len0 ≤ cap0) (hb : len0 ≤ 35184372087808) (hS1 : Seg w a1 X1 len1) (hc1 : len1 ≤ cap1) (hb1 : len1 ≤ 35184372087808) :
    Calls Try.prog 7 #[.slice a0 len0 cap0, .slice a1 len1 cap1] w fun e w' => e = .returned (.bool true) ∧ Below w.heap.size w w' := by
  have lX0 : ln X0 ≤ 35184372087808 := by have := ln_le_of_lt hS0.1; omega
  have lX1 : ln X1 ≤ 35184372087808 := by have := ln_le_of_lt hS1.1; omega
  obtain ⟨G, hG⟩ : ∃ Z, Nat.gcd X0 X1 = Z := ⟨_, rfl⟩
  have lG : ln G ≤ 35184372087808 := by
    by_cases h0 : X0 = 0
    · rw [← hG, h0, Nat.gcd_zero_left]; exact lX1
    · have : ln G ≤ ln X0 := ln_mono (by rw [← hG]; exact Nat.gcd_le_left _ (Nat.pos_of_ne_zero h0))
      omega
  have E0 : Hid (Nat.gcd 12 18 = 6) := rfl
  have E1 : Hid (Nat.gcd X0 X1 = G) := hG
  have l6 : ln 6 ≤ 1 := by rw [ln_small (by omega) (by omega)]; omega
  have q6 : sameB (ln 6) 1 6 6 = true := by rw [ln_small (by omega) (by omega)]; exact sameB_self _ _
  have qg := sameB_self (ln G) G
  clear hG
  go_enter Try.func7, Try.ntmps7
  have B0 : Below w.heap.size w w := Below.refl _ _
  have s0 := hS0
  have s1 := hS1
  go_wp2_with fail
  have hn1 := single_new w 12 27 12 (by omega) rfl
  replace s0 := s0.below hn1.below (Nat.le_refl _)
  replace s1 := s1.below hn1.below (Nat.le_refl _)
  have B1 := B0.trans (hn1.below.mono B0.size)
  clear B0
  have t1 := hn1.seg
  clear hn1
  go_wp2_with fail
  have hn2 := single_new (w.alloc (.cells #[.int .u32 12] 27)) 18 27 18 (by omega) rfl
  replace s0 := s0.below hn2.below (Nat.le_refl _)
  replace s1 := s1.below hn2.below (Nat.le_refl _)
  replace t1 := t1.below hn2.below (Nat.le_refl _)
  have B2 := B1.trans (hn2.below.mono B1.size)
  clear B1
  have t2 := hn2.seg
  clear hn2
  rw [World.size_alloc] at t2
  go_wp2_with fail
  refine (Gcd_is _ _ _ _ (12) _ _ (18) (6) _ (by omega) (by omega) t1 (by omega) (by omega) t2 E0.out).mono ?_
  rintro e wa3 ⟨ca3, rfl, hn3⟩
  replace s0 := s0.below hn3.below (Nat.le_refl _)
  replace s1 := s1.below hn3.below (Nat.le_refl _)
  replace t1 := t1.below hn3.below (Nat.le_refl _)
  replace t2 := t2.below hn3.below (Nat.le_refl _)
  have B3 := B2.trans (hn3.below.mono B2.size)
  clear B2
  have t3 := hn3.seg
  clear hn3
  clear t1
  clear t2
  go_wp2_with fail
  have hn4 := single_new wa3 6 27 6 (by omega) rfl
  replace s0 := s0.below hn4.below (Nat.le_refl _)
  replace s1 := s1.below hn4.below (Nat.le_refl _)
  replace t3 := t3.below hn4.below (Nat.le_refl _)
  have B4 := B3.trans (hn4.below.mono B3.size)
  clear B3
  have t4 := hn4.seg
  clear hn4
  go_wp2_with fail
  refine (same_any _ _ _ _ (6) _ _ (6) _ (by omega) (by omega) t3 t4).mono ?_
  rintro e wa5 ⟨rfl, hd5⟩
  replace s0 := s0.dr hd5
  replace s1 := s1.dr hd5
  replace t3 := t3.dr hd5
  replace t4 := t4.dr hd5
  have B5 := B4.trans (hd5.below _)
  clear B4 hd5
  clear t3
  clear t4
  go_wp2_with fail
  refine (twin_any _ _ _ (X0) _ (by omega) s0).mono ?_
  rintro e wa6 ⟨ca6, rfl, hn6⟩
  replace s0 := s0.below hn6.below (Nat.le_refl _)
  replace s1 := s1.below hn6.below (Nat.le_refl _)
  have B6 := B5.trans (hn6.below.mono B5.size)
  clear B5
  have t6 := hn6.seg
  clear hn6
  go_wp2_with fail
  refine (twin_any _ _ _ (X1) _ (by omega) s1).mono ?_
  rintro e wa7 ⟨ca7, rfl, hn7⟩
  replace s0 := s0.below hn7.below (Nat.le_refl _)
  replace s1 := s1.below hn7.below (Nat.le_refl _)
  replace t6 := t6.below hn7.below (Nat.le_refl _)
  have B7 := B6.trans (hn7.below.mono B6.size)
  clear B6
  have t7 := hn7.seg
  clear hn7
  go_wp2_with fail
  refine (Gcd_is _ _ _ _ (X0) _ _ (X1) (G) _ (by omega) (by omega) t6 (by omega) (by omega) t7 E1.out).mono ?_
  rintro e wa8 ⟨ca8, rfl, hn8⟩
  replace s0 := s0.below hn8.below (Nat.le_refl _)
  replace s1 := s1.below hn8.below (Nat.le_refl _)
  replace t6 := t6.below hn8.below (Nat.le_refl _)
  replace t7 := t7.below hn8.below (Nat.le_refl _)
  have B8 := B7.trans (hn8.below.mono B7.size)
  clear B7
  have t8 := hn8.seg
  clear hn8
  clear t6
  clear t7
  go_wp2_with fail
  refine (rGcd_is _ _ _ _ X0 _ _ X1 G _ (by omega) s0 (by omega) s1 E1.out).mono ?_
  rintro e wa9 ⟨ca9, rfl, hn9⟩
  replace s0 := s0.below hn9.below (Nat.le_refl _)
  replace s1 := s1.below hn9.below (Nat.le_refl _)
  replace t8 := t8.below hn9.below (Nat.le_refl _)
  have B9 := B8.trans (hn9.below.mono B8.size)
  clear B8
  have t9 := hn9.seg
  clear hn9
  go_wp2_with fail
  refine (same_any _ _ _ _ (G) _ _ (G) _ (by omega) (by omega) t8 t9).mono ?_
  rintro e wa10 ⟨rfl, hd10⟩
  replace s0 := s0.dr hd10
  replace s1 := s1.dr hd10
  replace t8 := t8.dr hd10
  replace t9 := t9.dr hd10
  have B10 := B9.trans (hd10.below _)
  clear B9 hd10
  go_wp2
  go_ret
  exact ⟨rfl, B10⟩

theorem contract (H : Type) (enc : TypeId × Value → H) (W : World) (base : Nat) (args : Array Value) (ds gs : List (DataW H)) (before : List MemPlace)
    (hval : ∀ (j : Nat) t v, Try.f7.params[j]? = some t → args[j]? = some v → Value.okWide Try.prog W .any base t v)
    (hW : DataW.Whole enc Try.prog Try.f7.params.toList Rows.natDivisorsSpec.vars false W args.toList ds gs before)
    (hsz : (DataW.weightsEach Try.prog (Try.f7.params.toList ++ Rows.natDivisorsSpec.plain.varTypes Try.prog) (ds ++ gs)).all (· ≤ reachBytes) = true) :
    Calls Try.prog 7 args W fun e W' => ∃ v, e = .returned v ∧ Rows.natDivisorsSpec.post enc Try.prog Try.f7 false true false false W args v W' := by
  have hW' := hW
  obtain ⟨p, q, hA0, hV, rfl, hfz, hnd⟩ := hW
  have hA : DataW.TrodAll enc Try.prog W 0 (fun _ => true) true Try.f7.params.toList args.toList ds p := hA0
  rw [Try.params7] at hA hval hsz
  obtain ⟨v0, vs0, d0, ds0, p0, q0, hargs, rfl, rfl, h0, r0⟩ := trodAll_cons hA
  obtain ⟨v1, vs1, d1, ds1, p1, q1, rfl, rfl, rfl, h1, r1⟩ := trodAll_cons r0
  obtain ⟨rfl, rfl, rfl⟩ := trodAll_nil r1
  obtain rfl : args = #[v0, v1] := by cases args; simp_all
  obtain ⟨rfl, rfl⟩ := trodVars_none hV
  obtain ⟨a0, len0, cap0, rfl⟩ := okWide_slice Try.underlying23 (hval 0 23 v0 rfl rfl)
  have lt0 : ∀ x ∈ p0, x.block < W.heap.size := by obtain ⟨m, hm⟩ := h0; exact DataW.trod_lt m _ _ _ hm
  obtain ⟨X0, hS0, hc0, hb0, hu0⟩ := open_nat Try.underlying23 h0 (fun elems spare h => sized_slice hsz (j := 0) (t := 23) (e := 27) rfl (by rw [h]; rfl) Try.underlying23)
  obtain ⟨a1, len1, cap1, rfl⟩ := okWide_slice Try.underlying23 (hval 1 23 v1 rfl rfl)
  have lt1 : ∀ x ∈ p1, x.block < W.heap.size := by obtain ⟨m, hm⟩ := h1; exact DataW.trod_lt m _ _ _ hm
  obtain ⟨X1, hS1, hc1, hb1, hu1⟩ := open_nat Try.underlying23 h1 (fun elems spare h => sized_slice hsz (j := 1) (t := 23) (e := 27) rfl (by rw [h]; rfl) Try.underlying23)
  clear hA0
  simp only [List.append_nil] at hW'
  refine (walk a0 len0 cap0 X0 a1 len1 cap1 X1 W hS0 hc0 hb0 hS1 hc1 hb1).mono fun e W' ⟨he, bel⟩ => ?_
  subst he
  exact ⟨_, rfl, _, _, _, [], _, [], hW', trodAll_mk1 (shut_bool Try.underlying4 _), (trodAll_cons_mk (Below.trod laidOut (by kernel_rfl) (of_decide_eq_true (by kernel_rfl)) h0 bel lt0) (trodAll_cons_mk (Below.trod laidOut (by kernel_rfl) (of_decide_eq_true (by kernel_rfl)) h1 bel lt1) trodAll_mk0)), rfl, bel.frame _, fun h => by cases h⟩

set_option maxRecDepth 100000 in
theorem lifted (os : Os) (started : os.Started) (H : Type) (enc : TypeId × Value → H) :
    ReturnsInHanded {} Try.checked os 7 .any (Rows.natDivisorsSpec.pre6 enc Try.prog Try.f7 Rows.natDivisorsRow.domain false) (Rows.natDivisorsSpec.post enc Try.prog Try.f7 false true false false) := by
  refine returnsInHanded_of_change_sized (C := Try.checked) own started (by kernel_rfl) Try.func7
    (ChangeSpec.witness6 (enc := enc) (C := Try.checked) false ⟨#[], #[.slice none 0 0, .slice none 0 0], []⟩ 8 (by kernel_rfl) (by kernel_rfl) (by kernel_rfl) (by kernel_rfl)) ?_
  intro W base args ds gs before hval hW _ hsz _
  exact contract H enc W base args ds gs before hval hW hsz

theorem over : Rows.natDivisorsRow.holds Try.pinned (OpenSpec.ofChange Rows.natDivisorsSpec) :=
  OpenClaim.holds_of_wide 7 Try.f7 rfl rfl rfl rfl rfl rfl rfl ⟨rfl, rfl, rfl, rfl, rfl⟩ rfl rfl rfl rfl rfl (by kernel_rfl) Try.func7 (by kernel_rfl)
    (of_decide_eq_true (by kernel_rfl)) (by unfold Func.isWrapper; first | (rw [if_pos (by decide +kernel)]; kernel_rfl) | (rw [if_neg (by decide +kernel)]; exact ⟨rfl, rfl⟩))
    (fun os started H enc _ => lifted os started H enc)

end Go.Proofs.Ytkbjfdfooompbaa.natDivisors
namespace Go.Proofs.Ytkbjfdfooompbaa
theorem natDivisors_holds : Rows.NatDivisorsSaid := natDivisors.over
#print axioms natDivisors_holds
end Go.Proofs.Ytkbjfdfooompbaa
