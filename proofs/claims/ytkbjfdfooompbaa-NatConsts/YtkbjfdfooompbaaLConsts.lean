/-
  NatConsts: the errors' numbers and the limits.
-/
import Derived.Test.YtkbjfdfooompbaaW3
import Derived.Test.YtkbjfdfooompbaaOpen
namespace Go.Proofs.Ytkbjfdfooompbaa.natConsts
open Go.ChangeShapes Go.WideShapes Go.ChangeAt Go.RowKit Go.Proofs.Ytkbjfdfooompbaa
set_option linter.unusedVariables false

theorem ln7 : ln 7 = 1 := ln_of_top (by rw [BB_eq]; omega) (by rw [dg0]; omega)

set_option maxHeartbeats 1000000 in
theorem walk (w : World) :
    Calls Try.prog 3 #[] w fun e w' => e = .returned (.bool true) ∧ Below w.heap.size w w' := by
  have hsame : sameB 1 1 7 7 = true := sameB_self _ _
  go_enter Try.func3, Try.ntmps3
  have B0 : Below w.heap.size w w := Below.refl _ _
  go_wp2_with fail
  refine (Of_any 7 _ (by omega)).mono ?_
  rintro e wa1 ⟨ca1, rfl, hn1⟩
  have B1 := B0.trans (hn1.below.mono B0.size)
  clear B0
  have t1 := hn1.seg
  clear hn1
  rw [ln7] at t1 ⊢
  go_wp2_with fail
  have hn2 := single_new wa1 7 27 7 (by omega) rfl
  replace t1 := t1.below hn2.below (Nat.le_refl _)
  have B2 := B1.trans (hn2.below.mono B1.size)
  clear B1
  have t2 := hn2.seg
  clear hn2
  go_wp2_with fail
  refine (same_any _ _ _ _ (7) _ _ (7) _ (by omega) (by omega) t1 t2).mono ?_
  rintro e wa3 ⟨rfl, hd3⟩
  replace t1 := t1.dr hd3
  replace t2 := t2.dr hd3
  have B3 := B2.trans (hd3.below _)
  clear B2 hd3
  go_wp2
  go_ret
  exact ⟨rfl, B3⟩

theorem contract (H : Type) (enc : TypeId × Value → H) (W : World) (base : Nat) (args : Array Value) (ds gs : List (DataW H)) (before : List MemPlace)
    (hval : ∀ (j : Nat) t v, Try.f3.params[j]? = some t → args[j]? = some v → Value.okWide Try.prog W .any base t v)
    (hW : DataW.Whole enc Try.prog Try.f3.params.toList Rows.natConstsSpec.vars false W args.toList ds gs before)
    (hsz : (DataW.weightsEach Try.prog (Try.f3.params.toList ++ Rows.natConstsSpec.plain.varTypes Try.prog) (ds ++ gs)).all (· ≤ reachBytes) = true) :
    Calls Try.prog 3 args W fun e W' => ∃ v, e = .returned v ∧ Rows.natConstsSpec.post enc Try.prog Try.f3 false true false false W args v W' := by
  have hW' := hW
  obtain ⟨p, q, hA0, hV, rfl, hfz, hnd⟩ := hW
  have hA : DataW.TrodAll enc Try.prog W 0 (fun _ => true) true Try.f3.params.toList args.toList ds p := hA0
  rw [Try.params3] at hA hval hsz
  obtain ⟨rfl, rfl, rfl⟩ := trodAll_none hA
  obtain ⟨rfl, rfl⟩ := trodVars_none hV
  clear hA0
  simp only [List.append_nil] at hW'
  refine (walk  W ).mono fun e W' ⟨he, bel⟩ => ?_
  subst he
  exact ⟨_, rfl, _, _, _, [], _, [], hW', trodAll_mk1 (shut_bool Try.underlying4 _), rfl, rfl, bel.frame _, fun h => by cases h⟩

set_option maxRecDepth 100000 in
theorem lifted (os : Os) (started : os.Started) (H : Type) (enc : TypeId × Value → H) :
    ReturnsInHanded {} Try.checked os 3 .any (Rows.natConstsSpec.pre6 enc Try.prog Try.f3 Rows.natConstsRow.domain false) (Rows.natConstsSpec.post enc Try.prog Try.f3 false true false false) := by
  refine returnsInHanded_of_change_sized (C := Try.checked) own started (by kernel_rfl) Try.func3
    (ChangeSpec.witness6 (enc := enc) (C := Try.checked) false ⟨#[], #[], []⟩ 8 (by kernel_rfl) (by kernel_rfl) (by kernel_rfl) (by kernel_rfl)) ?_
  intro W base args ds gs before hval hW _ hsz _
  exact contract H enc W base args ds gs before hval hW hsz

theorem over : Rows.natConstsRow.holds Try.pinned (OpenSpec.ofChange Rows.natConstsSpec) :=
  OpenClaim.holds_of_wide 3 Try.f3 rfl rfl rfl rfl rfl rfl rfl ⟨rfl, rfl, rfl, rfl, rfl⟩ rfl rfl rfl rfl rfl (by kernel_rfl) Try.func3 (by kernel_rfl)
    (of_decide_eq_true (by kernel_rfl)) (by unfold Func.isWrapper; first | (rw [if_pos (by decide +kernel)]; kernel_rfl) | (rw [if_neg (by decide +kernel)]; exact ⟨rfl, rfl⟩))
    (fun os started H enc _ => lifted os started H enc)

end Go.Proofs.Ytkbjfdfooompbaa.natConsts
namespace Go.Proofs.Ytkbjfdfooompbaa
theorem natConsts_holds : Rows.NatConstsSaid := natConsts.over
#print axioms natConsts_holds
end Go.Proofs.Ytkbjfdfooompbaa
