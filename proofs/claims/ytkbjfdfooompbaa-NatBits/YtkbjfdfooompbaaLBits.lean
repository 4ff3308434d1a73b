/-
  NatBits: Bits, and Bit at any place.
-/
import Derived.Test.YtkbjfdfooompbaaW5
import Derived.Test.YtkbjfdfooompbaaOpen
namespace Go.Proofs.Ytkbjfdfooompbaa.natBits
open Go.ChangeShapes Go.WideShapes Go.ChangeAt Go.RowKit Go.Proofs.Ytkbjfdfooompbaa
set_option linter.unusedVariables false

theorem bl33 : bl 4294967296 = 33 := bl_of (by omega) (by omega)
theorem three_new (w : World) (t : TypeId) : New w (w.alloc (.cells #[.int .u32 0, .int .u32 1, .int .u32 0] t)) (some ⟨w.heap.size, 0, none⟩) 4294967296 3 := by
  have hh : (w.alloc (.cells #[.int .u32 0, .int .u32 1, .int .u32 0] t)).heap[w.heap.size]? = some (.cells #[.int .u32 0, .int .u32 1, .int .u32 0] t) := by
    show (w.heap.push _)[w.heap.size]? = _
    rw [Array.getElem?_push, if_pos rfl]
  have hr : Row (w.alloc (.cells #[.int .u32 0, .int .u32 1, .int .u32 0] t)) w.heap.size := ⟨_, t, hh⟩
  have h3 : BB ^ 3 = 79228162514264337593543950336 := by rw [BB_eq]
  refine ⟨Seg.mk' (by rw [h3]; omega) hr.lt fun i hi => ?_, (Below.refl _ _).alloc (Nat.le_refl _) _, fun _ => ⟨_, _, rfl, Nat.le_refl _, hr⟩⟩
  simp only [World.cell?, hh, Option.isSome_none, Bool.false_eq_true, if_false, Nat.zero_add]
  rcases (show i = 0 ∨ i = 1 ∨ i = 2 by omega) with rfl | rfl | rfl
  · rw [dg0]; rfl
  · rw [dg1]; rfl
  · rw [dg_big (by rw [BB2]; omega)]; rfl

set_option maxHeartbeats 1000000 in
theorem walk (a0 : Option Addr) (len0 cap0 X0 : Nat) (z1 : Int) (w : World) (hS0 : Seg w a0 X0 len0) (hc : len0 ≤ cap0) (hb : len0 ≤ 35184372087808) (h1 : -9223372036854775808 ≤ z1) (h2 : z1 ≤ 9223372036854775807) :
    Calls Try.prog 8 #[.slice a0 len0 cap0, .int .i64 z1] w fun e w' => e = .returned (.bool true) ∧ Below w.heap.size w w' := by
  have hbl := bl33
  go_enter Try.func8, Try.ntmps8
  have B0 : Below w.heap.size w w := Below.refl _ _
  have s0 := hS0
  go_wp2_with fail
  have hn1 := three_new w 27
  replace s0 := s0.below hn1.below (Nat.le_refl _)
  have B1 := B0.trans (hn1.below.mono B0.size)
  clear B0
  refine (Bits_any _ _ _ 4294967296 _ (by omega) (by omega) hn1.seg).mono ?_
  rintro e wb ⟨rfl, rfl⟩
  clear hn1
  go_wp2_with fail
  refine (twin_any _ _ _ (X0) _ (by omega) s0).mono ?_
  rintro e wa2 ⟨ca2, rfl, hn2⟩
  replace s0 := s0.below hn2.below (Nat.le_refl _)
  have B2 := B1.trans (hn2.below.mono B1.size)
  clear B1
  have t2 := hn2.seg
  clear hn2
  go_wp2_with fail
  refine (Bits_any _ _ _ X0 _ (by omega) (by omega) t2).mono ?_
  rintro e wa3 ⟨rfl, rfl⟩
  go_wp2_with fail
  refine (rBits_any _ _ _ X0 _ (by omega) s0).mono ?_
  rintro e wa4 ⟨rfl, rfl⟩
  clear t2
  go_wp2_with fail
  refine (twin_any _ _ _ (X0) _ (by omega) s0).mono ?_
  rintro e wa5 ⟨ca5, rfl, hn5⟩
  replace s0 := s0.below hn5.below (Nat.le_refl _)
  have B5 := B2.trans (hn5.below.mono B2.size)
  clear B2
  have t5 := hn5.seg
  clear hn5
  go_wp2_with fail
  refine (Bit_any _ _ _ X0 z1 _ (by omega) (by omega) (by omega) t5).mono ?_
  rintro e wa6 ⟨rfl, rfl⟩
  go_wp2_with fail
  refine (rBit_any _ _ _ X0 z1 _ (by omega) (by omega) (by omega) s0).mono ?_
  rintro e wa7 ⟨rfl, rfl⟩
  go_wp2
  go_ret
  exact ⟨by simp, B5⟩

theorem contract (H : Type) (enc : TypeId × Value → H) (W : World) (base : Nat) (args : Array Value) (ds gs : List (DataW H)) (before : List MemPlace)
    (hval : ∀ (j : Nat) t v, Try.f8.params[j]? = some t → args[j]? = some v → Value.okWide Try.prog W .any base t v)
    (hW : DataW.Whole enc Try.prog Try.f8.params.toList Rows.natBitsSpec.vars false W args.toList ds gs before)
    (hsz : (DataW.weightsEach Try.prog (Try.f8.params.toList ++ Rows.natBitsSpec.plain.varTypes Try.prog) (ds ++ gs)).all (· ≤ reachBytes) = true) :
    Calls Try.prog 8 args W fun e W' => ∃ v, e = .returned v ∧ Rows.natBitsSpec.post enc Try.prog Try.f8 false true false false W args v W' := by
  have hW' := hW
  obtain ⟨p, q, hA0, hV, rfl, hfz, hnd⟩ := hW
  have hA : DataW.TrodAll enc Try.prog W 0 (fun _ => true) true Try.f8.params.toList args.toList ds p := hA0
  rw [Try.params8] at hA hval hsz
  obtain ⟨v0, vs0, d0, ds0, p0, q0, hargs, rfl, rfl, h0, r0⟩ := trodAll_cons hA
  obtain ⟨v1, vs1, d1, ds1, p1, q1, rfl, rfl, rfl, h1, r1⟩ := trodAll_cons r0
  obtain ⟨rfl, rfl, rfl⟩ := trodAll_nil r1
  obtain rfl : args = #[v0, v1] := by cases args; simp_all
  obtain ⟨rfl, rfl⟩ := trodVars_none hV
  obtain ⟨a0, len0, cap0, rfl⟩ := okWide_slice Try.underlying23 (hval 0 23 v0 rfl rfl)
  have lt0 : ∀ x ∈ p0, x.block < W.heap.size := by obtain ⟨m, hm⟩ := h0; exact DataW.trod_lt m _ _ _ hm
  obtain ⟨X0, hS0, hc0, hb0, hu0⟩ := open_nat Try.underlying23 h0 (fun elems spare h => sized_slice hsz (j := 0) (t := 23) (e := 27) rfl (by rw [h]; rfl) Try.underlying23)
  obtain ⟨z1, rfl, rfl, rfl, w1⟩ := open_int Try.underlying3 (hval 1 3 v1 rfl rfl) h1
  have bz1 := bounds_i64 w1
  clear hA0
  simp only [List.append_nil] at hW'
  refine (walk a0 len0 cap0 X0 z1 W hS0 hc0 hb0 (by omega) (by omega)).mono fun e W' ⟨he, bel⟩ => ?_
  subst he
  exact ⟨_, rfl, _, _, _, [], _, [], hW', trodAll_mk1 (shut_bool Try.underlying4 _), (trodAll_cons_mk (Below.trod laidOut (by kernel_rfl) (of_decide_eq_true (by kernel_rfl)) h0 bel lt0) (trodAll_cons_mk (shut_int Try.underlying3 w1) trodAll_mk0)), rfl, bel.frame _, fun h => by cases h⟩

set_option maxRecDepth 100000 in
theorem lifted (os : Os) (started : os.Started) (H : Type) (enc : TypeId × Value → H) :
    ReturnsInHanded {} Try.checked os 8 .any (Rows.natBitsSpec.pre6 enc Try.prog Try.f8 Rows.natBitsRow.domain false) (Rows.natBitsSpec.post enc Try.prog Try.f8 false true false false) := by
  refine returnsInHanded_of_change_sized (C := Try.checked) own started (by kernel_rfl) Try.func8
    (ChangeSpec.witness6 (enc := enc) (C := Try.checked) false ⟨#[], #[.slice none 0 0, .int .i64 0], []⟩ 8 (by kernel_rfl) (by kernel_rfl) (by kernel_rfl) (by kernel_rfl)) ?_
  intro W base args ds gs before hval hW _ hsz _
  exact contract H enc W base args ds gs before hval hW hsz

theorem over : Rows.natBitsRow.holds Try.pinned (OpenSpec.ofChange Rows.natBitsSpec) :=
  OpenClaim.holds_of_wide 8 Try.f8 rfl rfl rfl rfl rfl rfl rfl ⟨rfl, rfl, rfl, rfl, rfl⟩ rfl rfl rfl rfl rfl (by kernel_rfl) Try.func8 (by kernel_rfl)
    (of_decide_eq_true (by kernel_rfl)) (by unfold Func.isWrapper; first | (rw [if_pos (by decide +kernel)]; kernel_rfl) | (rw [if_neg (by decide +kernel)]; exact ⟨rfl, rfl⟩))
    (fun os started H enc _ => lifted os started H enc)

end Go.Proofs.Ytkbjfdfooompbaa.natBits
namespace Go.Proofs.Ytkbjfdfooompbaa
theorem natBits_holds : Rows.NatBitsSaid := natBits.over
#print axioms natBits_holds
end Go.Proofs.Ytkbjfdfooompbaa
