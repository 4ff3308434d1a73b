/-
  ApproxSteps.
-/
import Derived.Test.YtjofldgaefjapaaWFD
import Derived.Test.YtjofldgaefjapaaWF1
import Derived.Test.YtjofldgaefjapaaWFS
import Derived.Test.YtjofldgaefjapaaOpenQ
import Derived.Laws.Cover2
namespace Go.Proofs.Ytjofldgaefjapaa.approxSteps
open Go.ChangeShapes Go.WideShapes Go.ChangeAt Go.RowKit Go.Proofs.Ytjofldgaefjapaa
set_option linter.unusedVariables false

set_option maxHeartbeats 8000000 in
set_option maxRecDepth 100000 in
theorem walk_no (b : Nat) (w : World) (hb : b < 18446744073709551616) (hf : ¬ b % SB < FI) :
    Calls Try.prog 4 #[.float .f64 b] w fun e w' => e = .returned (.bool true) ∧ Below w.heap.size w w' := by
  have H1 := hide' (fun w' => Exact_no b w' hb hf)
  have H2 := hide' (fun w' => vExact_no b w' hb hf)
  have HS' := fun w' => SameRat_is 0 0 none none none none w' (by rw [show ln (am 0) = 0 from ln_zero]; omega) (by rw [ln_zero]; omega) (by rw [show ln (am 0) = 0 from ln_zero]; exact Seg.nil _ _) (by rw [ln_zero]; exact Seg.nil _ _) (by rw [show ln (am 0) = 0 from ln_zero]; exact Seg.nil _ _) (by rw [ln_zero]; exact Seg.nil _ _)
  have e1 : ng 0 = false := rfl
  have e2 : ln (am 0) = 0 := ln_zero
  have e3 : ln 0 = 0 := ln_zero
  rw [e1, e2, e3] at HS'
  have HS := hide' HS'
  clear HS' e1 e2 e3 hf
  generalize fiE b = c at H1 H2
  have hB : Below w.heap.size w w := Below.refl _ _
  have hBW : Below w.heap.size w w := Below.refl _ _
  go_enter Try.func4, Try.ntmps4
  go_wp2_with fail
  refine (H1.out _).mono ?_
  rintro e w1 ⟨rfl, b1⟩
  replace hBW := hBW.trans (b1.mono hBW.size)
  have hsz1 := hBW.size
  have l100 : ((w1.alloc (.cells #[.bool false, .slice none 0 0, .slice none 0 0] 27))).cell? ⟨w1.heap.size, 0, none⟩ = some (.bool false) := by go_simp
  have l101 : ((w1.alloc (.cells #[.bool false, .slice none 0 0, .slice none 0 0] 27))).cell? ⟨w1.heap.size, 1, none⟩ = some (.slice none 0 0) := by go_simp
  have l102 : ((w1.alloc (.cells #[.bool false, .slice none 0 0, .slice none 0 0] 27))).cell? ⟨w1.heap.size, 2, none⟩ = some (.slice none 0 0) := by go_simp
  have cb1 : Below w1.heap.size w1 ((w1.alloc (.cells #[.bool false, .slice none 0 0, .slice none 0 0] 27))) := ((Below.refl _ _).alloc (by (try simp only [World.size_alloc]); omega) _)
  replace hBW := hBW.trans (cb1.mono hBW.size)
  have hL10 : Row ((w1.alloc (.cells #[.bool false, .slice none 0 0, .slice none 0 0] 27))) (w1.heap.size) := by
    have := row_new (w1) #[.bool false, .slice none 0 0, .slice none 0 0] 27
    try simp only [World.size_alloc] at this
    exact this
  go_wp2_with fail
  generalize (w1.alloc (.cells #[.bool false, .slice none 0 0, .slice none 0 0] 27)) = w1x at l100 l101 l102 hL10 hBW cb1 ⊢
  clear cb1
  refine (H2.out _).mono ?_
  rintro e w2 ⟨rfl, b2⟩
  replace hBW := hBW.trans (b2.mono hBW.size)
  replace l100 := below_cell b2 l100
  replace l101 := below_cell b2 l101
  replace l102 := below_cell b2 l102
  replace hL10 := below_row b2 hL10
  have hsz2 := hBW.size
  have hlt2hL10 := hL10.lt
  have l200 : ((w2.alloc (.cells #[.bool false, .slice none 0 0, .slice none 0 0] 27))).cell? ⟨w2.heap.size, 0, none⟩ = some (.bool false) := by go_simp
  have l201 : ((w2.alloc (.cells #[.bool false, .slice none 0 0, .slice none 0 0] 27))).cell? ⟨w2.heap.size, 1, none⟩ = some (.slice none 0 0) := by go_simp
  have l202 : ((w2.alloc (.cells #[.bool false, .slice none 0 0, .slice none 0 0] 27))).cell? ⟨w2.heap.size, 2, none⟩ = some (.slice none 0 0) := by go_simp
  have cb2 : Below w2.heap.size w2 ((w2.alloc (.cells #[.bool false, .slice none 0 0, .slice none 0 0] 27))) := ((Below.refl _ _).alloc (by (try simp only [World.size_alloc]); omega) _)
  replace hBW := hBW.trans (cb2.mono hBW.size)
  replace l100 := below_cell cb2 l100
  replace l101 := below_cell cb2 l101
  replace l102 := below_cell cb2 l102
  replace hL10 := below_row cb2 hL10
  have hL20 : Row ((w2.alloc (.cells #[.bool false, .slice none 0 0, .slice none 0 0] 27))) (w2.heap.size) := by
    have := row_new (w2) #[.bool false, .slice none 0 0, .slice none 0 0] 27
    try simp only [World.size_alloc] at this
    exact this
  go_wp2_with fail
  generalize (w2.alloc (.cells #[.bool false, .slice none 0 0, .slice none 0 0] 27)) = w2x at l100 l101 l102 l200 l201 l202 hL10 hL20 hBW cb2 ⊢
  clear cb2
  refine (HS.out _).mono ?_
  rintro e w3 ⟨rfl, b3⟩
  replace hBW := hBW.trans (b3.mono hBW.size)
  replace l100 := below_cell b3 l100
  replace l101 := below_cell b3 l101
  replace l102 := below_cell b3 l102
  replace l200 := below_cell b3 l200
  replace l201 := below_cell b3 l201
  replace l202 := below_cell b3 l202
  replace hL10 := below_row b3 hL10
  replace hL20 := below_row b3 hL20
  go_wp2_with fail
  refine (next_any b _ hb).mono ?_
  rintro e w7 ⟨rfl, rfl⟩
  go_wp2_with fail
  refine (vnext_any b _ hb).mono ?_
  rintro e w7 ⟨rfl, rfl⟩
  generalize nxE b = ne
  generalize nxF b = nf
  go_wp2_with fail
  refine (fsame_self _ _).mono ?_
  rintro e w11 ⟨rfl, b11⟩
  replace hBW := hBW.trans (b11.mono hBW.size)
  replace l100 := below_cell b11 l100
  replace l101 := below_cell b11 l101
  replace l102 := below_cell b11 l102
  replace l200 := below_cell b11 l200
  replace l201 := below_cell b11 l201
  replace l202 := below_cell b11 l202
  replace hL10 := below_row b11 hL10
  replace hL20 := below_row b11 hL20
  go_wp2_with fail
  refine (prev_any b _ hb).mono ?_
  rintro e w17 ⟨rfl, rfl⟩
  go_wp2_with fail
  refine (vprev_any b _ hb).mono ?_
  rintro e w17 ⟨rfl, rfl⟩
  generalize pvE b = pe
  generalize pvF b = pf
  go_wp2_with fail
  refine (fsame_self _ _).mono ?_
  rintro e w13 ⟨rfl, b13⟩
  replace hBW := hBW.trans (b13.mono hBW.size)
  replace l100 := below_cell b13 l100
  replace l101 := below_cell b13 l101
  replace l102 := below_cell b13 l102
  replace l200 := below_cell b13 l200
  replace l201 := below_cell b13 l201
  replace l202 := below_cell b13 l202
  replace hL10 := below_row b13 hL10
  replace hL20 := below_row b13 hL20
  go_wp2
  go_ret
  exact ⟨rfl, hB.trans (hBW.mono hB.size)⟩
set_option maxHeartbeats 8000000 in
set_option maxRecDepth 100000 in
theorem walk_is (z T b : Nat) (Z : Int) (V : Nat) (w : World) (hz : z = 1074) (hT : T = 2 ^ z) (hb : b < 18446744073709551616) (hf : b % SB < FI) (hL : Low (fv b) (T : Int) Z V) :
    Calls Try.prog 4 #[.float .f64 b] w fun e w' => e = .returned (.bool true) ∧ Below w.heap.size w w' := by
  obtain ⟨l1, l2⟩ := low_fl hz hT (by unfold fv; rw [am_sg]; exact amt_ln hf) hL
  have H1 := hide' (fun w' => Exact_is z T b Z V w' hz hT hb hf hL)
  have H2 := hide' (fun w' => vExact_is z T b Z V w' hz hT hb hf hL)
  clear hz hT hf hL
  have hB : Below w.heap.size w w := Below.refl _ _
  have hBW : Below w.heap.size w w := Below.refl _ _
  go_enter Try.func4, Try.ntmps4
  go_wp2_with fail
  refine (H1.out _).mono ?_
  rintro e w1 ⟨p1, q1, rfl, hp1, hq1⟩
  have b1 := hp1.below
  replace hp1 := hp1.back hBW
  replace hq1 := hq1.back hBW
  replace hBW := hBW.trans (b1.mono hBW.size)
  have hsz1 := hBW.size
  have l100 : ((w1.alloc (.cells #[.bool (ng Z), .slice p1 (ln (am Z)) (ln (am Z)), .slice q1 (ln V) (ln V)] 27))).cell? ⟨w1.heap.size, 0, none⟩ = some (.bool (ng Z)) := by go_simp
  have l101 : ((w1.alloc (.cells #[.bool (ng Z), .slice p1 (ln (am Z)) (ln (am Z)), .slice q1 (ln V) (ln V)] 27))).cell? ⟨w1.heap.size, 1, none⟩ = some (.slice p1 (ln (am Z)) (ln (am Z))) := by go_simp
  have l102 : ((w1.alloc (.cells #[.bool (ng Z), .slice p1 (ln (am Z)) (ln (am Z)), .slice q1 (ln V) (ln V)] 27))).cell? ⟨w1.heap.size, 2, none⟩ = some (.slice q1 (ln V) (ln V)) := by go_simp
  have cb1 : Below w1.heap.size w1 ((w1.alloc (.cells #[.bool (ng Z), .slice p1 (ln (am Z)) (ln (am Z)), .slice q1 (ln V) (ln V)] 27))) := ((Below.refl _ _).alloc (by (try simp only [World.size_alloc]); omega) _)
  replace hBW := hBW.trans (cb1.mono hBW.size)
  replace hp1 := hp1.later cb1
  replace hq1 := hq1.later cb1
  have hL10 : Row ((w1.alloc (.cells #[.bool (ng Z), .slice p1 (ln (am Z)) (ln (am Z)), .slice q1 (ln V) (ln V)] 27))) (w1.heap.size) := by
    have := row_new (w1) #[.bool (ng Z), .slice p1 (ln (am Z)) (ln (am Z)), .slice q1 (ln V) (ln V)] 27
    try simp only [World.size_alloc] at this
    exact this
  go_wp2_with fail
  generalize (w1.alloc (.cells #[.bool (ng Z), .slice p1 (ln (am Z)) (ln (am Z)), .slice q1 (ln V) (ln V)] 27)) = w1x at l100 l101 l102 hL10 hp1 hq1 hBW cb1 ⊢
  clear cb1
  refine (H2.out _).mono ?_
  rintro e w2 ⟨p2, q2, rfl, hp2, hq2⟩
  have b2 := hp2.below
  replace hp2 := hp2.back hBW
  replace hq2 := hq2.back hBW
  replace hBW := hBW.trans (b2.mono hBW.size)
  replace l100 := below_cell b2 l100
  replace l101 := below_cell b2 l101
  replace l102 := below_cell b2 l102
  replace hL10 := below_row b2 hL10
  replace hp1 := hp1.later b2
  replace hq1 := hq1.later b2
  have hsz2 := hBW.size
  have hlt2hL10 := hL10.lt
  have l200 : ((w2.alloc (.cells #[.bool (ng Z), .slice p2 (ln (am Z)) (ln (am Z)), .slice q2 (ln V) (ln V)] 27))).cell? ⟨w2.heap.size, 0, none⟩ = some (.bool (ng Z)) := by go_simp
  have l201 : ((w2.alloc (.cells #[.bool (ng Z), .slice p2 (ln (am Z)) (ln (am Z)), .slice q2 (ln V) (ln V)] 27))).cell? ⟨w2.heap.size, 1, none⟩ = some (.slice p2 (ln (am Z)) (ln (am Z))) := by go_simp
  have l202 : ((w2.alloc (.cells #[.bool (ng Z), .slice p2 (ln (am Z)) (ln (am Z)), .slice q2 (ln V) (ln V)] 27))).cell? ⟨w2.heap.size, 2, none⟩ = some (.slice q2 (ln V) (ln V)) := by go_simp
  have cb2 : Below w2.heap.size w2 ((w2.alloc (.cells #[.bool (ng Z), .slice p2 (ln (am Z)) (ln (am Z)), .slice q2 (ln V) (ln V)] 27))) := ((Below.refl _ _).alloc (by (try simp only [World.size_alloc]); omega) _)
  replace hBW := hBW.trans (cb2.mono hBW.size)
  replace l100 := below_cell cb2 l100
  replace l101 := below_cell cb2 l101
  replace l102 := below_cell cb2 l102
  replace hL10 := below_row cb2 hL10
  replace hp1 := hp1.later cb2
  replace hq1 := hq1.later cb2
  replace hp2 := hp2.later cb2
  replace hq2 := hq2.later cb2
  have hL20 : Row ((w2.alloc (.cells #[.bool (ng Z), .slice p2 (ln (am Z)) (ln (am Z)), .slice q2 (ln V) (ln V)] 27))) (w2.heap.size) := by
    have := row_new (w2) #[.bool (ng Z), .slice p2 (ln (am Z)) (ln (am Z)), .slice q2 (ln V) (ln V)] 27
    try simp only [World.size_alloc] at this
    exact this
  go_wp2_with fail
  generalize (w2.alloc (.cells #[.bool (ng Z), .slice p2 (ln (am Z)) (ln (am Z)), .slice q2 (ln V) (ln V)] 27)) = w2x at l100 l101 l102 l200 l201 l202 hL10 hL20 hp1 hq1 hp2 hq2 hBW cb2 ⊢
  clear cb2
  refine (SameRat_is Z V _ _ _ _ _ (by omega) (by omega) hp1.seg hq1.seg hp2.seg hq2.seg).mono ?_
  rintro e w3 ⟨rfl, b3⟩
  replace hBW := hBW.trans (b3.mono hBW.size)
  replace l100 := below_cell b3 l100
  replace l101 := below_cell b3 l101
  replace l102 := below_cell b3 l102
  replace l200 := below_cell b3 l200
  replace l201 := below_cell b3 l201
  replace l202 := below_cell b3 l202
  replace hL10 := below_row b3 hL10
  replace hL20 := below_row b3 hL20
  replace hp1 := hp1.later b3
  replace hq1 := hq1.later b3
  replace hp2 := hp2.later b3
  replace hq2 := hq2.later b3
  go_wp2_with fail
  refine (next_any b _ hb).mono ?_
  rintro e w7 ⟨rfl, rfl⟩
  go_wp2_with fail
  refine (vnext_any b _ hb).mono ?_
  rintro e w7 ⟨rfl, rfl⟩
  generalize nxE b = ne
  generalize nxF b = nf
  go_wp2_with fail
  refine (fsame_self _ _).mono ?_
  rintro e w11 ⟨rfl, b11⟩
  replace hBW := hBW.trans (b11.mono hBW.size)
  replace l100 := below_cell b11 l100
  replace l101 := below_cell b11 l101
  replace l102 := below_cell b11 l102
  replace l200 := below_cell b11 l200
  replace l201 := below_cell b11 l201
  replace l202 := below_cell b11 l202
  replace hL10 := below_row b11 hL10
  replace hL20 := below_row b11 hL20
  replace hp1 := hp1.later b11
  replace hq1 := hq1.later b11
  replace hp2 := hp2.later b11
  replace hq2 := hq2.later b11
  go_wp2_with fail
  refine (prev_any b _ hb).mono ?_
  rintro e w17 ⟨rfl, rfl⟩
  go_wp2_with fail
  refine (vprev_any b _ hb).mono ?_
  rintro e w17 ⟨rfl, rfl⟩
  generalize pvE b = pe
  generalize pvF b = pf
  go_wp2_with fail
  refine (fsame_self _ _).mono ?_
  rintro e w13 ⟨rfl, b13⟩
  replace hBW := hBW.trans (b13.mono hBW.size)
  replace l100 := below_cell b13 l100
  replace l101 := below_cell b13 l101
  replace l102 := below_cell b13 l102
  replace l200 := below_cell b13 l200
  replace l201 := below_cell b13 l201
  replace l202 := below_cell b13 l202
  replace hL10 := below_row b13 hL10
  replace hL20 := below_row b13 hL20
  replace hp1 := hp1.later b13
  replace hq1 := hq1.later b13
  replace hp2 := hp2.later b13
  replace hq2 := hq2.later b13
  go_wp2
  go_ret
  exact ⟨rfl, hB.trans (hBW.mono hB.size)⟩
theorem walk (b : Nat) (w : World) (hb : b < 18446744073709551616) :
    Calls Try.prog 4 #[.float .f64 b] w fun e w' => e = .returned (.bool true) ∧ Below w.heap.size w w' := by
  by_cases hf : b % SB < FI
  · obtain ⟨z, hz⟩ : ∃ z : Nat, z = 1074 := ⟨_, rfl⟩
    obtain ⟨T, hT⟩ : ∃ T : Nat, T = 2 ^ z := ⟨_, rfl⟩
    obtain ⟨Z, V, hL⟩ := low_ex (fv b) (T : Int) (by rw [hT]; have := Nat.two_pow_pos z; omega)
    exact walk_is z T b Z V w hz hT hb hf hL
  · exact walk_no b w hb hf

set_option maxRecDepth 100000 in
theorem contract (H : Type) (enc : TypeId × Value → H) (W : World) (base : Nat) (args : Array Value) (ds gs : List (DataW H)) (before : List MemPlace)
    (hval : ∀ (j : Nat) t v, Try.f4.params[j]? = some t → args[j]? = some v → Value.okWide Try.prog W .any base t v)
    (hW : DataW.Whole enc Try.prog Try.f4.params.toList Rows.approxStepsSpec.vars false W args.toList ds gs before)
    (hsz : (DataW.weightsEach Try.prog (Try.f4.params.toList ++ Rows.approxStepsSpec.plain.varTypes Try.prog) (ds ++ gs)).all (· ≤ reachBytes) = true) :
    Calls Try.prog 4 args W fun e W' => ∃ v, e = .returned v ∧ Rows.approxStepsSpec.post enc Try.prog Try.f4 false true false false W args v W' := by
  have hW' := hW
  obtain ⟨p, q, hA0, hV, rfl, hfz, hnd⟩ := hW
  have hA : DataW.TrodAll enc Try.prog W 0 (fun _ => true) true Try.f4.params.toList args.toList ds p := hA0
  rw [Try.params4] at hA hval hsz
  obtain ⟨v0, vs0, d0, ds0, p0, q0, hargs, rfl, rfl, h0, r0⟩ := trodAll_cons hA
  obtain ⟨rfl, rfl, rfl⟩ := trodAll_nil r0
  obtain rfl : args = #[v0] := by cases args; simp_all
  obtain ⟨rfl, rfl⟩ := trodVars_none hV
  obtain ⟨n0, rfl, rfl, rfl, w0⟩ := open_float Try.underlying29 (hval 0 29 v0 rfl rfl) h0
  have hn0 : n0 < 18446744073709551616 := by simpa [Lit.wf] using w0
  clear hA0
  simp only [List.append_nil] at hW'
  refine (walk n0 W hn0).mono fun e W' ⟨he, bel⟩ => ?_
  subst he
  exact ⟨_, rfl, _, _, _, [], _, [], hW', trodAll_mk1 (shut_bool Try.underlying4 _), (trodAll_cons_mk (shut_float Try.underlying29 w0) trodAll_mk0), rfl, bel.frame _, fun h => by cases h⟩

set_option maxRecDepth 100000 in
theorem lifted (os : Os) (started : os.Started) (H : Type) (enc : TypeId × Value → H) :
    ReturnsInHanded {} Try.checked os 4 .any (Rows.approxStepsSpec.pre6 enc Try.prog Try.f4 Rows.approxStepsRow.domain false) (Rows.approxStepsSpec.post enc Try.prog Try.f4 false true false false) := by
  refine returnsInHanded_of_change_sized (C := Try.checked) own started (by kernel_rfl) Try.func4
    (ChangeSpec.witness6 (enc := enc) (C := Try.checked) false ⟨#[], #[.float .f64 0], []⟩ 8 (by kernel_rfl) (by kernel_rfl) (by kernel_rfl) (by kernel_rfl)) ?_
  intro W base args ds gs before hval hW _ hsz _
  exact contract H enc W base args ds gs before hval hW hsz

theorem over : Rows.approxStepsRow.holds Try.pinned (OpenSpec.ofChange Rows.approxStepsSpec) :=
  OpenClaim.holds_of_wide 4 Try.f4 rfl rfl rfl rfl rfl rfl rfl ⟨rfl, rfl, rfl, rfl, rfl⟩ rfl rfl rfl rfl rfl (by kernel_rfl) Try.func4 (by kernel_rfl)
    (of_decide_eq_true (by kernel_rfl)) (by unfold Func.isWrapper; first | (rw [if_pos (by decide +kernel)]; kernel_rfl) | (rw [if_neg (by decide +kernel)]; exact ⟨rfl, rfl⟩))
    (fun os started H enc _ => lifted os started H enc)

end Go.Proofs.Ytjofldgaefjapaa.approxSteps
namespace Go.Proofs.Ytjofldgaefjapaa
theorem approxSteps_holds : Rows.ApproxStepsSaid := approxSteps.over
#print axioms approxSteps_holds
end Go.Proofs.Ytjofldgaefjapaa
