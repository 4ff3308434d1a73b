/-
  ApproxRounds.
-/
import Derived.Test.YtjofldgaefjapaaWFB
import Derived.Test.YtjofldgaefjapaaOpenQ
namespace Go.Proofs.Ytjofldgaefjapaa.approxRounds
open Go.ChangeShapes Go.WideShapes Go.ChangeAt Go.RowKit Go.Proofs.Ytjofldgaefjapaa
set_option linter.unusedVariables false

set_option maxHeartbeats 8000000 in
set_option maxRecDepth 100000 in
theorem walk (s0 : Bool) (a0 : Option Addr) (n0 c0 X0 : Nat) (b0 : Option Addr) (m0 d0 Y0 : Nat) (w : World) (hc0 : n0 ≤ c0) (hm0 : n0 ≤ 35184372087808) (hS0 : Seg w a0 X0 n0) (hd0 : m0 ≤ d0) (hk0 : m0 ≤ 35184372087808) (hT0 : Seg w b0 Y0 m0) :
    Calls Try.prog 3 #[Value.agg #[Value.bool s0, Value.slice a0 n0 c0, Value.slice b0 m0 d0]] w fun e w' => e = .returned (.bool true) ∧ Below w.heap.size w w' := by
  obtain ⟨z, hz⟩ : ∃ z : Nat, z = 1074 := ⟨_, rfl⟩
  obtain ⟨T, hT⟩ : ∃ T : Nat, T = 2 ^ z := ⟨_, rfl⟩
  have H0 := hide' (fun w' k1 k2 => near_is s0 a0 n0 c0 X0 b0 m0 d0 Y0 z T w' hc0 hm0 k1 hd0 hk0 k2 hz hT)
  have H1 := hide' (fun w' k1 k2 => vnear_is s0 a0 n0 c0 X0 b0 m0 d0 Y0 z T w' hc0 hm0 k1 hd0 hk0 k2 hz hT)
  have H2 := hide' (fun w' k1 k2 => down_is s0 a0 n0 c0 X0 b0 m0 d0 Y0 z T w' hc0 hm0 k1 hd0 hk0 k2 hz hT)
  have H3 := hide' (fun w' k1 k2 => vdown_is s0 a0 n0 c0 X0 b0 m0 d0 Y0 z T w' hc0 hm0 k1 hd0 hk0 k2 hz hT)
  have H4 := hide' (fun w' k1 k2 => up_is s0 a0 n0 c0 X0 b0 m0 d0 Y0 z T w' hc0 hm0 k1 hd0 hk0 k2 hz hT)
  have H5 := hide' (fun w' k1 k2 => vup_is s0 a0 n0 c0 X0 b0 m0 d0 Y0 z T w' hc0 hm0 k1 hd0 hk0 k2 hz hT)
  clear hz hT
  go_enter Try.func3, Try.ntmps3
  go_wp2_with fail
  have q00 : ((w.alloc (.cells #[.bool s0, .slice a0 n0 c0, .slice b0 m0 d0] 27))).cell? ⟨w.heap.size, 0, none⟩ = some (.bool s0) := by go_simp
  have q01 : ((w.alloc (.cells #[.bool s0, .slice a0 n0 c0, .slice b0 m0 d0] 27))).cell? ⟨w.heap.size, 1, none⟩ = some (.slice a0 n0 c0) := by go_simp
  have q02 : ((w.alloc (.cells #[.bool s0, .slice a0 n0 c0, .slice b0 m0 d0] 27))).cell? ⟨w.heap.size, 2, none⟩ = some (.slice b0 m0 d0) := by go_simp
  have hB : Below w.heap.size w ((w.alloc (.cells #[.bool s0, .slice a0 n0 c0, .slice b0 m0 d0] 27))) := ((Below.refl _ _).alloc (by (try simp only [World.size_alloc]); omega) _)
  have hz : ((w.alloc (.cells #[.bool s0, .slice a0 n0 c0, .slice b0 m0 d0] 27))).heap.size = w.heap.size + 1 := by simp only [World.size_alloc]
  generalize (w.alloc (.cells #[.bool s0, .slice a0 n0 c0, .slice b0 m0 d0] 27)) = W at q00 q01 q02 hB hz ⊢
  have hBW : Below W.heap.size W W := Below.refl _ _
  replace hBW := hBW.drew
  first
    | go_region_held3 (fun w' => w'.cell? ⟨w.heap.size, 0, none⟩ = some (.bool s0) ∧ w'.cell? ⟨w.heap.size, 1, none⟩ = some (.slice a0 n0 c0) ∧ w'.cell? ⟨w.heap.size, 2, none⟩ = some (.slice b0 m0 d0) ∧ Below w.heap.size w w')
        (first | exact ⟨q00, q01, q02, hB.trans (hBW.mono hB.size)⟩ | exact kp3 b1 (by assumption) | exact kp3 b2 (by assumption) | exact kp3 b3 (by assumption) | exact kp3 b4 (by assumption) | exact kp3 b5 (by assumption) | exact kp3 b6 (by assumption) | exact kp3 (below_alloc _) (by assumption))
        (first
          | (go_at_call 7; (fail_if_success clear b1); refine (H0.out _ (sb hS0 hB hBW) (sb hT0 hB hBW)).mono ?_; rintro e w1 ⟨k1, rfl, hC1, bb1⟩; have b1 := bb1; replace hBW := hBW.trans (b1.mono hBW.size); replace q00 := below_cell b1 q00; replace q01 := below_cell b1 q01; replace q02 := below_cell b1 q02)
          | (go_at_call 8; (fail_if_success clear b2); refine (H1.out _ (sb hS0 hB hBW) (sb hT0 hB hBW)).mono ?_; rintro e w2 ⟨k2, rfl, hC2, bb2⟩; have b2 := bb2; replace hBW := hBW.trans (b2.mono hBW.size); replace q00 := below_cell b2 q00; replace q01 := below_cell b2 q01; replace q02 := below_cell b2 q02; obtain rfl := hC1.uniq hC2)
          | (go_at_call 6; (fail_if_success clear b3); refine (fsame_self _ _).mono ?_; rintro e w3 ⟨rfl, bb3⟩; have b3 := bb3; replace hBW := hBW.trans (b3.mono hBW.size); replace q00 := below_cell b3 q00; replace q01 := below_cell b3 q01; replace q02 := below_cell b3 q02)
          | (go_at_call 9; (fail_if_success clear b4); refine (H2.out _ (sb hS0 hB hBW) (sb hT0 hB hBW)).mono ?_; rintro e w4 ⟨k4, rfl, hC4, bb4⟩; have b4 := bb4; replace hBW := hBW.trans (b4.mono hBW.size); replace q00 := below_cell b4 q00; replace q01 := below_cell b4 q01; replace q02 := below_cell b4 q02)
          | (go_at_call 10; (fail_if_success clear b5); refine (H3.out _ (sb hS0 hB hBW) (sb hT0 hB hBW)).mono ?_; rintro e w5 ⟨k5, rfl, hC5, bb5⟩; have b5 := bb5; replace hBW := hBW.trans (b5.mono hBW.size); replace q00 := below_cell b5 q00; replace q01 := below_cell b5 q01; replace q02 := below_cell b5 q02; obtain rfl := hC4.uniq hC5)
          | (go_at_call 6; (fail_if_success clear b6); refine (fsame_self _ _).mono ?_; rintro e w6 ⟨rfl, bb6⟩; have b6 := bb6; replace hBW := hBW.trans (b6.mono hBW.size); replace q00 := below_cell b6 q00; replace q01 := below_cell b6 q01; replace q02 := below_cell b6 q02))
    | fail
  go_wp2_with fail
  replace hBW := hBW.drew
  first
    | go_region_held3 (fun w' => w'.cell? ⟨w.heap.size, 0, none⟩ = some (.bool s0) ∧ w'.cell? ⟨w.heap.size, 1, none⟩ = some (.slice a0 n0 c0) ∧ w'.cell? ⟨w.heap.size, 2, none⟩ = some (.slice b0 m0 d0) ∧ Below w.heap.size w w')
        (first | exact ⟨q00, q01, q02, hB.trans (hBW.mono hB.size)⟩ | exact kp3 b7 (by assumption) | exact kp3 b8 (by assumption) | exact kp3 b9 (by assumption) | exact kp3 (below_alloc _) (by assumption))
        (first
          | (go_at_call 11; (fail_if_success clear b7); refine (H4.out _ (sb hS0 hB hBW) (sb hT0 hB hBW)).mono ?_; rintro e w7 ⟨k7, rfl, hC7, bb7⟩; have b7 := bb7; replace hBW := hBW.trans (b7.mono hBW.size); replace q00 := below_cell b7 q00; replace q01 := below_cell b7 q01; replace q02 := below_cell b7 q02)
          | (go_at_call 12; (fail_if_success clear b8); refine (H5.out _ (sb hS0 hB hBW) (sb hT0 hB hBW)).mono ?_; rintro e w8 ⟨k8, rfl, hC8, bb8⟩; have b8 := bb8; replace hBW := hBW.trans (b8.mono hBW.size); replace q00 := below_cell b8 q00; replace q01 := below_cell b8 q01; replace q02 := below_cell b8 q02; obtain rfl := hC7.uniq hC8)
          | (go_at_call 6; (fail_if_success clear b9); refine (fsame_self _ _).mono ?_; rintro e w9 ⟨rfl, bb9⟩; have b9 := bb9; replace hBW := hBW.trans (b9.mono hBW.size); replace q00 := below_cell b9 q00; replace q01 := below_cell b9 q01; replace q02 := below_cell b9 q02))
    | fail
  go_wp2
  go_ret
  exact ⟨rfl, hB.trans (hBW.mono hB.size)⟩

set_option maxRecDepth 100000 in
theorem contract (H : Type) (enc : TypeId × Value → H) (W : World) (base : Nat) (args : Array Value) (ds gs : List (DataW H)) (before : List MemPlace)
    (hval : ∀ (j : Nat) t v, Try.f3.params[j]? = some t → args[j]? = some v → Value.okWide Try.prog W .any base t v)
    (hW : DataW.Whole enc Try.prog Try.f3.params.toList Rows.approxRoundsSpec.vars false W args.toList ds gs before)
    (hsz : (DataW.weightsEach Try.prog (Try.f3.params.toList ++ Rows.approxRoundsSpec.plain.varTypes Try.prog) (ds ++ gs)).all (· ≤ reachBytes) = true) :
    Calls Try.prog 3 args W fun e W' => ∃ v, e = .returned v ∧ Rows.approxRoundsSpec.post enc Try.prog Try.f3 false true false false W args v W' := by
  have hW' := hW
  obtain ⟨p, q, hA0, hV, rfl, hfz, hnd⟩ := hW
  have hA : DataW.TrodAll enc Try.prog W 0 (fun _ => true) true Try.f3.params.toList args.toList ds p := hA0
  rw [Try.params3] at hA hval hsz
  obtain ⟨v0, vs0, d0, ds0, p0, q0, hargs, rfl, rfl, h0, r0⟩ := trodAll_cons hA
  obtain ⟨rfl, rfl, rfl⟩ := trodAll_nil r0
  obtain rfl : args = #[v0] := by cases args; simp_all
  obtain ⟨rfl, rfl⟩ := trodVars_none hV
  have lt0 : ∀ x ∈ p0, x.block < W.heap.size := by obtain ⟨m, hm⟩ := h0; exact DataW.trod_lt m _ _ _ hm
  obtain ⟨rs0, ra0, rn0, rc0, rX0, rb0, rm0, re0, rY0, rfl, hS0, hc0, hb0, hT0, hd0, hk0, hu0, hv0⟩ := open_Rat (hval 0 27 v0 rfl rfl) h0 (sized_at 0 hsz rfl rfl)
  clear hA0
  simp only [List.append_nil] at hW'
  refine (walk rs0 ra0 rn0 rc0 rX0 rb0 rm0 re0 rY0 W hc0 hb0 hS0 hd0 hk0 hT0).mono fun e W' ⟨he, bel⟩ => ?_
  subst he
  exact ⟨_, rfl, _, _, _, [], _, [], hW', trodAll_mk1 (shut_bool Try.underlying4 _), (trodAll_cons_mk (Below.trod laidOut (by kernel_rfl) (of_decide_eq_true (by kernel_rfl)) h0 bel lt0) trodAll_mk0), rfl, bel.frame _, fun h => by cases h⟩

set_option maxRecDepth 100000 in
theorem lifted (os : Os) (started : os.Started) (H : Type) (enc : TypeId × Value → H) :
    ReturnsInHanded {} Try.checked os 3 .any (Rows.approxRoundsSpec.pre6 enc Try.prog Try.f3 Rows.approxRoundsRow.domain false) (Rows.approxRoundsSpec.post enc Try.prog Try.f3 false true false false) := by
  refine returnsInHanded_of_change_sized (C := Try.checked) own started (by kernel_rfl) Try.func3
    (ChangeSpec.witness6 (enc := enc) (C := Try.checked) false ⟨#[], #[.agg #[.bool false, .slice none 0 0, .slice none 0 0]], []⟩ 8 (by kernel_rfl) (by kernel_rfl) (by kernel_rfl) (by kernel_rfl)) ?_
  intro W base args ds gs before hval hW _ hsz _
  exact contract H enc W base args ds gs before hval hW hsz

theorem over : Rows.approxRoundsRow.holds Try.pinned (OpenSpec.ofChange Rows.approxRoundsSpec) :=
  OpenClaim.holds_of_wide 3 Try.f3 rfl rfl rfl rfl rfl rfl rfl ⟨rfl, rfl, rfl, rfl, rfl⟩ rfl rfl rfl rfl rfl (by kernel_rfl) Try.func3 (by kernel_rfl)
    (of_decide_eq_true (by kernel_rfl)) (by unfold Func.isWrapper; first | (rw [if_pos (by decide +kernel)]; kernel_rfl) | (rw [if_neg (by decide +kernel)]; exact ⟨rfl, rfl⟩))
    (fun os started H enc _ => lifted os started H enc)

end Go.Proofs.Ytjofldgaefjapaa.approxRounds
namespace Go.Proofs.Ytjofldgaefjapaa
theorem approxRounds_holds : Rows.ApproxRoundsSaid := approxRounds.over
#print axioms approxRounds_holds
end Go.Proofs.Ytjofldgaefjapaa
