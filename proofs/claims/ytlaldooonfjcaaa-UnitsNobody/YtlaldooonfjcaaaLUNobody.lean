/-
  UnitsNobody.
-/
import Derived.Test.YtlaldooonfjcaaaUA1
import Derived.Test.YtlaldooonfjcaaaOpenU
namespace Go.Proofs.Ytlaldooonfjcaaa.unitsNobody
open Go.ChangeShapes Go.WideShapes Go.ChangeAt Go.RowKit Go.Proofs.Ytlaldooonfjcaaa
set_option linter.unusedVariables false
set_option linter.unusedSimpArgs false

set_option maxHeartbeats 8000000 in
set_option maxRecDepth 100000 in
theorem walk (o : OpV) (w : World) :
    Calls Try.prog 4 #[.agg #[.int .i64 o.d, .slice o.a o.n o.c, .int .i64 o.l, .int .i64 o.k]] w fun e w' => e = .returned (.bool true) ∧ Below w.heap.size w w' := by
  go_enter Try.func4, Try.ntmps4
  go_wp2_with fail
  obtain ⟨wA, hwA⟩ : ∃ wA, w.alloc (.cells #[.int .i64 o.d, .slice o.a o.n o.c, .int .i64 o.l, .int .i64 o.k] 34) = wA := ⟨_, rfl⟩
  have hBA : Below w.heap.size w wA := by subst hwA; exact below_alloc _
  have d1 : wA.cell? ⟨w.heap.size, 1, none⟩ = some (.slice o.a o.n o.c) := by subst hwA; go_simp
  have d2 : wA.cell? ⟨w.heap.size, 2, none⟩ = some (.int .i64 o.l) := by subst hwA; go_simp
  have d3 : wA.cell? ⟨w.heap.size, 3, none⟩ = some (.int .i64 o.k) := by subst hwA; go_simp
  rw [hwA]
  clear hwA
  go_loopw [4] (fun vi wr => ∃ k : Nat, k ≤ 2 ∧ vi = .int .i64 k ∧ Below wA.heap.size wA wr) (fun vi _ => 2 - (intOf vi).toNat)
  case atStart => exact ⟨0, by omega, rfl, Below.refl _ _⟩
  case round =>
    obtain ⟨k, hk, rfl, hB⟩ := hrel
    replace d1 := below_cell hB d1
    replace d2 := below_cell hB d2
    replace d3 := below_cell hB d3
    rcases (show k = 0 ∨ k = 1 ∨ k = 2 by omega) with rfl | rfl | rfl
    · have hN : NobU wr (.pointer none) := Or.inl rfl
      go_wp2_with fail
      refine (nobGrow _ _ hN).mono ?_
      rintro e x1 ⟨rfl, b1⟩
      replace d1 := below_cell b1 d1
      replace d2 := below_cell b1 d2
      replace d3 := below_cell b1 d3
      replace hN := hN.later b1
      replace hB := hB.trans (b1.mono hB.size)
      clear b1
      go_wp2_with fail
      refine (nobAdd _ _ _ hN).mono ?_
      rintro e x2 ⟨rfl, b2⟩
      replace d1 := below_cell b2 d1
      replace d2 := below_cell b2 d2
      replace d3 := below_cell b2 d3
      replace hN := hN.later b2
      replace hB := hB.trans (b2.mono hB.size)
      clear b2
      go_wp2_with fail
      refine (nobValue _ _ _ hN).mono ?_
      rintro e x3 ⟨rfl, b3⟩
      replace d1 := below_cell b3 d1
      replace d2 := below_cell b3 d2
      replace d3 := below_cell b3 d3
      replace hN := hN.later b3
      replace hB := hB.trans (b3.mono hB.size)
      clear b3
      go_wp2_with fail
      refine (nobDecide _ _ _ hN).mono ?_
      rintro e x4 ⟨rfl, b4⟩
      replace d1 := below_cell b4 d1
      replace d2 := below_cell b4 d2
      replace d3 := below_cell b4 d3
      replace hN := hN.later b4
      replace hB := hB.trans (b4.mono hB.size)
      clear b4
      go_wp2_with fail
      refine (nobForce _ _ _ _ hN).mono ?_
      rintro e x5 ⟨rfl, b5⟩
      replace d1 := below_cell b5 d1
      replace d2 := below_cell b5 d2
      replace d3 := below_cell b5 d3
      replace hN := hN.later b5
      replace hB := hB.trans (b5.mono hB.size)
      clear b5
      go_wp2_with fail
      refine (nobBack _ _ _ hN).mono ?_
      rintro e x6 ⟨rfl, b6⟩
      replace d1 := below_cell b6 d1
      replace d2 := below_cell b6 d2
      replace d3 := below_cell b6 d3
      replace hN := hN.later b6
      replace hB := hB.trans (b6.mono hB.size)
      clear b6
      go_wp2_with fail
      refine (nobAtoms _ _ hN).mono ?_
      rintro e x7 ⟨rfl, b7⟩
      replace d1 := below_cell b7 d1
      replace d2 := below_cell b7 d2
      replace d3 := below_cell b7 d3
      replace hN := hN.later b7
      replace hB := hB.trans (b7.mono hB.size)
      clear b7
      go_wp2_with fail
      refine (nobLevel _ _ hN).mono ?_
      rintro e x8 ⟨rfl, b8⟩
      replace d1 := below_cell b8 d1
      replace d2 := below_cell b8 d2
      replace d3 := below_cell b8 d3
      replace hN := hN.later b8
      replace hB := hB.trans (b8.mono hB.size)
      clear b8
      go_wp2_with fail
      refine (nobClauses _ _ hN).mono ?_
      rintro e x9 ⟨rfl, b9⟩
      replace d1 := below_cell b9 d1
      replace d2 := below_cell b9 d2
      replace d3 := below_cell b9 d3
      replace hN := hN.later b9
      replace hB := hB.trans (b9.mono hB.size)
      clear b9
      go_wp2_with fail
      refine (nobMarks _ _ hN).mono ?_
      rintro e x10 ⟨rfl, b10⟩
      replace d1 := below_cell b10 d1
      replace d2 := below_cell b10 d2
      replace d3 := below_cell b10 d3
      replace hN := hN.later b10
      replace hB := hB.trans (b10.mono hB.size)
      clear b10
      go_wp2_with fail
      refine (nobPropagate _ _ hN).mono ?_
      rintro e x11 ⟨rfl, b11⟩
      replace d1 := below_cell b11 d1
      replace d2 := below_cell b11 d2
      replace d3 := below_cell b11 d3
      replace hN := hN.later b11
      replace hB := hB.trans (b11.mono hB.size)
      clear b11
      go_wp2_with fail
      go_wp2
      go_roundw
      case rel => exact ⟨1, by omega, by go_num, hB⟩
      case measure => simp [intOf]
    · go_wp2_with fail
      have bS := below_alloc (w := wr) (.cells #[.slice none 0 0, .slice none 0 0, .slice none 0 0, .slice none 0 0, .int .i64 0, .slice none 0 0, .slice none 0 0] 40)
      have hN : NobU (wr.alloc (.cells #[.slice none 0 0, .slice none 0 0, .slice none 0 0, .slice none 0 0, .int .i64 0, .slice none 0 0, .slice none 0 0] 40)) (.pointer (some ⟨wr.heap.size, 0, none⟩)) := Or.inr ⟨wr.heap.size, rfl, by go_simp⟩
      replace d1 := below_cell bS d1
      replace d2 := below_cell bS d2
      replace d3 := below_cell bS d3
      replace hB := hB.trans (bS.mono hB.size)
      clear bS
      generalize wr.alloc (.cells #[.slice none 0 0, .slice none 0 0, .slice none 0 0, .slice none 0 0, .int .i64 0, .slice none 0 0, .slice none 0 0] 40) = ws at d1 d2 d3 hN hB ⊢
      refine (nobGrow _ _ hN).mono ?_
      rintro e x1 ⟨rfl, b1⟩
      replace d1 := below_cell b1 d1
      replace d2 := below_cell b1 d2
      replace d3 := below_cell b1 d3
      replace hN := hN.later b1
      replace hB := hB.trans (b1.mono hB.size)
      clear b1
      go_wp2_with fail
      refine (nobAdd _ _ _ hN).mono ?_
      rintro e x2 ⟨rfl, b2⟩
      replace d1 := below_cell b2 d1
      replace d2 := below_cell b2 d2
      replace d3 := below_cell b2 d3
      replace hN := hN.later b2
      replace hB := hB.trans (b2.mono hB.size)
      clear b2
      go_wp2_with fail
      refine (nobValue _ _ _ hN).mono ?_
      rintro e x3 ⟨rfl, b3⟩
      replace d1 := below_cell b3 d1
      replace d2 := below_cell b3 d2
      replace d3 := below_cell b3 d3
      replace hN := hN.later b3
      replace hB := hB.trans (b3.mono hB.size)
      clear b3
      go_wp2_with fail
      refine (nobDecide _ _ _ hN).mono ?_
      rintro e x4 ⟨rfl, b4⟩
      replace d1 := below_cell b4 d1
      replace d2 := below_cell b4 d2
      replace d3 := below_cell b4 d3
      replace hN := hN.later b4
      replace hB := hB.trans (b4.mono hB.size)
      clear b4
      go_wp2_with fail
      refine (nobForce _ _ _ _ hN).mono ?_
      rintro e x5 ⟨rfl, b5⟩
      replace d1 := below_cell b5 d1
      replace d2 := below_cell b5 d2
      replace d3 := below_cell b5 d3
      replace hN := hN.later b5
      replace hB := hB.trans (b5.mono hB.size)
      clear b5
      go_wp2_with fail
      refine (nobBack _ _ _ hN).mono ?_
      rintro e x6 ⟨rfl, b6⟩
      replace d1 := below_cell b6 d1
      replace d2 := below_cell b6 d2
      replace d3 := below_cell b6 d3
      replace hN := hN.later b6
      replace hB := hB.trans (b6.mono hB.size)
      clear b6
      go_wp2_with fail
      refine (nobAtoms _ _ hN).mono ?_
      rintro e x7 ⟨rfl, b7⟩
      replace d1 := below_cell b7 d1
      replace d2 := below_cell b7 d2
      replace d3 := below_cell b7 d3
      replace hN := hN.later b7
      replace hB := hB.trans (b7.mono hB.size)
      clear b7
      go_wp2_with fail
      refine (nobLevel _ _ hN).mono ?_
      rintro e x8 ⟨rfl, b8⟩
      replace d1 := below_cell b8 d1
      replace d2 := below_cell b8 d2
      replace d3 := below_cell b8 d3
      replace hN := hN.later b8
      replace hB := hB.trans (b8.mono hB.size)
      clear b8
      go_wp2_with fail
      refine (nobClauses _ _ hN).mono ?_
      rintro e x9 ⟨rfl, b9⟩
      replace d1 := below_cell b9 d1
      replace d2 := below_cell b9 d2
      replace d3 := below_cell b9 d3
      replace hN := hN.later b9
      replace hB := hB.trans (b9.mono hB.size)
      clear b9
      go_wp2_with fail
      refine (nobMarks _ _ hN).mono ?_
      rintro e x10 ⟨rfl, b10⟩
      replace d1 := below_cell b10 d1
      replace d2 := below_cell b10 d2
      replace d3 := below_cell b10 d3
      replace hN := hN.later b10
      replace hB := hB.trans (b10.mono hB.size)
      clear b10
      go_wp2_with fail
      refine (nobPropagate _ _ hN).mono ?_
      rintro e x11 ⟨rfl, b11⟩
      replace d1 := below_cell b11 d1
      replace d2 := below_cell b11 d2
      replace d3 := below_cell b11 d3
      replace hN := hN.later b11
      replace hB := hB.trans (b11.mono hB.size)
      clear b11
      go_wp2_with fail
      go_wp2
      go_roundw
      case rel => exact ⟨2, by omega, by go_num, hB⟩
      case measure => simp [intOf]
    · go_wp2
      go_ret
      exact ⟨rfl, hBA.trans (hB.mono hBA.size)⟩
set_option maxRecDepth 100000 in
theorem contract (H : Type) (enc : TypeId × Value → H) (W : World) (base : Nat) (args : Array Value) (ds gs : List (DataW H)) (before : List MemPlace)
    (hval : ∀ (j : Nat) t v, Try.f4.params[j]? = some t → args[j]? = some v → Value.okWide Try.prog W .any base t v)
    (hW : DataW.Whole enc Try.prog Try.f4.params.toList Rows.unitsNobodySpec.vars false W args.toList ds gs before)
    (hsz : (DataW.weightsEach Try.prog (Try.f4.params.toList ++ Rows.unitsNobodySpec.plain.varTypes Try.prog) (ds ++ gs)).all (· ≤ reachBytes) = true) :
    Calls Try.prog 4 args W fun e W' => ∃ v, e = .returned v ∧ Rows.unitsNobodySpec.post enc Try.prog Try.f4 false true false false W args v W' := by
  have hW' := hW
  obtain ⟨p, q, hA0, hV, rfl, hfz, hnd⟩ := hW
  have hA : DataW.TrodAll enc Try.prog W 0 (fun _ => true) true Try.f4.params.toList args.toList ds p := hA0
  rw [Try.params4] at hA hval hsz
  obtain ⟨v0, vs0, d0, ds0, p0, q0, hargs, rfl, rfl, h0, r0⟩ := trodAll_cons hA
  obtain ⟨rfl, rfl, rfl⟩ := trodAll_nil r0
  obtain rfl : args = #[v0] := by cases args; simp_all
  obtain ⟨rfl, rfl⟩ := trodVars_none hV
  have lt0 : ∀ x ∈ p0, x.block < W.heap.size := by obtain ⟨m, hm⟩ := h0; exact DataW.trod_lt m _ _ _ hm
  obtain ⟨ou0, rfl, hou0, hub0⟩ := open_Op (hval 0 34 v0 rfl rfl) h0
  clear hA0
  simp only [List.append_nil] at hW'
  refine (walk ou0 W ).mono fun e W' ⟨he, bel⟩ => ?_
  subst he
  exact ⟨_, rfl, _, _, _, [], _, [], hW', trodAll_mk1 (shut_bool Try.underlying4 _), (trodAll_cons_mk (Below.trod laidOut (by kernel_rfl) (of_decide_eq_true (by kernel_rfl)) h0 bel lt0) trodAll_mk0), rfl, bel.frame _, fun h => by cases h⟩

set_option maxRecDepth 100000 in
theorem lifted (os : Os) (started : os.Started) (H : Type) (enc : TypeId × Value → H) :
    ReturnsInHanded {} Try.checked os 4 .any (Rows.unitsNobodySpec.pre6 enc Try.prog Try.f4 Rows.unitsNobodyRow.domain false) (Rows.unitsNobodySpec.post enc Try.prog Try.f4 false true false false) := by
  refine returnsInHanded_of_change_sized (C := Try.checked) own started (by kernel_rfl) Try.func4
    (ChangeSpec.witness6 (enc := enc) (C := Try.checked) false ⟨#[], #[.agg #[.int .i64 0, .slice none 0 0, .int .i64 0, .int .i64 0]], []⟩ 8 (by kernel_rfl) (by kernel_rfl) (by kernel_rfl) (by kernel_rfl)) ?_
  intro W base args ds gs before hval hW _ hsz _
  exact contract H enc W base args ds gs before hval hW hsz

theorem over : Rows.unitsNobodyRow.holds Try.pinned (OpenSpec.ofChange Rows.unitsNobodySpec) :=
  OpenClaim.holds_of_wide 4 Try.f4 rfl rfl rfl rfl rfl rfl rfl ⟨rfl, rfl, rfl, rfl, rfl⟩ rfl rfl rfl rfl rfl (by kernel_rfl) Try.func4 (by kernel_rfl)
    (of_decide_eq_true (by kernel_rfl)) (by unfold Func.isWrapper; first | (rw [if_pos (by decide +kernel)]; kernel_rfl) | (rw [if_neg (by decide +kernel)]; exact ⟨rfl, rfl⟩))
    (fun os started H enc _ => lifted os started H enc)

end Go.Proofs.Ytlaldooonfjcaaa.unitsNobody
namespace Go.Proofs.Ytlaldooonfjcaaa
theorem unitsNobody_holds : Rows.UnitsNobodySaid := unitsNobody.over
#print axioms unitsNobody_holds
end Go.Proofs.Ytlaldooonfjcaaa
