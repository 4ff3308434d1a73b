/-
  TokensNames.
-/
import Derived.Test.YtheoajpbcieppaaTK7
import Derived.Test.YtheoajpbcieppaaTKO
namespace Go.Proofs.Ytheoajpbcieppaa.tokensNames
open Go.ChangeShapes Go.WideShapes Go.ChangeAt Go.RowKit Go.Proofs.Ytheoajpbcieppaa
set_option linter.unusedVariables false
set_option linter.unusedSimpArgs false

theorem ba_self (s : ByteArray) : (s.toList == s.toList) = true := beq_self_eq_true _
open Classical in
set_option maxHeartbeats 4000000 in
set_option maxRecDepth 100000 in
theorem walk (s : ByteArray) (w : World) (hs : s.size ≤ 140737488351232) : Calls Try.prog 3 #[.string s] w fun e w' => e = .returned (.bool true) ∧ Below w.heap.size w w' := by
  obtain ⟨p, hp⟩ : ∃ p : Bool, p = true ↔ isPl s := ⟨decide (isPl s), decide_eq_true_iff⟩
  obtain ⟨n, hn⟩ : ∃ n : Bool, n = true ↔ hasB nbN s := ⟨decide (hasB nbN s), decide_eq_true_iff⟩
  have H1 := hideT (symbol_is s (by omega) p n hp hn w)
  have H2 := hideT (fun w' => rSymbol_is s (by omega) p n hp hn w')
  have H3 := hideT (fun w' => plain_is s (by omega) p hp w')
  have H4 := hideT (fun w' => rPlain_is s (by omega) p hp w')
  have H5 := hideT (fun w' => reserved_is s w')
  have H6 := hideT (fun w' => rReserved_is s w')
  have e1 := ba_self s
  have e2 := ba_self (barS s)
  have e3 : ((⟨#[]⟩ : ByteArray).toList == (⟨#[]⟩ : ByteArray).toList) = true := ba_self _
  have e4 : ∀ b : Bool, (b == b) = true := fun b => by cases b <;> rfl
  clear hp hn
  cases p
  · cases n
    · skip
      go_enter Try.func3, Try.ntmps3
      go_wp2_with fail
      refine H1.out.mono ?_
      rintro e w1 ⟨rfl, b1⟩
      show _
      unfold symA
      simp only [if_true, if_false, Bool.false_eq_true, reduceIte]
      go_wp2_with fail
      refine (H2.out _).mono ?_
      rintro e w2 ⟨rfl, rfl⟩
      unfold symA
      simp only [if_true, if_false, Bool.false_eq_true, reduceIte]
      go_wp2_with fail
      refine (H3.out _).mono ?_
      rintro e w3 ⟨rfl, b3⟩
      go_wp2_with fail
      refine (H4.out _).mono ?_
      rintro e w4 ⟨rfl, rfl⟩
      go_wp2_with fail
      refine (H5.out _).mono ?_
      rintro e w5 ⟨rfl, rfl⟩
      go_wp2_with fail
      refine (H6.out _).mono ?_
      rintro e w6 ⟨rfl, rfl⟩
      generalize resB s = rb
      cases rb
      all_goals go_wp2
      all_goals go_ret
      all_goals exact ⟨rfl, b1.trans (b3.mono b1.size)⟩
    · skip
      go_enter Try.func3, Try.ntmps3
      go_wp2_with fail
      refine H1.out.mono ?_
      rintro e w1 ⟨rfl, b1⟩
      show _
      unfold symA
      simp only [if_true, if_false, Bool.false_eq_true, reduceIte]
      go_wp2_with fail
      refine (H2.out _).mono ?_
      rintro e w2 ⟨rfl, rfl⟩
      unfold symA
      simp only [if_true, if_false, Bool.false_eq_true, reduceIte]
      go_wp2_with fail
      refine (H3.out _).mono ?_
      rintro e w3 ⟨rfl, b3⟩
      go_wp2_with fail
      refine (H4.out _).mono ?_
      rintro e w4 ⟨rfl, rfl⟩
      go_wp2_with fail
      refine (H5.out _).mono ?_
      rintro e w5 ⟨rfl, rfl⟩
      go_wp2_with fail
      refine (H6.out _).mono ?_
      rintro e w6 ⟨rfl, rfl⟩
      generalize resB s = rb
      cases rb
      all_goals go_wp2
      all_goals go_ret
      all_goals exact ⟨rfl, b1.trans (b3.mono b1.size)⟩
  · skip
    go_enter Try.func3, Try.ntmps3
    go_wp2_with fail
    refine H1.out.mono ?_
    rintro e w1 ⟨rfl, b1⟩
    show _
    unfold symA
    simp only [if_true, if_false, Bool.false_eq_true, reduceIte]
    go_wp2_with fail
    refine (H2.out _).mono ?_
    rintro e w2 ⟨rfl, rfl⟩
    unfold symA
    simp only [if_true, if_false, Bool.false_eq_true, reduceIte]
    go_wp2_with fail
    refine (H3.out _).mono ?_
    rintro e w3 ⟨rfl, b3⟩
    go_wp2_with fail
    refine (H4.out _).mono ?_
    rintro e w4 ⟨rfl, rfl⟩
    go_wp2_with fail
    refine (H5.out _).mono ?_
    rintro e w5 ⟨rfl, rfl⟩
    go_wp2_with fail
    refine (H6.out _).mono ?_
    rintro e w6 ⟨rfl, rfl⟩
    generalize resB s = rb
    cases rb
    all_goals go_wp2
    all_goals go_ret
    all_goals exact ⟨rfl, b1.trans (b3.mono b1.size)⟩


set_option maxRecDepth 100000 in
theorem contract (H : Type) (enc : TypeId × Value → H) (W : World) (base : Nat) (args : Array Value) (ds gs : List (DataW H)) (before : List MemPlace)
    (hval : ∀ (j : Nat) t v, Try.f3.params[j]? = some t → args[j]? = some v → Value.okWide Try.prog W .any base t v)
    (hW : DataW.Whole enc Try.prog Try.f3.params.toList Rows.tokensNamesSpec.vars false W args.toList ds gs before)
    (hsz : (DataW.weightsEach Try.prog (Try.f3.params.toList ++ Rows.tokensNamesSpec.plain.varTypes Try.prog) (ds ++ gs)).all (· ≤ reachBytes) = true) :
    Calls Try.prog 3 args W fun e W' => ∃ v, e = .returned v ∧ Rows.tokensNamesSpec.post enc Try.prog Try.f3 false true false false W args v W' := by
  have hW' := hW
  obtain ⟨p, q, hA0, hV, rfl, hfz, hnd⟩ := hW
  have hA : DataW.TrodAll enc Try.prog W 0 (fun _ => true) true Try.f3.params.toList args.toList ds p := hA0
  rw [Try.params3] at hA hval hsz
  obtain ⟨v0, vs0, d0, ds0, p0, q0, hargs, rfl, rfl, h0, r0⟩ := trodAll_cons hA
  obtain ⟨rfl, rfl, rfl⟩ := trodAll_nil r0
  obtain rfl : args = #[v0] := by cases args; simp_all
  obtain ⟨rfl, rfl⟩ := trodVars_none hV
  obtain ⟨n0, rfl, rfl, rfl, w0⟩ := Go.ChangeMaps.open_string Try.underlying9 (hval 0 9 v0 rfl rfl) h0
  have sz0 : n0.size = n0.data.toList.length := by rw [Array.length_toList]; rfl
  have ss0 := sized_string hsz (j := 0) (t := 9) rfl rfl
  rw [show reachBytes = 140737488351232 from rfl] at ss0
  clear hA0
  simp only [List.append_nil] at hW'
  refine (walk n0 W (by omega)).mono fun e W' ⟨he, bel⟩ => ?_
  subst he
  exact ⟨_, rfl, _, _, _, [], _, [], hW', trodAll_mk1 (shut_bool Try.underlying4 _), (trodAll_cons_mk (Go.ChangeMaps.shut_string Try.underlying9 w0) trodAll_mk0), rfl, bel.frame _, fun h => by cases h⟩

set_option maxRecDepth 100000 in
theorem lifted (os : Os) (started : os.Started) (H : Type) (enc : TypeId × Value → H) :
    ReturnsInHanded {} Try.checked os 3 .any (Rows.tokensNamesSpec.pre6 enc Try.prog Try.f3 Rows.tokensNamesRow.domain false) (Rows.tokensNamesSpec.post enc Try.prog Try.f3 false true false false) := by
  refine returnsInHanded_of_change_sized (C := Try.checked) own started (by kernel_rfl) Try.func3
    (ChangeSpec.witness6 (enc := enc) (C := Try.checked) false ⟨#[], #[.string ByteArray.empty], []⟩ 8 (by kernel_rfl) (by kernel_rfl) (by kernel_rfl) (by kernel_rfl)) ?_
  intro W base args ds gs before hval hW _ hsz _
  exact contract H enc W base args ds gs before hval hW hsz

theorem over : Rows.tokensNamesRow.holds Try.pinned (OpenSpec.ofChange Rows.tokensNamesSpec) :=
  OpenClaim.holds_of_wide 3 Try.f3 rfl rfl rfl rfl rfl rfl rfl ⟨rfl, rfl, rfl, rfl, rfl⟩ rfl rfl rfl rfl rfl (by kernel_rfl) Try.func3 (by kernel_rfl)
    (of_decide_eq_true (by kernel_rfl)) (by unfold Func.isWrapper; first | (rw [if_pos (by decide +kernel)]; kernel_rfl) | (rw [if_neg (by decide +kernel)]; exact ⟨rfl, rfl⟩))
    (fun os started H enc _ => lifted os started H enc)

end Go.Proofs.Ytheoajpbcieppaa.tokensNames
namespace Go.Proofs.Ytheoajpbcieppaa
theorem tokensNames_holds : Rows.TokensNamesSaid := tokensNames.over
#print axioms tokensNames_holds
end Go.Proofs.Ytheoajpbcieppaa
