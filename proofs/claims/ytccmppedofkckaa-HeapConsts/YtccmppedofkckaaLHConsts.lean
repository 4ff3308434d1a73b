/-
  HeapConsts.
-/
import Derived.Test.YtccmppedofkckaaHP8
import Derived.Test.YtccmppedofkckaaTKO
namespace Go.Proofs.Ytccmppedofkckaa.heapConsts
open Go.ChangeShapes Go.WideShapes Go.ChangeAt Go.RowKit Go.Proofs.Ytccmppedofkckaa
set_option linter.unusedVariables false
set_option linter.unusedSimpArgs false
set_option maxHeartbeats 2000000 in
set_option maxRecDepth 100000 in
theorem walk_neg (V : Int) (h0 : V < 0) (w : World) :
    Calls Try.prog 3 #[.int .i64 V] w fun e w' => e = .returned (.bool true) ∧ Below w.heap.size w w' := by
  have G1 := hide' (lives_is w)
  have G2 := hide' (fun w' => New_neg V h0 w')
  have G3 := hide' (fun w' => rNew_neg V h0 w')
  have hsf := store_float
  clear h0
  go_enter Try.func3, Try.ntmps3
  go_wp2_with fail
  refine G1.out.mono ?_
  rintro e w1 ⟨rfl, b1⟩
  go_wp2_with fail
  refine (G2.out _).mono ?_
  rintro e w2 ⟨rfl, rfl⟩
  clear G1 G2
  go_wp2_with fail
  refine (G3.out _).mono ?_
  rintro e w3 ⟨b3, a1, n1, e1, a2, n2, e2, f, rfl⟩
  have B := hide' (show ∀ o, Below w.heap.size w (w3.alloc o) from fun o => (b1.trans (b3.mono b1.size)).alloc (Nat.le_trans b1.size b3.size) o)
  clear b1 b3 G3
  go_wp2
  go_ret
  exact ⟨rfl, B.out _⟩
set_option maxHeartbeats 2000000 in
set_option maxRecDepth 100000 in
theorem walk_full (V : Int) (h0 : ¬ V < 0) (h1 : V > 1048576) (w : World) :
    Calls Try.prog 3 #[.int .i64 V] w fun e w' => e = .returned (.bool true) ∧ Below w.heap.size w w' := by
  have G1 := hide' (lives_is w)
  have G2 := hide' (fun w' => New_full V h0 h1 w')
  have G3 := hide' (fun w' => rNew_full V h0 h1 w')
  have hsf := store_float
  clear h0 h1
  go_enter Try.func3, Try.ntmps3
  go_wp2_with fail
  refine G1.out.mono ?_
  rintro e w1 ⟨rfl, b1⟩
  go_wp2_with fail
  refine (G2.out _).mono ?_
  rintro e w2 ⟨rfl, rfl⟩
  clear G1 G2
  go_wp2_with fail
  refine (G3.out _).mono ?_
  rintro e w3 ⟨b3, a1, n1, e1, a2, n2, e2, f, rfl⟩
  have B := hide' (show ∀ o, Below w.heap.size w (w3.alloc o) from fun o => (b1.trans (b3.mono b1.size)).alloc (Nat.le_trans b1.size b3.size) o)
  clear b1 b3 G3
  go_wp2
  go_ret
  exact ⟨rfl, B.out _⟩
set_option maxHeartbeats 2000000 in
set_option maxRecDepth 100000 in
theorem walk_ok (V : Int) (h0 : 0 ≤ V) (h1 : V ≤ 1048576) (w : World) :
    Calls Try.prog 3 #[.int .i64 V] w fun e w' => e = .returned (.bool true) ∧ Below w.heap.size w w' := by
  have G1 := hide' (lives_is w)
  have G2 := hide' (fun w' => New_is V h0 h1 w')
  have G3 := hide' (fun w' => rNew_ok V h0 h1 w')
  have hsf := store_float
  obtain ⟨n, rfl⟩ := Int.eq_ofNat_of_zero_le h0
  rw [Int.toNat_natCast] at G2
  clear h0 h1
  go_enter Try.func3, Try.ntmps3
  go_wp2_with fail
  refine G1.out.mono ?_
  rintro e w1 ⟨rfl, b1⟩
  go_wp2_with fail
  refine (G2.out _).mono ?_
  rintro e w2 ⟨b, s, p, rfl, hN⟩
  have b2 := b1.trans (hN.bel.mono b1.size)
  have c0 := hN.c0
  have c1 := hN.c1
  clear hN
  clear G1 G2
  go_wp2_with fail
  refine (G3.out _).mono ?_
  rintro e w3 ⟨b3, a1, n1, e1, a2, n2, e2, f, rfl⟩
  have c0 := below_at b3 (World.block_lt_of_cell? _ _ c0) c0
  have c1 := below_at b3 (World.block_lt_of_cell? _ _ c1) c1
  have B := hide' (show ∀ o, Below w.heap.size w (w3.alloc o) from fun o => (b2.trans (b3.mono b2.size)).alloc (Nat.le_trans b2.size b3.size) o)
  have G4 := hide' (fun w' h => Size_is b (some ⟨s, 0, none⟩) n n w' h)
  have G5 := hide' (fun w' h => Len_is b none 0 0 w' h)
  have hc0 : ∀ o, (w3.alloc o).cell? ⟨b, 0, none⟩ = some (.slice (some ⟨s, 0, none⟩) n n) := fun o => Lib.cell?_alloc_some _ c0
  have hc1 : ∀ o, (w3.alloc o).cell? ⟨b, 1, none⟩ = some (.slice none 0 0) := fun o => Lib.cell?_alloc_some _ c1
  clear b1 b2 b3 G3 c0 c1
  go_wp2_with fail
  refine (G4.out _ (hc0 _)).mono ?_
  rintro e w4 ⟨rfl, rfl⟩
  go_wp2_with fail
  refine (G5.out _ (hc1 _)).mono ?_
  rintro e w4 ⟨rfl, rfl⟩
  go_wp2
  go_ret
  exact ⟨rfl, B.out _⟩
set_option maxHeartbeats 2000000 in
set_option maxRecDepth 100000 in
theorem walk (V : Int) (w : World) (h2 : -9223372036854775808 ≤ V) (h3 : V ≤ 9223372036854775807) :
    Calls Try.prog 3 #[.int .i64 V] w fun e w' => e = .returned (.bool true) ∧ Below w.heap.size w w' := by
  by_cases h0 : V < 0
  · exact walk_neg V h0 w
  by_cases h1 : V > 1048576
  · exact walk_full V h0 h1 w
  exact walk_ok V (by omega) (by omega) w
set_option maxRecDepth 100000 in
theorem contract (H : Type) (enc : TypeId × Value → H) (W : World) (base : Nat) (args : Array Value) (ds gs : List (DataW H)) (before : List MemPlace)
    (hval : ∀ (j : Nat) t v, Try.f3.params[j]? = some t → args[j]? = some v → Value.okWide Try.prog W .any base t v)
    (hW : DataW.Whole enc Try.prog Try.f3.params.toList Rows.heapConstsSpec.vars false W args.toList ds gs before)
    (hsz : (DataW.weightsEach Try.prog (Try.f3.params.toList ++ Rows.heapConstsSpec.plain.varTypes Try.prog) (ds ++ gs)).all (· ≤ reachBytes) = true) :
    Calls Try.prog 3 args W fun e W' => ∃ v, e = .returned v ∧ Rows.heapConstsSpec.post enc Try.prog Try.f3 false true false false W args v W' := by
  have hW' := hW
  obtain ⟨p, q, hA0, hV, rfl, hfz, hnd⟩ := hW
  have hA : DataW.TrodAll enc Try.prog W 0 (fun _ => true) true Try.f3.params.toList args.toList ds p := hA0
  rw [Try.params3] at hA hval hsz
  obtain ⟨v0, vs0, d0, ds0, p0, q0, hargs, rfl, rfl, h0, r0⟩ := trodAll_cons hA
  obtain ⟨rfl, rfl, rfl⟩ := trodAll_nil r0
  obtain rfl : args = #[v0] := by cases args; simp_all
  obtain ⟨rfl, rfl⟩ := trodVars_none hV
  obtain ⟨z0, rfl, rfl, rfl, w0⟩ := open_int Try.underlying3 (hval 0 3 v0 rfl rfl) h0
  have bz0 := bounds_i64 w0
  clear hA0
  simp only [List.append_nil] at hW'
  refine (walk z0 W (by omega) (by omega)).mono fun e W' ⟨he, bel⟩ => ?_
  subst he
  exact ⟨_, rfl, _, _, _, [], _, [], hW', trodAll_mk1 (shut_bool Try.underlying4 _), (trodAll_cons_mk (shut_int Try.underlying3 w0) trodAll_mk0), rfl, bel.frame _, fun h => by cases h⟩

set_option maxRecDepth 100000 in
theorem lifted (os : Os) (started : os.Started) (H : Type) (enc : TypeId × Value → H) :
    ReturnsInHanded {} Try.checked os 3 .any (Rows.heapConstsSpec.pre6 enc Try.prog Try.f3 Rows.heapConstsRow.domain false) (Rows.heapConstsSpec.post enc Try.prog Try.f3 false true false false) := by
  refine returnsInHanded_of_change_sized (C := Try.checked) own started (by kernel_rfl) Try.func3
    (ChangeSpec.witness6 (enc := enc) (C := Try.checked) false ⟨#[], #[.int .i64 0], []⟩ 8 (by kernel_rfl) (by kernel_rfl) (by kernel_rfl) (by kernel_rfl)) ?_
  intro W base args ds gs before hval hW _ hsz _
  exact contract H enc W base args ds gs before hval hW hsz

theorem over : Rows.heapConstsRow.holds Try.pinned (OpenSpec.ofChange Rows.heapConstsSpec) :=
  OpenClaim.holds_of_wide 3 Try.f3 rfl rfl rfl rfl rfl rfl rfl ⟨rfl, rfl, rfl, rfl, rfl⟩ rfl rfl rfl rfl rfl (by kernel_rfl) Try.func3 (by kernel_rfl)
    (of_decide_eq_true (by kernel_rfl)) (by unfold Func.isWrapper; first | (rw [if_pos (by decide +kernel)]; kernel_rfl) | (rw [if_neg (by decide +kernel)]; exact ⟨rfl, rfl⟩))
    (fun os started H enc _ => lifted os started H enc)

end Go.Proofs.Ytccmppedofkckaa.heapConsts
namespace Go.Proofs.Ytccmppedofkckaa
theorem heapConsts_holds : Rows.HeapConstsSaid := heapConsts.over
#print axioms heapConsts_holds
end Go.Proofs.Ytccmppedofkckaa
