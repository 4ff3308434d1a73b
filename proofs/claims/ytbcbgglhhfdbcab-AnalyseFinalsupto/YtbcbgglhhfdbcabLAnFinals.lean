/-
  AnalyseFinals.
-/
import Derived.Test.YtbcbgglhhfdbcabAFF
import Derived.Test.YtbcbgglhhfdbcabAFR
import Derived.Test.YtbcbgglhhfdbcabANI
import Derived.Test.YtbcbgglhhfdbcabOpenAN
namespace Go.Proofs.Ytbcbgglhhfdbcab.analyseFinals
open Go.ChangeShapes Go.WideShapes Go.ChangeAt Go.RowKit Go.Proofs.Ytbcbgglhhfdbcab
set_option linter.unusedVariables false
set_option linter.unusedSimpArgs false
set_option maxHeartbeats 16000000 in
set_option maxRecDepth 100000 in
theorem walk (o : CaV) (x : Int) (w : World) (ho : o.ok w) (h1 : -9223372036854775808 ≤ x) (h2 : x ≤ 9223372036854775807) :
    Calls Try.prog 3 #[.agg #[.slice o.a o.C.length o.c, .slice o.ma o.M.length o.mc], .int .i64 x] w fun e w' => e = .returned (.bool true) ∧ Below w.heap.size w w' := by
  have hcn : o.C.length ≤ 1048576 := by have := ho.cn; omega
  have hmn := ho.mn
  have hcap := ho.cap
  have hcl := ho.cl
  have GL := hide' (fun w' => lives_is w')
  have GT := hide' (fun w' (h : CsAt w' o.a o.C o.f) => twin_is o.a o.c o.C o.f w' h hcn)
  have GM := hide' (fun w' (h : MsAt w' o.ma o.M) => marks_is o.ma o.mc o.M w' h (by omega))
  have GF := hide' (fun w' g G gm (h : CsAt w' (some ⟨g, 0, none⟩) o.C (twF o.C G)) (h2 : MsAt w' (some ⟨gm, 0, none⟩) o.M) => final_is (some ⟨g, 0, none⟩) o.C.length o.C (twF o.C G) (some ⟨gm, 0, none⟩) o.M.length o.M x ⟨h1, by assumption⟩ w' h h2 hmn hcl)
  have GR := hide' (fun w' (h : CsAt w' o.a o.C o.f) (h2 : MsAt w' o.ma o.M) => rFin_is o.a o.c o.C o.f o.ma o.mc o.M x ⟨h1, by assumption⟩ w' h h2 hcap hmn hcl)
  have GS := hide' (fun a c l a2 c2 m w h h2 => same_is a c l a2 c2 m w h h2)
  obtain ⟨z, hz⟩ : ∃ z, errF o.C o.M x = z := ⟨_, rfl⟩
  rw [hz] at GF GR
  obtain ⟨An, hAn⟩ : ∃ z, ansF o.C o.M x = z := ⟨_, rfl⟩
  rw [hAn] at GF GR
  clear hz hAn
  have hBw := below_alloc (w := w) (.cells #[.slice o.a o.C.length o.c, .slice o.ma o.M.length o.mc] 25)
  have nA := heap_alloc_new w (.cells #[.slice o.a o.C.length o.c, .slice o.ma o.M.length o.mc] 25)
  have hCs := ho.cs.later hBw
  have hMs := ho.ms.later hBw
  obtain ⟨wA, hwA⟩ : ∃ wA, w.alloc (.cells #[.slice o.a o.C.length o.c, .slice o.ma o.M.length o.mc] 25) = wA := ⟨_, rfl⟩
  rw [hwA] at hBw nA hCs hMs
  have x0 := cell_of_row wA w.heap.size 0 _ _ _ nA
  have x1 := cell_of_row wA w.heap.size 1 _ _ _ nA
  simp only [List.getElem?_toArray, List.getElem?_cons_zero, List.getElem?_cons_succ] at x0 x1
  clear nA ho hcn hmn hcap hcl
  go_enter Try.func3, Try.ntmps3
  go_wp2_with fail
  try rw [hwA]
  clear hwA
  have bD : Below wA.heap.size wA wA.drew := (Below.refl _ _).drew
  have kx0 := below_cell bD x0
  have kx1 := below_cell bD x1
  replace hBw := hBw.trans (bD.mono hBw.size)
  replace hCs := hCs.later bD
  replace hMs := hMs.later bD
  refine wp_region_held_drew (S := fun w' => w'.cell? ⟨w.heap.size, 0, none⟩ = some (.slice o.a o.C.length o.c) ∧ w'.cell? ⟨w.heap.size, 1, none⟩ = some (.slice o.ma o.M.length o.mc)) (by kernel_rfl) ⟨kx0, kx1⟩ (fun hHeld => ?_)
  clear kx0 kx1
  generalize wA.drew = u0 at bD hCs hMs hBw hHeld ⊢
  clear bD x0 x1
  refine take' 0 (v := ?_) rfl (by kernel_rfl) (by kernel_rfl) (by kernel_rfl) (fun _ _ _ h => h) (Or.inl ⟨by rfl, ?_⟩) (by assumption) ?_
  rotate_left
  · intro w9 hSw
    go_simp
    first | done | with_reducible rfl
  simp only [Act.put, List.setIfInBounds_toArray, List.set_cons_zero, List.set_cons_succ]
  refine take' 1 (v := ?_) rfl (by kernel_rfl) (by kernel_rfl) (by kernel_rfl) (fun _ _ _ h => h) (Or.inl ⟨by rfl, ?_⟩) (by assumption) ?_
  rotate_left
  · intro w9 hSw
    go_simp
    first | done | with_reducible rfl
  simp only [Act.put, List.setIfInBounds_toArray, List.set_cons_zero, List.set_cons_succ]
  refine take' 3 (v := ?_) rfl (by kernel_rfl) (by kernel_rfl) (by kernel_rfl) (fun _ _ _ h => h) (Or.inl ⟨by rfl, ?_⟩) (by assumption) ?_
  rotate_left
  · intro w9 hSw
    go_simp
    first | done | with_reducible rfl
  simp only [Act.put, List.setIfInBounds_toArray, List.set_cons_zero, List.set_cons_succ]
  refine take' 4 (v := ?_) rfl (by kernel_rfl) (by kernel_rfl) (by kernel_rfl) (fun _ _ _ h => h) (Or.inl ⟨by rfl, ?_⟩) (by assumption) ?_
  rotate_left
  · intro w9 hSw
    go_simp
    first | done | with_reducible rfl
  simp only [Act.put, List.setIfInBounds_toArray, List.set_cons_zero, List.set_cons_succ]
  refine take' 6 (v := ?_) rfl (by kernel_rfl) (by kernel_rfl) (by kernel_rfl) (fun _ _ _ h => h) (Or.inl ⟨by rfl, ?_⟩) (by assumption) ?_
  rotate_left
  · intro w9 hSw
    go_simp
    first | done | with_reducible rfl
  simp only [Act.put, List.setIfInBounds_toArray, List.set_cons_zero, List.set_cons_succ]
  refine wpAnyH_ready (rs := [2]) (by kernel_rfl) (by simp) ?_
  refine cons' rfl (fun KK hKK => ?_)
  go_simp
  refine (GT.out _ hCs).mono ?_
  rintro e u1 ⟨g, rfl, ⟨G, hC2⟩, b1⟩
  have bC := b1
  replace hBw := hBw.trans (bC.mono hBw.size)
  replace hCs := hCs.later bC
  replace hMs := hMs.later bC
  replace hHeld := (⟨below_cell bC hHeld.1, below_cell bC hHeld.2⟩ : _ ∧ _)
  clear bC
  go_wp2_with fail
  clear b1 GT
  refine hKK.out _ _ hHeld ?_
  clear hHeld
  intro hHeld
  clear hKK KK
  try simp only [Act.put, List.setIfInBounds_toArray, List.set_cons_zero, List.set_cons_succ]
  refine wpAnyH_ready (rs := [5]) (by kernel_rfl) (by simp) ?_
  refine cons' rfl (fun KK hKK => ?_)
  go_simp
  refine (GM.out _ hMs).mono ?_
  rintro e u2 ⟨gm, rfl, hM2, b2⟩
  have bC := b2
  replace hBw := hBw.trans (bC.mono hBw.size)
  replace hCs := hCs.later bC
  replace hMs := hMs.later bC
  replace hC2 := hC2.later bC
  replace hHeld := (⟨below_cell bC hHeld.1, below_cell bC hHeld.2⟩ : _ ∧ _)
  clear bC
  go_wp2_with fail
  clear b2 GM
  refine hKK.out _ _ hHeld ?_
  clear hHeld
  intro hHeld
  clear hKK KK
  try simp only [Act.put, List.setIfInBounds_toArray, List.set_cons_zero, List.set_cons_succ]
  refine wpAnyH_ready (rs := [7]) (by kernel_rfl) (by simp) ?_
  refine cons' rfl (fun KK hKK => ?_)
  go_simp
  refine (GF.out _ g G gm hC2 hM2).mono ?_
  rintro e u3 ⟨a1, c1, rfl, hX1, b3⟩
  have bC := b3
  replace hBw := hBw.trans (bC.mono hBw.size)
  replace hCs := hCs.later bC
  replace hMs := hMs.later bC
  replace hC2 := hC2.later bC
  replace hM2 := hM2.later bC
  replace hHeld := (⟨below_cell bC hHeld.1, below_cell bC hHeld.2⟩ : _ ∧ _)
  clear bC
  go_wp2_with fail
  clear b3 GF hC2 hM2
  refine hKK.out _ _ hHeld ?_
  clear hHeld
  intro hHeld
  clear hKK KK
  try simp only [Act.put, List.setIfInBounds_toArray, List.set_cons_zero, List.set_cons_succ]
  refine take' 8 (v := ?_) rfl (by kernel_rfl) (by kernel_rfl) (by kernel_rfl) (fun _ _ _ h => h) (Or.inl ⟨by rfl, ?_⟩) (by assumption) ?_
  rotate_left
  · intro w9 hSw
    go_simp
    first | done | with_reducible rfl
  simp only [Act.put, List.setIfInBounds_toArray, List.set_cons_zero, List.set_cons_succ]
  refine take' 9 (v := ?_) rfl (by kernel_rfl) (by kernel_rfl) (by kernel_rfl) (fun _ _ _ h => h) (Or.inl ⟨by rfl, ?_⟩) (by assumption) ?_
  rotate_left
  · intro w9 hSw
    go_simp
    first | done | with_reducible rfl
  simp only [Act.put, List.setIfInBounds_toArray, List.set_cons_zero, List.set_cons_succ]
  refine take' 10 (v := ?_) rfl (by kernel_rfl) (by kernel_rfl) (by kernel_rfl) (fun _ _ _ h => h) (Or.inl ⟨by rfl, ?_⟩) (by assumption) ?_
  rotate_left
  · intro w9 hSw
    go_simp
    first | done | with_reducible rfl
  simp only [Act.put, List.setIfInBounds_toArray, List.set_cons_zero, List.set_cons_succ]
  refine take' 11 (v := ?_) rfl (by kernel_rfl) (by kernel_rfl) (by kernel_rfl) (fun _ _ _ h => h) (Or.inl ⟨by rfl, ?_⟩) (by assumption) ?_
  rotate_left
  · intro w9 hSw
    go_simp
    first | done | with_reducible rfl
  simp only [Act.put, List.setIfInBounds_toArray, List.set_cons_zero, List.set_cons_succ]
  refine take' 12 (v := ?_) rfl (by kernel_rfl) (by kernel_rfl) (by kernel_rfl) (fun _ _ _ h => h) (Or.inl ⟨by rfl, ?_⟩) (by assumption) ?_
  rotate_left
  · intro w9 hSw
    go_simp
    first | done | with_reducible rfl
  simp only [Act.put, List.setIfInBounds_toArray, List.set_cons_zero, List.set_cons_succ]
  refine wpAnyH_done (by kernel_rfl) ?_ _
  obtain ⟨x0, x1⟩ := hHeld
  go_wp2_with fail
  refine (GR.out _ hCs hMs).mono ?_
  rintro e u4 ⟨a2, c2, rfl, hX2, b4⟩
  replace hX1 := hX1.later b4
  replace hBw := hBw.trans (b4.mono hBw.size)
  clear GR hCs hMs x0 x1 b4
  go_wp2_with fail
  refine (GL.out _).mono ?_
  rintro e u5 ⟨rfl, b5⟩
  replace hX1 := hX1.later b5
  replace hX2 := hX2.later b5
  replace hBw := hBw.trans (b5.mono hBw.size)
  clear b5 GL
  go_wp2_with fail
  refine (GS.out a1 c1 An a2 c2 An _ hX1 hX2).mono ?_
  rintro e u6 ⟨rfl, b6⟩
  have es : sameL An An = true := by unfold sameL; simp
  replace hBw := hBw.trans (b6.mono hBw.size)
  rw [es]
  clear b6 GS hX1 hX2 es
  go_wp2
  go_ret
  exact ⟨rfl, hBw⟩
set_option maxRecDepth 100000 in
theorem contract (H : Type) (enc : TypeId × Value → H) (W : World) (base : Nat) (args : Array Value) (ds gs : List (DataW H)) (before : List MemPlace)
    (hval : ∀ (j : Nat) t v, Try.f3.params[j]? = some t → args[j]? = some v → Value.okWide Try.prog W .any base t v)
    (hW : DataW.Whole enc Try.prog Try.f3.params.toList Rows.analyseFinalsSpec.vars false W args.toList ds gs before)
    (hsz : (DataW.weightsEach Try.prog (Try.f3.params.toList ++ Rows.analyseFinalsSpec.plain.varTypes Try.prog) (ds ++ gs)).all (· ≤ reachBytes) = true) (hk : Rows.uptoSmall H (ds ++ gs) = true) :
    Calls Try.prog 3 args W fun e W' => ∃ v, e = .returned v ∧ Rows.analyseFinalsSpec.post enc Try.prog Try.f3 false true false false W args v W' := by
  have hW' := hW
  obtain ⟨p, q, hA0, hV, rfl, hfz, hnd⟩ := hW
  have hA : DataW.TrodAll enc Try.prog W 0 (fun _ => true) true Try.f3.params.toList args.toList ds p := hA0
  rw [Try.params3] at hA hval hsz
  obtain ⟨v0, vs0, d0, ds0, p0, q0, hargs, rfl, rfl, h0, r0⟩ := trodAll_cons hA
  obtain ⟨v1, vs1, d1, ds1, p1, q1, rfl, rfl, rfl, h1, r1⟩ := trodAll_cons r0
  obtain ⟨rfl, rfl, rfl⟩ := trodAll_nil r1
  obtain rfl : args = #[v0, v1] := by cases args; simp_all
  obtain ⟨rfl, rfl⟩ := trodVars_none hV
  have lt0 : ∀ x ∈ p0, x.block < W.heap.size := by obtain ⟨m, hm⟩ := h0; exact DataW.trod_lt m _ _ _ hm
  have hbk0 : Rows.uptoBulk d0 ≤ 1048576 := by have hb9 := of_decide_eq_true hk; simp only [List.append_nil, Rows.uptoBulkAll] at hb9; omega
  obtain ⟨cv0, rfl, hcv0⟩ := open_Case (hval 0 25 v0 rfl rfl) h0 hbk0
  obtain ⟨z1, rfl, rfl, rfl, w1⟩ := open_int Try.underlying3 (hval 1 3 v1 rfl rfl) h1
  have bz1 := bounds_i64 w1
  clear hA0
  have hbulk := of_decide_eq_true hk
  simp only [List.append_nil, Rows.uptoBulkAll] at hbulk
  simp only [List.append_nil] at hW'
  refine (walk cv0 z1 W hcv0 (by omega) (by omega)).mono fun e W' ⟨he, bel⟩ => ?_
  subst he
  exact ⟨_, rfl, _, _, _, [], _, [], hW', trodAll_mk1 (shut_bool Try.underlying4 _), (trodAll_cons_mk (Below.trod laidOut (by kernel_rfl) (of_decide_eq_true (by kernel_rfl)) h0 bel lt0) (trodAll_cons_mk (shut_int Try.underlying3 w1) trodAll_mk0)), rfl, bel.frame _, fun h => by cases h⟩

set_option maxRecDepth 100000 in
theorem lifted (os : Os) (started : os.Started) (H : Type) (enc : TypeId × Value → H) (F : Stop.Interp) :
    ReturnsInHanded {} Try.checked os 3 .any ((Rows.OpenSpec.upto Rows.analyseFinalsSpec).pre6 enc Try.prog Try.f3 Rows.analyseFinalsUptoRow.domain false) (((Rows.OpenSpec.upto Rows.analyseFinalsSpec).at F).post enc Try.prog Try.f3 false true false false) := by
  refine returnsInHanded_of_cond_sized (C := Try.checked) (s := Rows.OpenSpec.upto Rows.analyseFinalsSpec) (k := Rows.uptoSmall) rfl own started (by kernel_rfl) Try.func3
    (OpenSpec.witness (enc := enc) (C := Try.checked) (s := Rows.OpenSpec.upto Rows.analyseFinalsSpec) (k := Rows.uptoSmall) rfl false ⟨#[], #[.agg #[.slice none 0 0, .slice none 0 0], .int .i64 0], []⟩ 8 (by kernel_rfl) (by kernel_rfl) (by kernel_rfl)
      (x := ([.agg [.nil, .nil], .lit (.int .i64 0)], [], [])) (by kernel_rfl) rfl (by kernel_rfl)) ?_
  intro W base args ds gs before hval hW _ hk hsz _
  exact contract H enc W base args ds gs before hval hW hsz hk

theorem over : Rows.analyseFinalsUptoRow.holds Try.pinned (Rows.OpenSpec.upto Rows.analyseFinalsSpec) :=
  OpenClaim.holds_of_cond 3 Try.f3 rfl rfl rfl rfl rfl rfl rfl ⟨rfl, rfl, rfl, rfl, rfl⟩ rfl rfl rfl rfl rfl (by kernel_rfl) Try.func3 (by kernel_rfl)
    (of_decide_eq_true (by kernel_rfl)) (by unfold Func.isWrapper; first | (rw [if_pos (by decide +kernel)]; kernel_rfl) | (rw [if_neg (by decide +kernel)]; exact ⟨rfl, rfl⟩))
    (fun os started H enc _ F => lifted os started H enc F)

end Go.Proofs.Ytbcbgglhhfdbcab.analyseFinals
namespace Go.Proofs.Ytbcbgglhhfdbcab
theorem analyseFinals_holds : Rows.AnalyseFinalsUptoSaid := analyseFinals.over
#print axioms analyseFinals_holds
end Go.Proofs.Ytbcbgglhhfdbcab
