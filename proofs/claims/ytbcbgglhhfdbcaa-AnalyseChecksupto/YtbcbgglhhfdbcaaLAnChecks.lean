/-
  AnalyseChecks.
-/
import Derived.Test.YtbcbgglhhfdbcaaANJ
import Derived.Test.YtbcbgglhhfdbcaaAN3
import Derived.Test.YtbcbgglhhfdbcaaOpenAN
namespace Go.Proofs.Ytbcbgglhhfdbcaa.analyseChecks
open Go.ChangeShapes Go.WideShapes Go.ChangeAt Go.RowKit Go.Proofs.Ytbcbgglhhfdbcaa
set_option linter.unusedVariables false
set_option linter.unusedSimpArgs false
set_option maxHeartbeats 16000000 in
set_option maxRecDepth 100000 in
theorem walk (o : CaV) (w : World) (ho : o.ok w) :
    Calls Try.prog 4 #[.agg #[.slice o.a o.C.length o.c, .slice o.ma o.M.length o.mc]] w fun e w' => e = .returned (.bool true) ∧ Below w.heap.size w w' := by
  have hcn : o.C.length ≤ 1048576 := by have := ho.cn; omega
  have hmn := ho.mn
  have hcap := ho.cap
  have GL := hide' (fun w' => lives_is w')
  have GT := hide' (fun w' (h : CsAt w' o.a o.C o.f) => twin_is o.a o.c o.C o.f w' h hcn)
  have GM := hide' (fun w' (h : MsAt w' o.ma o.M) => marks_is o.ma o.mc o.M w' h (by omega))
  have GC := hide' (fun w' g G gm (h : CsAt w' (some ⟨g, 0, none⟩) o.C (twF o.C G)) (h2 : MsAt w' (some ⟨gm, 0, none⟩) o.M) => check_is (some ⟨g, 0, none⟩) o.C.length o.C (twF o.C G) (some ⟨gm, 0, none⟩) o.M.length o.M w' h h2 hmn)
  have GR := hide' (fun w' (h : CsAt w' o.a o.C o.f) (h2 : MsAt w' o.ma o.M) => rChk_is o.a o.c o.C o.f o.ma o.mc o.M w' h h2 hcap)
  obtain ⟨z, hz⟩ : ∃ z, ckz o.C o.M = z := ⟨_, rfl⟩
  rw [hz] at GC GR
  clear hz
  have hBw := below_alloc (w := w) (.cells #[.slice o.a o.C.length o.c, .slice o.ma o.M.length o.mc] 26)
  have nA := heap_alloc_new w (.cells #[.slice o.a o.C.length o.c, .slice o.ma o.M.length o.mc] 26)
  have hCs := ho.cs.later hBw
  have hMs := ho.ms.later hBw
  obtain ⟨wA, hwA⟩ : ∃ wA, w.alloc (.cells #[.slice o.a o.C.length o.c, .slice o.ma o.M.length o.mc] 26) = wA := ⟨_, rfl⟩
  rw [hwA] at hBw nA hCs hMs
  have x0 := cell_of_row wA w.heap.size 0 _ _ _ nA
  have x1 := cell_of_row wA w.heap.size 1 _ _ _ nA
  simp only [List.getElem?_toArray, List.getElem?_cons_zero, List.getElem?_cons_succ] at x0 x1
  clear nA ho hcn hmn hcap
  go_enter Try.func4, Try.ntmps4
  go_wp2_with fail
  try rw [hwA]
  clear hwA
  have bD : Below wA.heap.size wA wA.drew := (Below.refl _ _).drew
  have kx0 := below_cell bD x0
  have kx1 := below_cell bD x1
  replace hBw := hBw.trans (bD.mono hBw.size)
  replace hCs := hCs.later bD
  replace hMs := hMs.later bD
  refine wp_region_held_drew (S := fun w' => w'.cell? ⟨w.heap.size, 0, none⟩ = some (.slice o.a o.C.length o.c) ∧ w'.cell? ⟨w.heap.size, 1, none⟩ = some (.slice o.ma o.M.length o.mc)) (by kernel_rfl) ⟨kx0, kx1⟩ (fun hHeld => ?_)
  clear kx0 kx1
  generalize wA.drew = u0 at bD hCs hMs hBw hHeld ⊢
  clear bD x0 x1
  refine wpAnyH_ready (rs := [0]) (by kernel_rfl) (by simp) ?_
  refine cons' rfl (fun KK hKK => ?_)
  go_simp
  refine (GL.out _).mono ?_
  rintro e u1 ⟨rfl, b1⟩
  have bC := b1
  replace hBw := hBw.trans (bC.mono hBw.size)
  replace hCs := hCs.later bC
  replace hMs := hMs.later bC
  replace hHeld := (⟨below_cell bC hHeld.1, below_cell bC hHeld.2⟩ : _ ∧ _)
  clear bC
  go_wp2_with fail
  clear b1 GL
  refine hKK.out _ _ hHeld ?_
  clear hHeld
  intro hHeld
  clear hKK KK
  try simp only [Act.put, List.setIfInBounds_toArray, List.set_cons_zero, List.set_cons_succ]
  refine take' 1 (v := ?_) rfl (by kernel_rfl) (by kernel_rfl) (by kernel_rfl) (fun _ _ _ h => h) (Or.inl ⟨by rfl, ?_⟩) (by assumption) ?_
  rotate_left
  · intro w9 hSw
    go_simp
    first | done | with_reducible rfl
  simp only [Act.put, List.setIfInBounds_toArray, List.set_cons_zero, List.set_cons_succ]
  refine take' 2 (v := ?_) rfl (by kernel_rfl) (by kernel_rfl) (by kernel_rfl) (fun _ _ _ h => h) (Or.inl ⟨by rfl, ?_⟩) (by assumption) ?_
  rotate_left
  · intro w9 hSw
    go_simp
    first | done | with_reducible rfl
  simp only [Act.put, List.setIfInBounds_toArray, List.set_cons_zero, List.set_cons_succ]
  refine take' 3 (v := ?_) rfl (by kernel_rfl) (by kernel_rfl) (by kernel_rfl) (fun _ _ _ h => h) (Or.inl ⟨by rfl, ?_⟩) (by assumption) ?_
  rotate_left
  · intro w9 hSw
    go_simp
    first | done | with_reducible rfl
  simp only [Act.put, List.setIfInBounds_toArray, List.set_cons_zero, List.set_cons_succ]
  refine take' 5 (v := ?_) rfl (by kernel_rfl) (by kernel_rfl) (by kernel_rfl) (fun _ _ _ h => h) (Or.inl ⟨by rfl, ?_⟩) (by assumption) ?_
  rotate_left
  · intro w9 hSw
    go_simp
    first | done | with_reducible rfl
  simp only [Act.put, List.setIfInBounds_toArray, List.set_cons_zero, List.set_cons_succ]
  refine take' 6 (v := ?_) rfl (by kernel_rfl) (by kernel_rfl) (by kernel_rfl) (fun _ _ _ h => h) (Or.inl ⟨by rfl, ?_⟩) (by assumption) ?_
  rotate_left
  · intro w9 hSw
    go_simp
    first | done | with_reducible rfl
  simp only [Act.put, List.setIfInBounds_toArray, List.set_cons_zero, List.set_cons_succ]
  refine take' 9 (v := ?_) rfl (by kernel_rfl) (by kernel_rfl) (by kernel_rfl) (fun _ _ _ h => h) (Or.inl ⟨by rfl, ?_⟩) (by assumption) ?_
  rotate_left
  · intro w9 hSw
    go_simp
    first | done | with_reducible rfl
  simp only [Act.put, List.setIfInBounds_toArray, List.set_cons_zero, List.set_cons_succ]
  refine take' 10 (v := ?_) rfl (by kernel_rfl) (by kernel_rfl) (by kernel_rfl) (fun _ _ _ h => h) (Or.inl ⟨by rfl, ?_⟩) (by assumption) ?_
  rotate_left
  · intro w9 hSw
    go_simp
    first | done | with_reducible rfl
  simp only [Act.put, List.setIfInBounds_toArray, List.set_cons_zero, List.set_cons_succ]
  refine take' 11 (v := ?_) rfl (by kernel_rfl) (by kernel_rfl) (by kernel_rfl) (fun _ _ _ h => h) (Or.inl ⟨by rfl, ?_⟩) (by assumption) ?_
  rotate_left
  · intro w9 hSw
    go_simp
    first | done | with_reducible rfl
  simp only [Act.put, List.setIfInBounds_toArray, List.set_cons_zero, List.set_cons_succ]
  refine take' 12 (v := ?_) rfl (by kernel_rfl) (by kernel_rfl) (by kernel_rfl) (fun _ _ _ h => h) (Or.inl ⟨by rfl, ?_⟩) (by assumption) ?_
  rotate_left
  · intro w9 hSw
    go_simp
    first | done | with_reducible rfl
  simp only [Act.put, List.setIfInBounds_toArray, List.set_cons_zero, List.set_cons_succ]
  refine wpAnyH_ready (rs := [4]) (by kernel_rfl) (by simp) ?_
  refine cons' rfl (fun KK hKK => ?_)
  go_simp
  refine (GT.out _ hCs).mono ?_
  rintro e u2 ⟨g, rfl, ⟨G, hC2⟩, b2⟩
  have bC := b2
  replace hBw := hBw.trans (bC.mono hBw.size)
  replace hCs := hCs.later bC
  replace hMs := hMs.later bC
  replace hHeld := (⟨below_cell bC hHeld.1, below_cell bC hHeld.2⟩ : _ ∧ _)
  clear bC
  go_wp2_with fail
  clear b2 GT
  refine hKK.out _ _ hHeld ?_
  clear hHeld
  intro hHeld
  clear hKK KK
  try simp only [Act.put, List.setIfInBounds_toArray, List.set_cons_zero, List.set_cons_succ]
  refine wpAnyH_ready (rs := [7]) (by kernel_rfl) (by simp) ?_
  refine cons' rfl (fun KK hKK => ?_)
  go_simp
  refine (GM.out _ hMs).mono ?_
  rintro e u3 ⟨gm, rfl, hM2, b3⟩
  have bC := b3
  replace hBw := hBw.trans (bC.mono hBw.size)
  replace hCs := hCs.later bC
  replace hMs := hMs.later bC
  replace hC2 := hC2.later bC
  replace hHeld := (⟨below_cell bC hHeld.1, below_cell bC hHeld.2⟩ : _ ∧ _)
  clear bC
  go_wp2_with fail
  clear b3 GM
  refine hKK.out _ _ hHeld ?_
  clear hHeld
  intro hHeld
  clear hKK KK
  try simp only [Act.put, List.setIfInBounds_toArray, List.set_cons_zero, List.set_cons_succ]
  refine wpAnyH_ready (rs := [8]) (by kernel_rfl) (by simp) ?_
  refine cons' rfl (fun KK hKK => ?_)
  go_simp
  refine (GC.out _ g G gm hC2 hM2).mono ?_
  rintro e u4 ⟨rfl, b4⟩
  have bC := b4
  replace hBw := hBw.trans (bC.mono hBw.size)
  replace hCs := hCs.later bC
  replace hMs := hMs.later bC
  replace hC2 := hC2.later bC
  replace hM2 := hM2.later bC
  replace hHeld := (⟨below_cell bC hHeld.1, below_cell bC hHeld.2⟩ : _ ∧ _)
  clear bC
  go_wp2_with fail
  clear b4 GC hC2 hM2
  refine hKK.out _ _ hHeld ?_
  clear hHeld
  intro hHeld
  clear hKK KK
  try simp only [Act.put, List.setIfInBounds_toArray, List.set_cons_zero, List.set_cons_succ]
  refine wpAnyH_ready (rs := [13]) (by kernel_rfl) (by simp) ?_
  refine cons' rfl (fun KK hKK => ?_)
  go_simp
  refine (GR.out _ hCs hMs).mono ?_
  rintro e u5 ⟨rfl, b5⟩
  have bC := b5
  replace hBw := hBw.trans (bC.mono hBw.size)
  replace hCs := hCs.later bC
  replace hMs := hMs.later bC
  replace hHeld := (⟨below_cell bC hHeld.1, below_cell bC hHeld.2⟩ : _ ∧ _)
  clear bC
  go_wp2_with fail
  clear b5 GR
  refine hKK.out _ _ hHeld ?_
  clear hHeld
  intro hHeld
  clear hKK KK
  try simp only [Act.put, List.setIfInBounds_toArray, List.set_cons_zero, List.set_cons_succ]
  refine take' 14 (v := ?_) rfl (by kernel_rfl) (by kernel_rfl) (by kernel_rfl) (fun _ _ _ h => h) (Or.inl ⟨by rfl, ?_⟩) (by assumption) ?_
  rotate_left
  · intro w9 hSw
    go_simp
    first | done | with_reducible rfl
  simp only [Act.put, List.setIfInBounds_toArray, List.set_cons_zero, List.set_cons_succ]
  refine take' 15 (v := ?_) rfl (by kernel_rfl) (by kernel_rfl) (by kernel_rfl) (fun _ _ _ h => h) (Or.inl ⟨by rfl, ?_⟩) (by assumption) ?_
  rotate_left
  · intro w9 hSw
    go_simp
    first | done | with_reducible rfl
  simp only [Act.put, List.setIfInBounds_toArray, List.set_cons_zero, List.set_cons_succ]
  refine take' 16 (v := ?_) rfl (by kernel_rfl) (by kernel_rfl) (by kernel_rfl) (fun _ _ _ h => h) (Or.inl ⟨by rfl, ?_⟩) (by assumption) ?_
  rotate_left
  · intro w9 hSw
    go_simp
    first | done | with_reducible rfl
  simp only [Act.put, List.setIfInBounds_toArray, List.set_cons_zero, List.set_cons_succ]
  refine wpAnyH_done (by kernel_rfl) ?_ _
  clear hHeld
  go_wp2
  go_ret
  exact ⟨rfl, hBw⟩
set_option maxRecDepth 100000 in
theorem contract (H : Type) (enc : TypeId × Value → H) (W : World) (base : Nat) (args : Array Value) (ds gs : List (DataW H)) (before : List MemPlace)
    (hval : ∀ (j : Nat) t v, Try.f4.params[j]? = some t → args[j]? = some v → Value.okWide Try.prog W .any base t v)
    (hW : DataW.Whole enc Try.prog Try.f4.params.toList Rows.analyseChecksSpec.vars false W args.toList ds gs before)
    (hsz : (DataW.weightsEach Try.prog (Try.f4.params.toList ++ Rows.analyseChecksSpec.plain.varTypes Try.prog) (ds ++ gs)).all (· ≤ reachBytes) = true) (hk : Rows.uptoSmall H (ds ++ gs) = true) :
    Calls Try.prog 4 args W fun e W' => ∃ v, e = .returned v ∧ Rows.analyseChecksSpec.post enc Try.prog Try.f4 false true false false W args v W' := by
  have hW' := hW
  obtain ⟨p, q, hA0, hV, rfl, hfz, hnd⟩ := hW
  have hA : DataW.TrodAll enc Try.prog W 0 (fun _ => true) true Try.f4.params.toList args.toList ds p := hA0
  rw [Try.params4] at hA hval hsz
  obtain ⟨v0, vs0, d0, ds0, p0, q0, hargs, rfl, rfl, h0, r0⟩ := trodAll_cons hA
  obtain ⟨rfl, rfl, rfl⟩ := trodAll_nil r0
  obtain rfl : args = #[v0] := by cases args; simp_all
  obtain ⟨rfl, rfl⟩ := trodVars_none hV
  have lt0 : ∀ x ∈ p0, x.block < W.heap.size := by obtain ⟨m, hm⟩ := h0; exact DataW.trod_lt m _ _ _ hm
  have hbk0 : Rows.uptoBulk d0 ≤ 1048576 := by have hb9 := of_decide_eq_true hk; simp only [List.append_nil, Rows.uptoBulkAll] at hb9; omega
  obtain ⟨cv0, rfl, hcv0⟩ := open_Case (hval 0 26 v0 rfl rfl) h0 hbk0
  clear hA0
  have hbulk := of_decide_eq_true hk
  simp only [List.append_nil, Rows.uptoBulkAll] at hbulk
  simp only [List.append_nil] at hW'
  refine (walk cv0 W hcv0).mono fun e W' ⟨he, bel⟩ => ?_
  subst he
  exact ⟨_, rfl, _, _, _, [], _, [], hW', trodAll_mk1 (shut_bool Try.underlying4 _), (trodAll_cons_mk (Below.trod laidOut (by kernel_rfl) (of_decide_eq_true (by kernel_rfl)) h0 bel lt0) trodAll_mk0), rfl, bel.frame _, fun h => by cases h⟩

set_option maxRecDepth 100000 in
theorem lifted (os : Os) (started : os.Started) (H : Type) (enc : TypeId × Value → H) (F : Stop.Interp) :
    ReturnsInHanded {} Try.checked os 4 .any ((Rows.OpenSpec.upto Rows.analyseChecksSpec).pre6 enc Try.prog Try.f4 Rows.analyseChecksUptoRow.domain false) (((Rows.OpenSpec.upto Rows.analyseChecksSpec).at F).post enc Try.prog Try.f4 false true false false) := by
  refine returnsInHanded_of_cond_sized (C := Try.checked) (s := Rows.OpenSpec.upto Rows.analyseChecksSpec) (k := Rows.uptoSmall) rfl own started (by kernel_rfl) Try.func4
    (OpenSpec.witness (enc := enc) (C := Try.checked) (s := Rows.OpenSpec.upto Rows.analyseChecksSpec) (k := Rows.uptoSmall) rfl false ⟨#[], #[.agg #[.slice none 0 0, .slice none 0 0]], []⟩ 8 (by kernel_rfl) (by kernel_rfl) (by kernel_rfl)
      (x := ([.agg [.nil, .nil]], [], [])) (by kernel_rfl) rfl (by kernel_rfl)) ?_
  intro W base args ds gs before hval hW _ hk hsz _
  exact contract H enc W base args ds gs before hval hW hsz hk

theorem over : Rows.analyseChecksUptoRow.holds Try.pinned (Rows.OpenSpec.upto Rows.analyseChecksSpec) :=
  OpenClaim.holds_of_cond 4 Try.f4 rfl rfl rfl rfl rfl rfl rfl ⟨rfl, rfl, rfl, rfl, rfl⟩ rfl rfl rfl rfl rfl (by kernel_rfl) Try.func4 (by kernel_rfl)
    (of_decide_eq_true (by kernel_rfl)) (by unfold Func.isWrapper; first | (rw [if_pos (by decide +kernel)]; kernel_rfl) | (rw [if_neg (by decide +kernel)]; exact ⟨rfl, rfl⟩))
    (fun os started H enc _ F => lifted os started H enc F)

end Go.Proofs.Ytbcbgglhhfdbcaa.analyseChecks
namespace Go.Proofs.Ytbcbgglhhfdbcaa
theorem analyseChecks_holds : Rows.AnalyseChecksUptoSaid := analyseChecks.over
#print axioms analyseChecks_holds
end Go.Proofs.Ytbcbgglhhfdbcaa
