/-
  units: leave.
-/
import Derived.Test.YtfodejhipnmgnaaUE1
namespace Go.Proofs.Ytfodejhipnmgnaa
open Go.RowKit
set_option linter.unusedVariables false
set_option linter.unusedSimpArgs false
/-- a clause's literal, and its place, by the side -/
def CL.by' (c : CL) (s : Nat) : Int := if s = 0 then c.b0 else c.b1
def CL.at' (c : CL) (s : Nat) : Int := if s = 0 then c.a0 else c.a1
def CL.setA (c : CL) (s : Nat) (z : Int) : CL := if s = 0 then { c with a0 := z } else { c with a1 := z }
/-- which of the two a literal is -/
def CL.side (c : CL) (x : Int) : Nat := if c.b0 = x then 0 else 1
/-- a clause is taken out of the list of a literal, in which it stands at k -/
def leaveV (u : US) (x : Int) (k : Nat) : US :=
  let r := u.ws.getD (lstV x) []
  let m := r.getD (r.length - 1) 0
  { u with cl := u.cl.set m.toNat ((u.cl.getD m.toNat default).setA ((u.cl.getD m.toNat default).side x) k), ws := u.ws.set (lstV x) ((r.set k m).take (r.length - 1)) }
set_option maxHeartbeats 8000000 in
set_option maxRecDepth 100000 in
theorem leave0_no (ow : Nat → Tg) (b : Nat) (V : SV) (u : US) (n : Nat) (hn : n < u.cl.length) (hC : u.cl.length ≤ 1048576) (hx : (u.cl.getD n default).b0 = 0) (w : World) (h : UM w ow b V u) (hr : Rd u)  :
    Calls Try.prog 66 #[.pointer (some ⟨b, 0, none⟩), .int .i64 n, .int .i64 0] w fun e w' => (∃ v, e = .returned v) ∧ Chd ow b V u w w' := by
  obtain ⟨gC, hgC⟩ := h.rcl.got (by omega)
  have k2 := h.cells.2.2.2.2.1
  rw [SlV.val_some hgC] at k2
  have kb := h.rcl.cell hgC (j := n * 6 + 1) (by omega)
  rw [(clC_at _ _ n h.nlv hn).2.1] at kb
  have ka := h.rcl.cell hgC (j := n * 6 + 3) (by omega)
  rw [(clC_at _ _ n h.nlv hn).2.2.2.1] at ka
  rw [hx] at kb
  have HH := hide' h
  clear h hr
  go_enter Try.func66, Try.ntmps66
  go_wp2_with fail
  go_quiet (fail)
  go_wp2
  refine bodyPost_ret (v := .tuple #[]) (by kernel_rfl) rfl ?_
  exact ⟨⟨_, rfl⟩, Chd.mk (HH.out.later (below_drewN (Below.refl _ _))) (Step.of_below (below_drewN (Below.refl _ _)))⟩
set_option maxHeartbeats 8000000 in
set_option maxRecDepth 100000 in
theorem leave0_0 (ow : Nat → Tg) (b : Nat) (V : SV) (u : US) (n k m : Nat) (x : Int) (hn : n < u.cl.length) (hC : u.cl.length ≤ 1048576) (hw : u.ws.length = 2 * u.tr.length) (hx : (u.cl.getD n default).b0 = x) (hak : (u.cl.getD n default).a0 = k) (hx0 : x ≠ 0) (hxr : InR u x) (hk : k < (u.ws.getD (lstV x) []).length) (hlr : (u.ws.getD (lstV x) []).length ≤ 1048576) (hm : (u.ws.getD (lstV x) []).getD ((u.ws.getD (lstV x) []).length - 1) 0 = m) (hmC : m < u.cl.length) (hsd : (u.cl.getD m default).side x = 0) (w : World) (h : UM w ow b V u) (hr : Rd u)  :
    Calls Try.prog 66 #[.pointer (some ⟨b, 0, none⟩), .int .i64 n, .int .i64 0] w fun e w' => (∃ v, e = .returned v) ∧ Chd ow b V (leaveV u x k) w w' := by
  have hT := hr.nT
  have hlx := lstV_lt hxr
  have hx1 := hxr.1
  have hx2 := hxr.2
  clear hr hxr
  obtain ⟨gC, hgC⟩ := h.rcl.got (by omega)
  have k2 := h.cells.2.2.2.2.1
  rw [SlV.val_some hgC] at k2
  have kb := h.rcl.cell hgC (j := n * 6 + 1) (by omega)
  rw [(clC_at _ _ n h.nlv hn).2.1] at kb
  have ka := h.rcl.cell hgC (j := n * 6 + 3) (by omega)
  rw [(clC_at _ _ n h.nlv hn).2.2.2.1] at ka
  rw [hx] at kb
  rw [hak] at ka
  have HL : leaveV u x k = { u with cl := u.cl.set m { u.cl.getD m default with a0 := (k : Int) }, ws := u.ws.set (lstV x) (((u.ws.getD (lstV x) []).set k m).take ((u.ws.getD (lstV x) []).length - 1)) } := by
    unfold leaveV
    simp only [hm, Int.toNat_natCast, hsd, CL.setA]
    rfl
  replace HL := hide' HL
  obtain ⟨i, hi⟩ : ∃ i, lstV x = i := ⟨_, rfl⟩
  have GL := hide' (fun w' => list_is x (by omega) (by omega) w')
  have HL2 := HL.out
  rw [hi] at GL HL2 hk hlr hm hlx
  replace HL2 := hide' HL2
  clear HL
  have il : i < u.ws.length := by omega
  clear hw hlx
  obtain ⟨gW, hgW⟩ := h.rws.got (by omega)
  have k3 := h.cells.2.2.2.2.2.1
  rw [SlV.val_some hgW] at k3
  have kw := h.rws.cell hgW (j := i) (by omega)
  rw [wsC_at _ _ i h.nwv il] at kw
  change w.cell? ⟨gW, i, none⟩ = some ((V.wv.getD i default).val (u.ws.getD i []).length) at kw
  have hRR := h.rrow (i := i) il
  obtain ⟨sv, hsv⟩ : ∃ sv, V.wv.getD i default = sv := ⟨_, rfl⟩
  obtain ⟨r, hr⟩ : ∃ r, u.ws.getD i [] = r := ⟨_, rfl⟩
  rw [hr] at hk hlr hm hRR kw
  rw [hsv] at hRR kw
  have HL3 := HL2.out
  rw [hr] at HL3
  replace HL3 := hide' HL3
  clear HL2 hi
  obtain ⟨l, hl⟩ : ∃ l, r.length = l + 1 := ⟨r.length - 1, by omega⟩
  obtain ⟨gR, hgR⟩ := hRR.got (by omega)
  rw [SlV.val_some hgR, hl] at kw
  have hm2 : r.getD l 0 = m := by rw [hl, Nat.add_sub_cancel] at hm; exact hm
  clear hm
  have kl := hRR.cell hgR (j := l) (by omega)
  rw [iv_at (z := (m : Int)) (by rw [← hm2]; simp [List.getD, List.getElem?_eq_getElem (show l < r.length by omega)])] at kl
  have kk := hRR.cell hgR (j := k) (by omega)
  rw [iv_at (z := r.getD k 0) (by simp [List.getD, List.getElem?_eq_getElem (show k < r.length by omega)])] at kk
  have kmb := h.rcl.cell hgC (j := m * 6 + 1) (by omega)
  rw [(clC_at _ _ m h.nlv hmC).2.1] at kmb
  have kma := h.rcl.cell hgC (j := m * 6 + 3) (by omega)
  rw [(clC_at _ _ m h.nlv hmC).2.2.2.1] at kma
  have hif : (if (u.cl.getD m default).b0 = x then (0 : Int) else 1) = 0 := by unfold CL.side at hsd; split at hsd <;> simp_all
  have GS := hide' (fun w' (hc : w'.cell? ⟨gC, m * 6 + 1, none⟩ = some (.int .i64 (u.cl.getD m default).b0)) => side_is gC (m * 6) x (u.cl.getD m default).b0 w' hc)
  rw [hif] at GS
  have fzC := fun o => (h.rcl.row hgC).frozen o
  have P1 := h.set_a0 (k : Int) hgC hmC
  generalize (u.cl.getD m default).b0 = mb at kmb GS
  generalize (u.cl.getD m default).a0 = ma at kma
  clear hif hsd
  obtain ⟨t0, ht0⟩ : ∃ t0, r.getD k 0 = t0 := ⟨_, rfl⟩
  rw [ht0] at kk
  clear ht0
  have HH := hide' (And.intro h hRR)
  clear h hRR
  replace P1 := hide' P1
  have HR := hide' (And.intro hr hsv)
  clear hr hsv
  have HX := hide' hx0
  have HX0 : (x == 0) = false := by simp [hx0]
  clear hx0
  have bT : Below w.heap.size w w := Below.refl _ _
  go_enter Try.func66, Try.ntmps66
  go_wp2_with fail
  go_quiet (fail)
  obtain ⟨x1, hqx1⟩ : ∃ wq, w.drewN nq = wq := ⟨_, rfl⟩
  rw [hqx1]
  have bQx1 : Below w.heap.size w x1 := by subst hqx1; exact below_drewN (Below.refl _ _)
  replace k2 := below_cell bQx1 k2
  replace k3 := below_cell bQx1 k3
  replace kw := below_cell bQx1 kw
  replace kl := below_cell bQx1 kl
  replace kk := below_cell bQx1 kk
  replace kmb := below_cell bQx1 kmb
  replace kma := below_cell bQx1 kma
  replace fzC : ∀ o, x1.frozen? ⟨gC, o, none⟩ = false := fun o => by subst hqx1; exact fzC o
  clear hqx1
  replace bT := bT.trans (bQx1.mono bT.size)
  clear bQx1
  go_wp2_with fail
  go_quiet ((go_at_call 36; exact Calls.quiet_of_same (GL.out _)))
  obtain ⟨x2, hqx2⟩ : ∃ wq, x1.drewN nq = wq := ⟨_, rfl⟩
  rw [hqx2]
  have bQx2 : Below x1.heap.size x1 x2 := by subst hqx2; exact below_drewN (Below.refl _ _)
  replace k2 := below_cell bQx2 k2
  replace k3 := below_cell bQx2 k3
  replace kw := below_cell bQx2 kw
  replace kl := below_cell bQx2 kl
  replace kk := below_cell bQx2 kk
  replace kmb := below_cell bQx2 kmb
  replace kma := below_cell bQx2 kma
  replace fzC : ∀ o, x2.frozen? ⟨gC, o, none⟩ = false := fun o => by subst hqx2; exact fzC o
  clear hqx2
  replace bT := bT.trans (bQx2.mono bT.size)
  clear bQx2
  go_wp2_with fail
  go_quiet (fail)
  obtain ⟨x3, hqx3⟩ : ∃ wq, x2.drewN nq = wq := ⟨_, rfl⟩
  rw [hqx3]
  have bQx3 : Below x2.heap.size x2 x3 := by subst hqx3; exact below_drewN (Below.refl _ _)
  replace k2 := below_cell bQx3 k2
  replace k3 := below_cell bQx3 k3
  replace kw := below_cell bQx3 kw
  replace kl := below_cell bQx3 kl
  replace kk := below_cell bQx3 kk
  replace kmb := below_cell bQx3 kmb
  replace kma := below_cell bQx3 kma
  replace fzC : ∀ o, x3.frozen? ⟨gC, o, none⟩ = false := fun o => by subst hqx3; exact fzC o
  clear hqx3
  replace bT := bT.trans (bQx3.mono bT.size)
  clear bQx3
  have h3 := HH.out.1.later bT
  have S3 : Step ow ow w x3 := Step.of_below bT
  clear P1
  obtain ⟨h4, S4⟩ := h3.set_a0 (k : Int) hgC hmC
  obtain ⟨x4, hx4⟩ : ∃ x4, x3.setCell ⟨gC, m * 6 + 3, none⟩ (.int .i64 k) = x4 := ⟨_, rfl⟩
  rw [hx4] at h4 S4
  have S5 := S3.trans S4
  clear h3 S3 S4
  have k3 := h4.cells.2.2.2.2.2.1
  rw [SlV.val_some hgW] at k3
  have hRR := h4.rrow (i := i) il
  change RowAt _ _ _ _ _ (V.wv.getD i default) (u.ws.getD i []).length (iv (u.ws.getD i [])) at hRR
  rw [HR.out.1, HR.out.2] at hRR
  have hog : ow gR = .row i := hRR.2 gR hgR
  have fzR := fun o => (hRR.row hgR).frozen o
  have kl := hRR.cell hgR (j := l) (by omega)
  rw [iv_at (z := (m : Int)) (by rw [← hm2]; simp [List.getD, List.getElem?_eq_getElem (show l < r.length by omega)])] at kl
  have kk2 := hRR.cell hgR (j := k) (by omega)
  rw [iv_at (z := r.getD k 0) (by simp [List.getD, List.getElem?_eq_getElem (show k < r.length by omega)])] at kk2
  generalize r.getD k 0 = t1 at kk2
  clear kk kw
  obtain ⟨x5, hx5⟩ : ∃ x5, x4.setCell ⟨gR, k, none⟩ (.int .i64 m) = x5 := ⟨_, rfl⟩
  have A5 : App ow ow (.row i) x4 x5 := by rw [← hx5]; exact (App.refl ow _ x4).put fun _ => hog
  have R5 : RowAt x5 ow (.row i) 3 1 sv l (iv ((r.set k (m : Int)).take l)) := by
    have := (hRR.set hgR (j := k) (by omega) (.int .i64 m)).cut hgR (k := l) (by omega)
    rw [iv_set, iv_take, hx5] at this
    exact this
  have hcap : l ≤ sv.c := by obtain ⟨_, _, h3, _⟩ := hRR.raw hgR; omega
  have hwr : IntKind.i64.wrap (l : Int) = (l : Int) := by rw [IntKind.wrap_i64]; omega
  have hcut := fun w => cutI (some ⟨gR, 0, none⟩) (l + 1) sv.c l hcap w
  have hlt : ((r.set k (m : Int)).take l).length = l := by simp; omega
  have GP := hide' (fun x (hb : Below x5.heap.size x5 x) => UM.set_ws h4 (w' := x) (ow' := ow) (i := i) (s := sv) (r := (r.set k (m : Int)).take l) il hgW (by rw [hlt]; exact R5.later hb) (A5.later hb))
  have q3 : x5.cell? ⟨b, 3, none⟩ = some (.slice (some ⟨gW, 0, none⟩) u.ws.length V.ws.c) := by have := ((h4.part .st).app A5 (by simp)).2.2.2.2.2.1; rw [SlV.val_some hgW] at this; exact this
  have hRW : RowAt x5 ow .ws _ _ _ _ _ := (h4.part .ws).app A5 (by simp)
  have kg := hRW.cell hgW (j := i) (by show i < u.ws.length * 1; omega)
  rw [wsC_at _ _ i h4.nwv il] at kg
  have hRX := hRW.row hgW
  generalize (V.wv.getD i default).val _ = t2 at kg
  replace S5 := hide' S5
  have HLr := hide' (show r.length - 1 = l by omega)
  replace hlt := hide' hlt
  clear R5 A5 hRR hRW h4 hcap HH
  go_wp2_with fail
  go_region_with (go_at_call 68; refine (GS.out x3.drew (by exact kmb)).mono ?_; rintro e w9 ⟨rfl, rfl⟩)
  all_goals go_wp2_with fail
  have bX : Below x5.heap.size x5 x5.drew := (Below.refl _ _).drew
  replace q3 := below_cell bX q3
  replace kg := below_cell bX kg
  replace hRX := below_row bX hRX
  generalize x5.drew = x6 at bX q3 kg hRX ⊢
  have bD : Below x6.heap.size x6 x6.drew := (Below.refl _ _).drew
  have kq3 := below_cell bD q3
  replace bX := bX.trans (bD.mono bX.size)
  replace kg := below_cell bD kg
  replace hRX := below_row bD hRX
  refine wp_region_held_drew (S := fun w' => w'.cell? ⟨b, 3, none⟩ = some (.slice (some ⟨gW, 0, none⟩) u.ws.length V.ws.c)) (by kernel_rfl) kq3 (fun hHeld => ?_)
  clear kq3
  generalize x6.drew = x7 at bD kg hRX bX hHeld ⊢
  clear bD
  refine take' 0 (v := ?_) rfl (by kernel_rfl) (by kernel_rfl) (by kernel_rfl) (fun _ _ _ h => h) (Or.inl ⟨by rfl, ?_⟩) (by assumption) ?_
  rotate_left
  · intro w9 hSw
    go_simp
    first | done | with_reducible rfl
  simp only [Act.put, List.setIfInBounds_toArray, List.set_cons_zero, List.set_cons_succ]
  refine take' 1 (v := ?_) rfl (by kernel_rfl) (by kernel_rfl) (by kernel_rfl) (fun _ _ _ h => h) (Or.inl ⟨by rfl, ?_⟩) (by assumption) ?_
  rotate_left
  · intro w9 hSw
    go_simp
    first | done | with_reducible rfl
  simp only [Act.put, List.setIfInBounds_toArray, List.set_cons_zero, List.set_cons_succ]
  refine take' 2 (v := ?_) rfl (by kernel_rfl) (by kernel_rfl) (by kernel_rfl) (fun _ _ _ h => h) (Or.inl ⟨by rfl, ?_⟩) (by assumption) ?_
  rotate_left
  · intro w9 hSw
    go_simp
    first | done | with_reducible rfl
  simp only [Act.put, List.setIfInBounds_toArray, List.set_cons_zero, List.set_cons_succ]
  refine take' 3 (v := ?_) rfl (by kernel_rfl) (by kernel_rfl) (by kernel_rfl) (fun _ _ _ h => h) (Or.inl ⟨by rfl, ?_⟩) (by assumption) ?_
  rotate_left
  · intro w9 hSw
    go_simp
    first | done | with_reducible rfl
  simp only [Act.put, List.setIfInBounds_toArray, List.set_cons_zero, List.set_cons_succ]
  refine take' 4 (v := ?_) rfl (by kernel_rfl) (by kernel_rfl) (by kernel_rfl) (fun _ _ _ h => h) (Or.inl ⟨by rfl, ?_⟩) (by assumption) ?_
  rotate_left
  · intro w9 hSw
    go_simp
    first | done | with_reducible rfl
  simp only [Act.put, List.setIfInBounds_toArray, List.set_cons_zero, List.set_cons_succ]
  refine take' 6 (v := ?_) rfl (by kernel_rfl) (by kernel_rfl) (by kernel_rfl) (fun _ _ _ h => h) (Or.inl ⟨by rfl, ?_⟩) (by assumption) ?_
  rotate_left
  · intro w9 hSw
    go_simp
    first | done | with_reducible rfl
  simp only [Act.put, List.setIfInBounds_toArray, List.set_cons_zero, List.set_cons_succ]
  refine take' 7 (v := ?_) rfl (by kernel_rfl) (by kernel_rfl) (by kernel_rfl) (fun _ _ _ h => h) (Or.inl ⟨by rfl, ?_⟩) (by assumption) ?_
  rotate_left
  · intro w9 hSw
    go_simp
    first | done | with_reducible rfl
  simp only [Act.put, List.setIfInBounds_toArray, List.set_cons_zero, List.set_cons_succ]
  refine take' 8 (v := ?_) rfl (by kernel_rfl) (by kernel_rfl) (by kernel_rfl) (fun _ _ _ h => h) (Or.inl ⟨by rfl, ?_⟩) (by assumption) ?_
  rotate_left
  · intro w9 hSw
    go_simp
    first | done | with_reducible rfl
  simp only [Act.put, List.setIfInBounds_toArray, List.set_cons_zero, List.set_cons_succ]
  refine take' 9 (v := ?_) rfl (by kernel_rfl) (by kernel_rfl) (by kernel_rfl) (fun _ _ _ h => h) (Or.inl ⟨by rfl, ?_⟩) (by assumption) ?_
  rotate_left
  · intro w9 hSw
    go_simp
    first | done | with_reducible rfl
  simp only [Act.put, List.setIfInBounds_toArray, List.set_cons_zero, List.set_cons_succ]
  refine take' 10 (v := ?_) rfl (by kernel_rfl) (by kernel_rfl) (by kernel_rfl) (fun _ _ _ h => h) (Or.inl ⟨by rfl, ?_⟩) (by assumption) ?_
  rotate_left
  · intro w9 hSw
    go_simp
    first | done | with_reducible rfl
  simp only [Act.put, List.setIfInBounds_toArray, List.set_cons_zero, List.set_cons_succ]
  refine wpAnyH_ready (rs := [5]) (by kernel_rfl) (by simp) ?_
  refine cons' rfl (fun KK hKK => ?_)
  go_simp
  refine (GL.out _).mono ?_
  rintro e w9 ⟨rfl, hw9⟩
  rw [hw9]
  clear hw9 w9
  go_wp2_with fail
  refine hKK.out _ _ hHeld ?_
  clear hHeld
  intro hHeld
  clear hKK KK
  try simp only [Act.put, List.setIfInBounds_toArray, List.set_cons_zero, List.set_cons_succ]
  refine take' 11 (v := ?_) rfl (by kernel_rfl) (by kernel_rfl) (by kernel_rfl) (fun _ _ _ h => h) (Or.inl ⟨by rfl, ?_⟩) (by assumption) ?_
  rotate_left
  · intro w9 hSw
    go_simp
    first | done | with_reducible rfl
  simp only [Act.put, List.setIfInBounds_toArray, List.set_cons_zero, List.set_cons_succ]
  refine wpAnyH_ready (rs := [12]) (by kernel_rfl) (by simp) ?_
  refine cons' rfl (fun KK hKK => ?_)
  have P7 := GP.out x7 bX
  rw [hlt.out, SlV.val_some hgR] at P7
  replace P7 := hide' P7
  have fg := fun o => hRX.frozen o
  have q4 := P7.out.1.cells.2.2.2.2.2.1
  rw [SlV.val_some hgW] at q4
  change World.cell? _ _ = some (.slice (some ⟨gW, 0, none⟩) (u.ws.set i _).length V.ws.c) at q4
  rw [List.length_set] at q4
  go_simp
  refine hKK.out _ _ q4 ?_
  clear hHeld
  intro hHeld
  clear hKK KK
  try simp only [Act.put, List.setIfInBounds_toArray, List.set_cons_zero, List.set_cons_succ]
  clear q4 fg
  refine wpAnyH_done (by kernel_rfl) ?_ _
  go_wp2_with fail
  refine bodyPost_end (v := .tuple #[]) (by kernel_rfl) rfl ?_
  rw [HL3.out, HLr.out]
  exact ⟨⟨_, rfl⟩, Chd.mk P7.out.1 (S5.out.trans P7.out.2)⟩
set_option maxHeartbeats 8000000 in
set_option maxRecDepth 100000 in
theorem leave0_1 (ow : Nat → Tg) (b : Nat) (V : SV) (u : US) (n k m : Nat) (x : Int) (hn : n < u.cl.length) (hC : u.cl.length ≤ 1048576) (hw : u.ws.length = 2 * u.tr.length) (hx : (u.cl.getD n default).b0 = x) (hak : (u.cl.getD n default).a0 = k) (hx0 : x ≠ 0) (hxr : InR u x) (hk : k < (u.ws.getD (lstV x) []).length) (hlr : (u.ws.getD (lstV x) []).length ≤ 1048576) (hm : (u.ws.getD (lstV x) []).getD ((u.ws.getD (lstV x) []).length - 1) 0 = m) (hmC : m < u.cl.length) (hsd : (u.cl.getD m default).side x = 1) (w : World) (h : UM w ow b V u) (hr : Rd u)  :
    Calls Try.prog 66 #[.pointer (some ⟨b, 0, none⟩), .int .i64 n, .int .i64 0] w fun e w' => (∃ v, e = .returned v) ∧ Chd ow b V (leaveV u x k) w w' := by
  have hT := hr.nT
  have hlx := lstV_lt hxr
  have hx1 := hxr.1
  have hx2 := hxr.2
  clear hr hxr
  obtain ⟨gC, hgC⟩ := h.rcl.got (by omega)
  have k2 := h.cells.2.2.2.2.1
  rw [SlV.val_some hgC] at k2
  have kb := h.rcl.cell hgC (j := n * 6 + 1) (by omega)
  rw [(clC_at _ _ n h.nlv hn).2.1] at kb
  have ka := h.rcl.cell hgC (j := n * 6 + 3) (by omega)
  rw [(clC_at _ _ n h.nlv hn).2.2.2.1] at ka
  rw [hx] at kb
  rw [hak] at ka
  have HL : leaveV u x k = { u with cl := u.cl.set m { u.cl.getD m default with a1 := (k : Int) }, ws := u.ws.set (lstV x) (((u.ws.getD (lstV x) []).set k m).take ((u.ws.getD (lstV x) []).length - 1)) } := by
    unfold leaveV
    simp only [hm, Int.toNat_natCast, hsd, CL.setA]
    rfl
  replace HL := hide' HL
  obtain ⟨i, hi⟩ : ∃ i, lstV x = i := ⟨_, rfl⟩
  have GL := hide' (fun w' => list_is x (by omega) (by omega) w')
  have HL2 := HL.out
  rw [hi] at GL HL2 hk hlr hm hlx
  replace HL2 := hide' HL2
  clear HL
  have il : i < u.ws.length := by omega
  clear hw hlx
  obtain ⟨gW, hgW⟩ := h.rws.got (by omega)
  have k3 := h.cells.2.2.2.2.2.1
  rw [SlV.val_some hgW] at k3
  have kw := h.rws.cell hgW (j := i) (by omega)
  rw [wsC_at _ _ i h.nwv il] at kw
  change w.cell? ⟨gW, i, none⟩ = some ((V.wv.getD i default).val (u.ws.getD i []).length) at kw
  have hRR := h.rrow (i := i) il
  obtain ⟨sv, hsv⟩ : ∃ sv, V.wv.getD i default = sv := ⟨_, rfl⟩
  obtain ⟨r, hr⟩ : ∃ r, u.ws.getD i [] = r := ⟨_, rfl⟩
  rw [hr] at hk hlr hm hRR kw
  rw [hsv] at hRR kw
  have HL3 := HL2.out
  rw [hr] at HL3
  replace HL3 := hide' HL3
  clear HL2 hi
  obtain ⟨l, hl⟩ : ∃ l, r.length = l + 1 := ⟨r.length - 1, by omega⟩
  obtain ⟨gR, hgR⟩ := hRR.got (by omega)
  rw [SlV.val_some hgR, hl] at kw
  have hm2 : r.getD l 0 = m := by rw [hl, Nat.add_sub_cancel] at hm; exact hm
  clear hm
  have kl := hRR.cell hgR (j := l) (by omega)
  rw [iv_at (z := (m : Int)) (by rw [← hm2]; simp [List.getD, List.getElem?_eq_getElem (show l < r.length by omega)])] at kl
  have kk := hRR.cell hgR (j := k) (by omega)
  rw [iv_at (z := r.getD k 0) (by simp [List.getD, List.getElem?_eq_getElem (show k < r.length by omega)])] at kk
  have kmb := h.rcl.cell hgC (j := m * 6 + 1) (by omega)
  rw [(clC_at _ _ m h.nlv hmC).2.1] at kmb
  have kma := h.rcl.cell hgC (j := m * 6 + 4) (by omega)
  rw [(clC_at _ _ m h.nlv hmC).2.2.2.2.1] at kma
  have hif : (if (u.cl.getD m default).b0 = x then (0 : Int) else 1) = 1 := by unfold CL.side at hsd; split at hsd <;> simp_all
  have GS := hide' (fun w' (hc : w'.cell? ⟨gC, m * 6 + 1, none⟩ = some (.int .i64 (u.cl.getD m default).b0)) => side_is gC (m * 6) x (u.cl.getD m default).b0 w' hc)
  rw [hif] at GS
  have fzC := fun o => (h.rcl.row hgC).frozen o
  have P1 := h.set_a1 (k : Int) hgC hmC
  generalize (u.cl.getD m default).b0 = mb at kmb GS
  generalize (u.cl.getD m default).a1 = ma at kma
  clear hif hsd
  obtain ⟨t0, ht0⟩ : ∃ t0, r.getD k 0 = t0 := ⟨_, rfl⟩
  rw [ht0] at kk
  clear ht0
  have HH := hide' (And.intro h hRR)
  clear h hRR
  replace P1 := hide' P1
  have HR := hide' (And.intro hr hsv)
  clear hr hsv
  have HX := hide' hx0
  have HX0 : (x == 0) = false := by simp [hx0]
  clear hx0
  have bT : Below w.heap.size w w := Below.refl _ _
  go_enter Try.func66, Try.ntmps66
  go_wp2_with fail
  go_quiet (fail)
  obtain ⟨x1, hqx1⟩ : ∃ wq, w.drewN nq = wq := ⟨_, rfl⟩
  rw [hqx1]
  have bQx1 : Below w.heap.size w x1 := by subst hqx1; exact below_drewN (Below.refl _ _)
  replace k2 := below_cell bQx1 k2
  replace k3 := below_cell bQx1 k3
  replace kw := below_cell bQx1 kw
  replace kl := below_cell bQx1 kl
  replace kk := below_cell bQx1 kk
  replace kmb := below_cell bQx1 kmb
  replace kma := below_cell bQx1 kma
  replace fzC : ∀ o, x1.frozen? ⟨gC, o, none⟩ = false := fun o => by subst hqx1; exact fzC o
  clear hqx1
  replace bT := bT.trans (bQx1.mono bT.size)
  clear bQx1
  go_wp2_with fail
  go_quiet ((go_at_call 36; exact Calls.quiet_of_same (GL.out _)))
  obtain ⟨x2, hqx2⟩ : ∃ wq, x1.drewN nq = wq := ⟨_, rfl⟩
  rw [hqx2]
  have bQx2 : Below x1.heap.size x1 x2 := by subst hqx2; exact below_drewN (Below.refl _ _)
  replace k2 := below_cell bQx2 k2
  replace k3 := below_cell bQx2 k3
  replace kw := below_cell bQx2 kw
  replace kl := below_cell bQx2 kl
  replace kk := below_cell bQx2 kk
  replace kmb := below_cell bQx2 kmb
  replace kma := below_cell bQx2 kma
  replace fzC : ∀ o, x2.frozen? ⟨gC, o, none⟩ = false := fun o => by subst hqx2; exact fzC o
  clear hqx2
  replace bT := bT.trans (bQx2.mono bT.size)
  clear bQx2
  go_wp2_with fail
  go_quiet (fail)
  obtain ⟨x3, hqx3⟩ : ∃ wq, x2.drewN nq = wq := ⟨_, rfl⟩
  rw [hqx3]
  have bQx3 : Below x2.heap.size x2 x3 := by subst hqx3; exact below_drewN (Below.refl _ _)
  replace k2 := below_cell bQx3 k2
  replace k3 := below_cell bQx3 k3
  replace kw := below_cell bQx3 kw
  replace kl := below_cell bQx3 kl
  replace kk := below_cell bQx3 kk
  replace kmb := below_cell bQx3 kmb
  replace kma := below_cell bQx3 kma
  replace fzC : ∀ o, x3.frozen? ⟨gC, o, none⟩ = false := fun o => by subst hqx3; exact fzC o
  clear hqx3
  replace bT := bT.trans (bQx3.mono bT.size)
  clear bQx3
  have h3 := HH.out.1.later bT
  have S3 : Step ow ow w x3 := Step.of_below bT
  clear P1
  obtain ⟨h4, S4⟩ := h3.set_a1 (k : Int) hgC hmC
  obtain ⟨x4, hx4⟩ : ∃ x4, x3.setCell ⟨gC, m * 6 + 4, none⟩ (.int .i64 k) = x4 := ⟨_, rfl⟩
  rw [hx4] at h4 S4
  have S5 := S3.trans S4
  clear h3 S3 S4
  have k3 := h4.cells.2.2.2.2.2.1
  rw [SlV.val_some hgW] at k3
  have hRR := h4.rrow (i := i) il
  change RowAt _ _ _ _ _ (V.wv.getD i default) (u.ws.getD i []).length (iv (u.ws.getD i [])) at hRR
  rw [HR.out.1, HR.out.2] at hRR
  have hog : ow gR = .row i := hRR.2 gR hgR
  have fzR := fun o => (hRR.row hgR).frozen o
  have kl := hRR.cell hgR (j := l) (by omega)
  rw [iv_at (z := (m : Int)) (by rw [← hm2]; simp [List.getD, List.getElem?_eq_getElem (show l < r.length by omega)])] at kl
  have kk2 := hRR.cell hgR (j := k) (by omega)
  rw [iv_at (z := r.getD k 0) (by simp [List.getD, List.getElem?_eq_getElem (show k < r.length by omega)])] at kk2
  generalize r.getD k 0 = t1 at kk2
  clear kk kw
  obtain ⟨x5, hx5⟩ : ∃ x5, x4.setCell ⟨gR, k, none⟩ (.int .i64 m) = x5 := ⟨_, rfl⟩
  have A5 : App ow ow (.row i) x4 x5 := by rw [← hx5]; exact (App.refl ow _ x4).put fun _ => hog
  have R5 : RowAt x5 ow (.row i) 3 1 sv l (iv ((r.set k (m : Int)).take l)) := by
    have := (hRR.set hgR (j := k) (by omega) (.int .i64 m)).cut hgR (k := l) (by omega)
    rw [iv_set, iv_take, hx5] at this
    exact this
  have hcap : l ≤ sv.c := by obtain ⟨_, _, h3, _⟩ := hRR.raw hgR; omega
  have hwr : IntKind.i64.wrap (l : Int) = (l : Int) := by rw [IntKind.wrap_i64]; omega
  have hcut := fun w => cutI (some ⟨gR, 0, none⟩) (l + 1) sv.c l hcap w
  have hlt : ((r.set k (m : Int)).take l).length = l := by simp; omega
  have GP := hide' (fun x (hb : Below x5.heap.size x5 x) => UM.set_ws h4 (w' := x) (ow' := ow) (i := i) (s := sv) (r := (r.set k (m : Int)).take l) il hgW (by rw [hlt]; exact R5.later hb) (A5.later hb))
  have q3 : x5.cell? ⟨b, 3, none⟩ = some (.slice (some ⟨gW, 0, none⟩) u.ws.length V.ws.c) := by have := ((h4.part .st).app A5 (by simp)).2.2.2.2.2.1; rw [SlV.val_some hgW] at this; exact this
  have hRW : RowAt x5 ow .ws _ _ _ _ _ := (h4.part .ws).app A5 (by simp)
  have kg := hRW.cell hgW (j := i) (by show i < u.ws.length * 1; omega)
  rw [wsC_at _ _ i h4.nwv il] at kg
  have hRX := hRW.row hgW
  generalize (V.wv.getD i default).val _ = t2 at kg
  replace S5 := hide' S5
  have HLr := hide' (show r.length - 1 = l by omega)
  replace hlt := hide' hlt
  clear R5 A5 hRR hRW h4 hcap HH
  go_wp2_with fail
  go_region_with (go_at_call 68; refine (GS.out x3.drew (by exact kmb)).mono ?_; rintro e w9 ⟨rfl, rfl⟩)
  all_goals go_wp2_with fail
  have bX : Below x5.heap.size x5 x5.drew := (Below.refl _ _).drew
  replace q3 := below_cell bX q3
  replace kg := below_cell bX kg
  replace hRX := below_row bX hRX
  generalize x5.drew = x6 at bX q3 kg hRX ⊢
  have bD : Below x6.heap.size x6 x6.drew := (Below.refl _ _).drew
  have kq3 := below_cell bD q3
  replace bX := bX.trans (bD.mono bX.size)
  replace kg := below_cell bD kg
  replace hRX := below_row bD hRX
  refine wp_region_held_drew (S := fun w' => w'.cell? ⟨b, 3, none⟩ = some (.slice (some ⟨gW, 0, none⟩) u.ws.length V.ws.c)) (by kernel_rfl) kq3 (fun hHeld => ?_)
  clear kq3
  generalize x6.drew = x7 at bD kg hRX bX hHeld ⊢
  clear bD
  refine take' 0 (v := ?_) rfl (by kernel_rfl) (by kernel_rfl) (by kernel_rfl) (fun _ _ _ h => h) (Or.inl ⟨by rfl, ?_⟩) (by assumption) ?_
  rotate_left
  · intro w9 hSw
    go_simp
    first | done | with_reducible rfl
  simp only [Act.put, List.setIfInBounds_toArray, List.set_cons_zero, List.set_cons_succ]
  refine take' 1 (v := ?_) rfl (by kernel_rfl) (by kernel_rfl) (by kernel_rfl) (fun _ _ _ h => h) (Or.inl ⟨by rfl, ?_⟩) (by assumption) ?_
  rotate_left
  · intro w9 hSw
    go_simp
    first | done | with_reducible rfl
  simp only [Act.put, List.setIfInBounds_toArray, List.set_cons_zero, List.set_cons_succ]
  refine take' 2 (v := ?_) rfl (by kernel_rfl) (by kernel_rfl) (by kernel_rfl) (fun _ _ _ h => h) (Or.inl ⟨by rfl, ?_⟩) (by assumption) ?_
  rotate_left
  · intro w9 hSw
    go_simp
    first | done | with_reducible rfl
  simp only [Act.put, List.setIfInBounds_toArray, List.set_cons_zero, List.set_cons_succ]
  refine take' 3 (v := ?_) rfl (by kernel_rfl) (by kernel_rfl) (by kernel_rfl) (fun _ _ _ h => h) (Or.inl ⟨by rfl, ?_⟩) (by assumption) ?_
  rotate_left
  · intro w9 hSw
    go_simp
    first | done | with_reducible rfl
  simp only [Act.put, List.setIfInBounds_toArray, List.set_cons_zero, List.set_cons_succ]
  refine take' 4 (v := ?_) rfl (by kernel_rfl) (by kernel_rfl) (by kernel_rfl) (fun _ _ _ h => h) (Or.inl ⟨by rfl, ?_⟩) (by assumption) ?_
  rotate_left
  · intro w9 hSw
    go_simp
    first | done | with_reducible rfl
  simp only [Act.put, List.setIfInBounds_toArray, List.set_cons_zero, List.set_cons_succ]
  refine take' 6 (v := ?_) rfl (by kernel_rfl) (by kernel_rfl) (by kernel_rfl) (fun _ _ _ h => h) (Or.inl ⟨by rfl, ?_⟩) (by assumption) ?_
  rotate_left
  · intro w9 hSw
    go_simp
    first | done | with_reducible rfl
  simp only [Act.put, List.setIfInBounds_toArray, List.set_cons_zero, List.set_cons_succ]
  refine take' 7 (v := ?_) rfl (by kernel_rfl) (by kernel_rfl) (by kernel_rfl) (fun _ _ _ h => h) (Or.inl ⟨by rfl, ?_⟩) (by assumption) ?_
  rotate_left
  · intro w9 hSw
    go_simp
    first | done | with_reducible rfl
  simp only [Act.put, List.setIfInBounds_toArray, List.set_cons_zero, List.set_cons_succ]
  refine take' 8 (v := ?_) rfl (by kernel_rfl) (by kernel_rfl) (by kernel_rfl) (fun _ _ _ h => h) (Or.inl ⟨by rfl, ?_⟩) (by assumption) ?_
  rotate_left
  · intro w9 hSw
    go_simp
    first | done | with_reducible rfl
  simp only [Act.put, List.setIfInBounds_toArray, List.set_cons_zero, List.set_cons_succ]
  refine take' 9 (v := ?_) rfl (by kernel_rfl) (by kernel_rfl) (by kernel_rfl) (fun _ _ _ h => h) (Or.inl ⟨by rfl, ?_⟩) (by assumption) ?_
  rotate_left
  · intro w9 hSw
    go_simp
    first | done | with_reducible rfl
  simp only [Act.put, List.setIfInBounds_toArray, List.set_cons_zero, List.set_cons_succ]
  refine take' 10 (v := ?_) rfl (by kernel_rfl) (by kernel_rfl) (by kernel_rfl) (fun _ _ _ h => h) (Or.inl ⟨by rfl, ?_⟩) (by assumption) ?_
  rotate_left
  · intro w9 hSw
    go_simp
    first | done | with_reducible rfl
  simp only [Act.put, List.setIfInBounds_toArray, List.set_cons_zero, List.set_cons_succ]
  refine wpAnyH_ready (rs := [5]) (by kernel_rfl) (by simp) ?_
  refine cons' rfl (fun KK hKK => ?_)
  go_simp
  refine (GL.out _).mono ?_
  rintro e w9 ⟨rfl, hw9⟩
  rw [hw9]
  clear hw9 w9
  go_wp2_with fail
  refine hKK.out _ _ hHeld ?_
  clear hHeld
  intro hHeld
  clear hKK KK
  try simp only [Act.put, List.setIfInBounds_toArray, List.set_cons_zero, List.set_cons_succ]
  refine take' 11 (v := ?_) rfl (by kernel_rfl) (by kernel_rfl) (by kernel_rfl) (fun _ _ _ h => h) (Or.inl ⟨by rfl, ?_⟩) (by assumption) ?_
  rotate_left
  · intro w9 hSw
    go_simp
    first | done | with_reducible rfl
  simp only [Act.put, List.setIfInBounds_toArray, List.set_cons_zero, List.set_cons_succ]
  refine wpAnyH_ready (rs := [12]) (by kernel_rfl) (by simp) ?_
  refine cons' rfl (fun KK hKK => ?_)
  have P7 := GP.out x7 bX
  rw [hlt.out, SlV.val_some hgR] at P7
  replace P7 := hide' P7
  have fg := fun o => hRX.frozen o
  have q4 := P7.out.1.cells.2.2.2.2.2.1
  rw [SlV.val_some hgW] at q4
  change World.cell? _ _ = some (.slice (some ⟨gW, 0, none⟩) (u.ws.set i _).length V.ws.c) at q4
  rw [List.length_set] at q4
  go_simp
  refine hKK.out _ _ q4 ?_
  clear hHeld
  intro hHeld
  clear hKK KK
  try simp only [Act.put, List.setIfInBounds_toArray, List.set_cons_zero, List.set_cons_succ]
  clear q4 fg
  refine wpAnyH_done (by kernel_rfl) ?_ _
  go_wp2_with fail
  refine bodyPost_end (v := .tuple #[]) (by kernel_rfl) rfl ?_
  rw [HL3.out, HLr.out]
  exact ⟨⟨_, rfl⟩, Chd.mk P7.out.1 (S5.out.trans P7.out.2)⟩
set_option maxHeartbeats 8000000 in
set_option maxRecDepth 100000 in
theorem leave1_no (ow : Nat → Tg) (b : Nat) (V : SV) (u : US) (n : Nat) (hn : n < u.cl.length) (hC : u.cl.length ≤ 1048576) (hx : (u.cl.getD n default).b1 = 0) (w : World) (h : UM w ow b V u) (hr : Rd u)  :
    Calls Try.prog 66 #[.pointer (some ⟨b, 0, none⟩), .int .i64 n, .int .i64 1] w fun e w' => (∃ v, e = .returned v) ∧ Chd ow b V u w w' := by
  obtain ⟨gC, hgC⟩ := h.rcl.got (by omega)
  have k2 := h.cells.2.2.2.2.1
  rw [SlV.val_some hgC] at k2
  have kb := h.rcl.cell hgC (j := n * 6 + 2) (by omega)
  rw [(clC_at _ _ n h.nlv hn).2.2.1] at kb
  have ka := h.rcl.cell hgC (j := n * 6 + 4) (by omega)
  rw [(clC_at _ _ n h.nlv hn).2.2.2.2.1] at ka
  rw [hx] at kb
  have HH := hide' h
  clear h hr
  go_enter Try.func66, Try.ntmps66
  go_wp2_with fail
  go_quiet (fail)
  go_wp2
  refine bodyPost_ret (v := .tuple #[]) (by kernel_rfl) rfl ?_
  exact ⟨⟨_, rfl⟩, Chd.mk (HH.out.later (below_drewN (Below.refl _ _))) (Step.of_below (below_drewN (Below.refl _ _)))⟩
set_option maxHeartbeats 8000000 in
set_option maxRecDepth 100000 in
theorem leave1_0 (ow : Nat → Tg) (b : Nat) (V : SV) (u : US) (n k m : Nat) (x : Int) (hn : n < u.cl.length) (hC : u.cl.length ≤ 1048576) (hw : u.ws.length = 2 * u.tr.length) (hx : (u.cl.getD n default).b1 = x) (hak : (u.cl.getD n default).a1 = k) (hx0 : x ≠ 0) (hxr : InR u x) (hk : k < (u.ws.getD (lstV x) []).length) (hlr : (u.ws.getD (lstV x) []).length ≤ 1048576) (hm : (u.ws.getD (lstV x) []).getD ((u.ws.getD (lstV x) []).length - 1) 0 = m) (hmC : m < u.cl.length) (hsd : (u.cl.getD m default).side x = 0) (w : World) (h : UM w ow b V u) (hr : Rd u)  :
    Calls Try.prog 66 #[.pointer (some ⟨b, 0, none⟩), .int .i64 n, .int .i64 1] w fun e w' => (∃ v, e = .returned v) ∧ Chd ow b V (leaveV u x k) w w' := by
  have hT := hr.nT
  have hlx := lstV_lt hxr
  have hx1 := hxr.1
  have hx2 := hxr.2
  clear hr hxr
  obtain ⟨gC, hgC⟩ := h.rcl.got (by omega)
  have k2 := h.cells.2.2.2.2.1
  rw [SlV.val_some hgC] at k2
  have kb := h.rcl.cell hgC (j := n * 6 + 2) (by omega)
  rw [(clC_at _ _ n h.nlv hn).2.2.1] at kb
  have ka := h.rcl.cell hgC (j := n * 6 + 4) (by omega)
  rw [(clC_at _ _ n h.nlv hn).2.2.2.2.1] at ka
  rw [hx] at kb
  rw [hak] at ka
  have HL : leaveV u x k = { u with cl := u.cl.set m { u.cl.getD m default with a0 := (k : Int) }, ws := u.ws.set (lstV x) (((u.ws.getD (lstV x) []).set k m).take ((u.ws.getD (lstV x) []).length - 1)) } := by
    unfold leaveV
    simp only [hm, Int.toNat_natCast, hsd, CL.setA]
    rfl
  replace HL := hide' HL
  obtain ⟨i, hi⟩ : ∃ i, lstV x = i := ⟨_, rfl⟩
  have GL := hide' (fun w' => list_is x (by omega) (by omega) w')
  have HL2 := HL.out
  rw [hi] at GL HL2 hk hlr hm hlx
  replace HL2 := hide' HL2
  clear HL
  have il : i < u.ws.length := by omega
  clear hw hlx
  obtain ⟨gW, hgW⟩ := h.rws.got (by omega)
  have k3 := h.cells.2.2.2.2.2.1
  rw [SlV.val_some hgW] at k3
  have kw := h.rws.cell hgW (j := i) (by omega)
  rw [wsC_at _ _ i h.nwv il] at kw
  change w.cell? ⟨gW, i, none⟩ = some ((V.wv.getD i default).val (u.ws.getD i []).length) at kw
  have hRR := h.rrow (i := i) il
  obtain ⟨sv, hsv⟩ : ∃ sv, V.wv.getD i default = sv := ⟨_, rfl⟩
  obtain ⟨r, hr⟩ : ∃ r, u.ws.getD i [] = r := ⟨_, rfl⟩
  rw [hr] at hk hlr hm hRR kw
  rw [hsv] at hRR kw
  have HL3 := HL2.out
  rw [hr] at HL3
  replace HL3 := hide' HL3
  clear HL2 hi
  obtain ⟨l, hl⟩ : ∃ l, r.length = l + 1 := ⟨r.length - 1, by omega⟩
  obtain ⟨gR, hgR⟩ := hRR.got (by omega)
  rw [SlV.val_some hgR, hl] at kw
  have hm2 : r.getD l 0 = m := by rw [hl, Nat.add_sub_cancel] at hm; exact hm
  clear hm
  have kl := hRR.cell hgR (j := l) (by omega)
  rw [iv_at (z := (m : Int)) (by rw [← hm2]; simp [List.getD, List.getElem?_eq_getElem (show l < r.length by omega)])] at kl
  have kk := hRR.cell hgR (j := k) (by omega)
  rw [iv_at (z := r.getD k 0) (by simp [List.getD, List.getElem?_eq_getElem (show k < r.length by omega)])] at kk
  have kmb := h.rcl.cell hgC (j := m * 6 + 1) (by omega)
  rw [(clC_at _ _ m h.nlv hmC).2.1] at kmb
  have kma := h.rcl.cell hgC (j := m * 6 + 3) (by omega)
  rw [(clC_at _ _ m h.nlv hmC).2.2.2.1] at kma
  have hif : (if (u.cl.getD m default).b0 = x then (0 : Int) else 1) = 0 := by unfold CL.side at hsd; split at hsd <;> simp_all
  have GS := hide' (fun w' (hc : w'.cell? ⟨gC, m * 6 + 1, none⟩ = some (.int .i64 (u.cl.getD m default).b0)) => side_is gC (m * 6) x (u.cl.getD m default).b0 w' hc)
  rw [hif] at GS
  have fzC := fun o => (h.rcl.row hgC).frozen o
  have P1 := h.set_a0 (k : Int) hgC hmC
  generalize (u.cl.getD m default).b0 = mb at kmb GS
  generalize (u.cl.getD m default).a0 = ma at kma
  clear hif hsd
  obtain ⟨t0, ht0⟩ : ∃ t0, r.getD k 0 = t0 := ⟨_, rfl⟩
  rw [ht0] at kk
  clear ht0
  have HH := hide' (And.intro h hRR)
  clear h hRR
  replace P1 := hide' P1
  have HR := hide' (And.intro hr hsv)
  clear hr hsv
  have HX := hide' hx0
  have HX0 : (x == 0) = false := by simp [hx0]
  clear hx0
  have bT : Below w.heap.size w w := Below.refl _ _
  go_enter Try.func66, Try.ntmps66
  go_wp2_with fail
  go_quiet (fail)
  obtain ⟨x1, hqx1⟩ : ∃ wq, w.drewN nq = wq := ⟨_, rfl⟩
  rw [hqx1]
  have bQx1 : Below w.heap.size w x1 := by subst hqx1; exact below_drewN (Below.refl _ _)
  replace k2 := below_cell bQx1 k2
  replace k3 := below_cell bQx1 k3
  replace kw := below_cell bQx1 kw
  replace kl := below_cell bQx1 kl
  replace kk := below_cell bQx1 kk
  replace kmb := below_cell bQx1 kmb
  replace kma := below_cell bQx1 kma
  replace fzC : ∀ o, x1.frozen? ⟨gC, o, none⟩ = false := fun o => by subst hqx1; exact fzC o
  clear hqx1
  replace bT := bT.trans (bQx1.mono bT.size)
  clear bQx1
  go_wp2_with fail
  go_quiet ((go_at_call 36; exact Calls.quiet_of_same (GL.out _)))
  obtain ⟨x2, hqx2⟩ : ∃ wq, x1.drewN nq = wq := ⟨_, rfl⟩
  rw [hqx2]
  have bQx2 : Below x1.heap.size x1 x2 := by subst hqx2; exact below_drewN (Below.refl _ _)
  replace k2 := below_cell bQx2 k2
  replace k3 := below_cell bQx2 k3
  replace kw := below_cell bQx2 kw
  replace kl := below_cell bQx2 kl
  replace kk := below_cell bQx2 kk
  replace kmb := below_cell bQx2 kmb
  replace kma := below_cell bQx2 kma
  replace fzC : ∀ o, x2.frozen? ⟨gC, o, none⟩ = false := fun o => by subst hqx2; exact fzC o
  clear hqx2
  replace bT := bT.trans (bQx2.mono bT.size)
  clear bQx2
  go_wp2_with fail
  go_quiet (fail)
  obtain ⟨x3, hqx3⟩ : ∃ wq, x2.drewN nq = wq := ⟨_, rfl⟩
  rw [hqx3]
  have bQx3 : Below x2.heap.size x2 x3 := by subst hqx3; exact below_drewN (Below.refl _ _)
  replace k2 := below_cell bQx3 k2
  replace k3 := below_cell bQx3 k3
  replace kw := below_cell bQx3 kw
  replace kl := below_cell bQx3 kl
  replace kk := below_cell bQx3 kk
  replace kmb := below_cell bQx3 kmb
  replace kma := below_cell bQx3 kma
  replace fzC : ∀ o, x3.frozen? ⟨gC, o, none⟩ = false := fun o => by subst hqx3; exact fzC o
  clear hqx3
  replace bT := bT.trans (bQx3.mono bT.size)
  clear bQx3
  have h3 := HH.out.1.later bT
  have S3 : Step ow ow w x3 := Step.of_below bT
  clear P1
  obtain ⟨h4, S4⟩ := h3.set_a0 (k : Int) hgC hmC
  obtain ⟨x4, hx4⟩ : ∃ x4, x3.setCell ⟨gC, m * 6 + 3, none⟩ (.int .i64 k) = x4 := ⟨_, rfl⟩
  rw [hx4] at h4 S4
  have S5 := S3.trans S4
  clear h3 S3 S4
  have k3 := h4.cells.2.2.2.2.2.1
  rw [SlV.val_some hgW] at k3
  have hRR := h4.rrow (i := i) il
  change RowAt _ _ _ _ _ (V.wv.getD i default) (u.ws.getD i []).length (iv (u.ws.getD i [])) at hRR
  rw [HR.out.1, HR.out.2] at hRR
  have hog : ow gR = .row i := hRR.2 gR hgR
  have fzR := fun o => (hRR.row hgR).frozen o
  have kl := hRR.cell hgR (j := l) (by omega)
  rw [iv_at (z := (m : Int)) (by rw [← hm2]; simp [List.getD, List.getElem?_eq_getElem (show l < r.length by omega)])] at kl
  have kk2 := hRR.cell hgR (j := k) (by omega)
  rw [iv_at (z := r.getD k 0) (by simp [List.getD, List.getElem?_eq_getElem (show k < r.length by omega)])] at kk2
  generalize r.getD k 0 = t1 at kk2
  clear kk kw
  obtain ⟨x5, hx5⟩ : ∃ x5, x4.setCell ⟨gR, k, none⟩ (.int .i64 m) = x5 := ⟨_, rfl⟩
  have A5 : App ow ow (.row i) x4 x5 := by rw [← hx5]; exact (App.refl ow _ x4).put fun _ => hog
  have R5 : RowAt x5 ow (.row i) 3 1 sv l (iv ((r.set k (m : Int)).take l)) := by
    have := (hRR.set hgR (j := k) (by omega) (.int .i64 m)).cut hgR (k := l) (by omega)
    rw [iv_set, iv_take, hx5] at this
    exact this
  have hcap : l ≤ sv.c := by obtain ⟨_, _, h3, _⟩ := hRR.raw hgR; omega
  have hwr : IntKind.i64.wrap (l : Int) = (l : Int) := by rw [IntKind.wrap_i64]; omega
  have hcut := fun w => cutI (some ⟨gR, 0, none⟩) (l + 1) sv.c l hcap w
  have hlt : ((r.set k (m : Int)).take l).length = l := by simp; omega
  have GP := hide' (fun x (hb : Below x5.heap.size x5 x) => UM.set_ws h4 (w' := x) (ow' := ow) (i := i) (s := sv) (r := (r.set k (m : Int)).take l) il hgW (by rw [hlt]; exact R5.later hb) (A5.later hb))
  have q3 : x5.cell? ⟨b, 3, none⟩ = some (.slice (some ⟨gW, 0, none⟩) u.ws.length V.ws.c) := by have := ((h4.part .st).app A5 (by simp)).2.2.2.2.2.1; rw [SlV.val_some hgW] at this; exact this
  have hRW : RowAt x5 ow .ws _ _ _ _ _ := (h4.part .ws).app A5 (by simp)
  have kg := hRW.cell hgW (j := i) (by show i < u.ws.length * 1; omega)
  rw [wsC_at _ _ i h4.nwv il] at kg
  have hRX := hRW.row hgW
  generalize (V.wv.getD i default).val _ = t2 at kg
  replace S5 := hide' S5
  have HLr := hide' (show r.length - 1 = l by omega)
  replace hlt := hide' hlt
  clear R5 A5 hRR hRW h4 hcap HH
  go_wp2_with fail
  go_region_with (go_at_call 68; refine (GS.out x3.drew (by exact kmb)).mono ?_; rintro e w9 ⟨rfl, rfl⟩)
  all_goals go_wp2_with fail
  have bX : Below x5.heap.size x5 x5.drew := (Below.refl _ _).drew
  replace q3 := below_cell bX q3
  replace kg := below_cell bX kg
  replace hRX := below_row bX hRX
  generalize x5.drew = x6 at bX q3 kg hRX ⊢
  have bD : Below x6.heap.size x6 x6.drew := (Below.refl _ _).drew
  have kq3 := below_cell bD q3
  replace bX := bX.trans (bD.mono bX.size)
  replace kg := below_cell bD kg
  replace hRX := below_row bD hRX
  refine wp_region_held_drew (S := fun w' => w'.cell? ⟨b, 3, none⟩ = some (.slice (some ⟨gW, 0, none⟩) u.ws.length V.ws.c)) (by kernel_rfl) kq3 (fun hHeld => ?_)
  clear kq3
  generalize x6.drew = x7 at bD kg hRX bX hHeld ⊢
  clear bD
  refine take' 0 (v := ?_) rfl (by kernel_rfl) (by kernel_rfl) (by kernel_rfl) (fun _ _ _ h => h) (Or.inl ⟨by rfl, ?_⟩) (by assumption) ?_
  rotate_left
  · intro w9 hSw
    go_simp
    first | done | with_reducible rfl
  simp only [Act.put, List.setIfInBounds_toArray, List.set_cons_zero, List.set_cons_succ]
  refine take' 1 (v := ?_) rfl (by kernel_rfl) (by kernel_rfl) (by kernel_rfl) (fun _ _ _ h => h) (Or.inl ⟨by rfl, ?_⟩) (by assumption) ?_
  rotate_left
  · intro w9 hSw
    go_simp
    first | done | with_reducible rfl
  simp only [Act.put, List.setIfInBounds_toArray, List.set_cons_zero, List.set_cons_succ]
  refine take' 2 (v := ?_) rfl (by kernel_rfl) (by kernel_rfl) (by kernel_rfl) (fun _ _ _ h => h) (Or.inl ⟨by rfl, ?_⟩) (by assumption) ?_
  rotate_left
  · intro w9 hSw
    go_simp
    first | done | with_reducible rfl
  simp only [Act.put, List.setIfInBounds_toArray, List.set_cons_zero, List.set_cons_succ]
  refine take' 3 (v := ?_) rfl (by kernel_rfl) (by kernel_rfl) (by kernel_rfl) (fun _ _ _ h => h) (Or.inl ⟨by rfl, ?_⟩) (by assumption) ?_
  rotate_left
  · intro w9 hSw
    go_simp
    first | done | with_reducible rfl
  simp only [Act.put, List.setIfInBounds_toArray, List.set_cons_zero, List.set_cons_succ]
  refine take' 4 (v := ?_) rfl (by kernel_rfl) (by kernel_rfl) (by kernel_rfl) (fun _ _ _ h => h) (Or.inl ⟨by rfl, ?_⟩) (by assumption) ?_
  rotate_left
  · intro w9 hSw
    go_simp
    first | done | with_reducible rfl
  simp only [Act.put, List.setIfInBounds_toArray, List.set_cons_zero, List.set_cons_succ]
  refine take' 6 (v := ?_) rfl (by kernel_rfl) (by kernel_rfl) (by kernel_rfl) (fun _ _ _ h => h) (Or.inl ⟨by rfl, ?_⟩) (by assumption) ?_
  rotate_left
  · intro w9 hSw
    go_simp
    first | done | with_reducible rfl
  simp only [Act.put, List.setIfInBounds_toArray, List.set_cons_zero, List.set_cons_succ]
  refine take' 7 (v := ?_) rfl (by kernel_rfl) (by kernel_rfl) (by kernel_rfl) (fun _ _ _ h => h) (Or.inl ⟨by rfl, ?_⟩) (by assumption) ?_
  rotate_left
  · intro w9 hSw
    go_simp
    first | done | with_reducible rfl
  simp only [Act.put, List.setIfInBounds_toArray, List.set_cons_zero, List.set_cons_succ]
  refine take' 8 (v := ?_) rfl (by kernel_rfl) (by kernel_rfl) (by kernel_rfl) (fun _ _ _ h => h) (Or.inl ⟨by rfl, ?_⟩) (by assumption) ?_
  rotate_left
  · intro w9 hSw
    go_simp
    first | done | with_reducible rfl
  simp only [Act.put, List.setIfInBounds_toArray, List.set_cons_zero, List.set_cons_succ]
  refine take' 9 (v := ?_) rfl (by kernel_rfl) (by kernel_rfl) (by kernel_rfl) (fun _ _ _ h => h) (Or.inl ⟨by rfl, ?_⟩) (by assumption) ?_
  rotate_left
  · intro w9 hSw
    go_simp
    first | done | with_reducible rfl
  simp only [Act.put, List.setIfInBounds_toArray, List.set_cons_zero, List.set_cons_succ]
  refine take' 10 (v := ?_) rfl (by kernel_rfl) (by kernel_rfl) (by kernel_rfl) (fun _ _ _ h => h) (Or.inl ⟨by rfl, ?_⟩) (by assumption) ?_
  rotate_left
  · intro w9 hSw
    go_simp
    first | done | with_reducible rfl
  simp only [Act.put, List.setIfInBounds_toArray, List.set_cons_zero, List.set_cons_succ]
  refine wpAnyH_ready (rs := [5]) (by kernel_rfl) (by simp) ?_
  refine cons' rfl (fun KK hKK => ?_)
  go_simp
  refine (GL.out _).mono ?_
  rintro e w9 ⟨rfl, hw9⟩
  rw [hw9]
  clear hw9 w9
  go_wp2_with fail
  refine hKK.out _ _ hHeld ?_
  clear hHeld
  intro hHeld
  clear hKK KK
  try simp only [Act.put, List.setIfInBounds_toArray, List.set_cons_zero, List.set_cons_succ]
  refine take' 11 (v := ?_) rfl (by kernel_rfl) (by kernel_rfl) (by kernel_rfl) (fun _ _ _ h => h) (Or.inl ⟨by rfl, ?_⟩) (by assumption) ?_
  rotate_left
  · intro w9 hSw
    go_simp
    first | done | with_reducible rfl
  simp only [Act.put, List.setIfInBounds_toArray, List.set_cons_zero, List.set_cons_succ]
  refine wpAnyH_ready (rs := [12]) (by kernel_rfl) (by simp) ?_
  refine cons' rfl (fun KK hKK => ?_)
  have P7 := GP.out x7 bX
  rw [hlt.out, SlV.val_some hgR] at P7
  replace P7 := hide' P7
  have fg := fun o => hRX.frozen o
  have q4 := P7.out.1.cells.2.2.2.2.2.1
  rw [SlV.val_some hgW] at q4
  change World.cell? _ _ = some (.slice (some ⟨gW, 0, none⟩) (u.ws.set i _).length V.ws.c) at q4
  rw [List.length_set] at q4
  go_simp
  refine hKK.out _ _ q4 ?_
  clear hHeld
  intro hHeld
  clear hKK KK
  try simp only [Act.put, List.setIfInBounds_toArray, List.set_cons_zero, List.set_cons_succ]
  clear q4 fg
  refine wpAnyH_done (by kernel_rfl) ?_ _
  go_wp2_with fail
  refine bodyPost_end (v := .tuple #[]) (by kernel_rfl) rfl ?_
  rw [HL3.out, HLr.out]
  exact ⟨⟨_, rfl⟩, Chd.mk P7.out.1 (S5.out.trans P7.out.2)⟩
set_option maxHeartbeats 8000000 in
set_option maxRecDepth 100000 in
theorem leave1_1 (ow : Nat → Tg) (b : Nat) (V : SV) (u : US) (n k m : Nat) (x : Int) (hn : n < u.cl.length) (hC : u.cl.length ≤ 1048576) (hw : u.ws.length = 2 * u.tr.length) (hx : (u.cl.getD n default).b1 = x) (hak : (u.cl.getD n default).a1 = k) (hx0 : x ≠ 0) (hxr : InR u x) (hk : k < (u.ws.getD (lstV x) []).length) (hlr : (u.ws.getD (lstV x) []).length ≤ 1048576) (hm : (u.ws.getD (lstV x) []).getD ((u.ws.getD (lstV x) []).length - 1) 0 = m) (hmC : m < u.cl.length) (hsd : (u.cl.getD m default).side x = 1) (w : World) (h : UM w ow b V u) (hr : Rd u)  :
    Calls Try.prog 66 #[.pointer (some ⟨b, 0, none⟩), .int .i64 n, .int .i64 1] w fun e w' => (∃ v, e = .returned v) ∧ Chd ow b V (leaveV u x k) w w' := by
  have hT := hr.nT
  have hlx := lstV_lt hxr
  have hx1 := hxr.1
  have hx2 := hxr.2
  clear hr hxr
  obtain ⟨gC, hgC⟩ := h.rcl.got (by omega)
  have k2 := h.cells.2.2.2.2.1
  rw [SlV.val_some hgC] at k2
  have kb := h.rcl.cell hgC (j := n * 6 + 2) (by omega)
  rw [(clC_at _ _ n h.nlv hn).2.2.1] at kb
  have ka := h.rcl.cell hgC (j := n * 6 + 4) (by omega)
  rw [(clC_at _ _ n h.nlv hn).2.2.2.2.1] at ka
  rw [hx] at kb
  rw [hak] at ka
  have HL : leaveV u x k = { u with cl := u.cl.set m { u.cl.getD m default with a1 := (k : Int) }, ws := u.ws.set (lstV x) (((u.ws.getD (lstV x) []).set k m).take ((u.ws.getD (lstV x) []).length - 1)) } := by
    unfold leaveV
    simp only [hm, Int.toNat_natCast, hsd, CL.setA]
    rfl
  replace HL := hide' HL
  obtain ⟨i, hi⟩ : ∃ i, lstV x = i := ⟨_, rfl⟩
  have GL := hide' (fun w' => list_is x (by omega) (by omega) w')
  have HL2 := HL.out
  rw [hi] at GL HL2 hk hlr hm hlx
  replace HL2 := hide' HL2
  clear HL
  have il : i < u.ws.length := by omega
  clear hw hlx
  obtain ⟨gW, hgW⟩ := h.rws.got (by omega)
  have k3 := h.cells.2.2.2.2.2.1
  rw [SlV.val_some hgW] at k3
  have kw := h.rws.cell hgW (j := i) (by omega)
  rw [wsC_at _ _ i h.nwv il] at kw
  change w.cell? ⟨gW, i, none⟩ = some ((V.wv.getD i default).val (u.ws.getD i []).length) at kw
  have hRR := h.rrow (i := i) il
  obtain ⟨sv, hsv⟩ : ∃ sv, V.wv.getD i default = sv := ⟨_, rfl⟩
  obtain ⟨r, hr⟩ : ∃ r, u.ws.getD i [] = r := ⟨_, rfl⟩
  rw [hr] at hk hlr hm hRR kw
  rw [hsv] at hRR kw
  have HL3 := HL2.out
  rw [hr] at HL3
  replace HL3 := hide' HL3
  clear HL2 hi
  obtain ⟨l, hl⟩ : ∃ l, r.length = l + 1 := ⟨r.length - 1, by omega⟩
  obtain ⟨gR, hgR⟩ := hRR.got (by omega)
  rw [SlV.val_some hgR, hl] at kw
  have hm2 : r.getD l 0 = m := by rw [hl, Nat.add_sub_cancel] at hm; exact hm
  clear hm
  have kl := hRR.cell hgR (j := l) (by omega)
  rw [iv_at (z := (m : Int)) (by rw [← hm2]; simp [List.getD, List.getElem?_eq_getElem (show l < r.length by omega)])] at kl
  have kk := hRR.cell hgR (j := k) (by omega)
  rw [iv_at (z := r.getD k 0) (by simp [List.getD, List.getElem?_eq_getElem (show k < r.length by omega)])] at kk
  have kmb := h.rcl.cell hgC (j := m * 6 + 1) (by omega)
  rw [(clC_at _ _ m h.nlv hmC).2.1] at kmb
  have kma := h.rcl.cell hgC (j := m * 6 + 4) (by omega)
  rw [(clC_at _ _ m h.nlv hmC).2.2.2.2.1] at kma
  have hif : (if (u.cl.getD m default).b0 = x then (0 : Int) else 1) = 1 := by unfold CL.side at hsd; split at hsd <;> simp_all
  have GS := hide' (fun w' (hc : w'.cell? ⟨gC, m * 6 + 1, none⟩ = some (.int .i64 (u.cl.getD m default).b0)) => side_is gC (m * 6) x (u.cl.getD m default).b0 w' hc)
  rw [hif] at GS
  have fzC := fun o => (h.rcl.row hgC).frozen o
  have P1 := h.set_a1 (k : Int) hgC hmC
  generalize (u.cl.getD m default).b0 = mb at kmb GS
  generalize (u.cl.getD m default).a1 = ma at kma
  clear hif hsd
  obtain ⟨t0, ht0⟩ : ∃ t0, r.getD k 0 = t0 := ⟨_, rfl⟩
  rw [ht0] at kk
  clear ht0
  have HH := hide' (And.intro h hRR)
  clear h hRR
  replace P1 := hide' P1
  have HR := hide' (And.intro hr hsv)
  clear hr hsv
  have HX := hide' hx0
  have HX0 : (x == 0) = false := by simp [hx0]
  clear hx0
  have bT : Below w.heap.size w w := Below.refl _ _
  go_enter Try.func66, Try.ntmps66
  go_wp2_with fail
  go_quiet (fail)
  obtain ⟨x1, hqx1⟩ : ∃ wq, w.drewN nq = wq := ⟨_, rfl⟩
  rw [hqx1]
  have bQx1 : Below w.heap.size w x1 := by subst hqx1; exact below_drewN (Below.refl _ _)
  replace k2 := below_cell bQx1 k2
  replace k3 := below_cell bQx1 k3
  replace kw := below_cell bQx1 kw
  replace kl := below_cell bQx1 kl
  replace kk := below_cell bQx1 kk
  replace kmb := below_cell bQx1 kmb
  replace kma := below_cell bQx1 kma
  replace fzC : ∀ o, x1.frozen? ⟨gC, o, none⟩ = false := fun o => by subst hqx1; exact fzC o
  clear hqx1
  replace bT := bT.trans (bQx1.mono bT.size)
  clear bQx1
  go_wp2_with fail
  go_quiet ((go_at_call 36; exact Calls.quiet_of_same (GL.out _)))
  obtain ⟨x2, hqx2⟩ : ∃ wq, x1.drewN nq = wq := ⟨_, rfl⟩
  rw [hqx2]
  have bQx2 : Below x1.heap.size x1 x2 := by subst hqx2; exact below_drewN (Below.refl _ _)
  replace k2 := below_cell bQx2 k2
  replace k3 := below_cell bQx2 k3
  replace kw := below_cell bQx2 kw
  replace kl := below_cell bQx2 kl
  replace kk := below_cell bQx2 kk
  replace kmb := below_cell bQx2 kmb
  replace kma := below_cell bQx2 kma
  replace fzC : ∀ o, x2.frozen? ⟨gC, o, none⟩ = false := fun o => by subst hqx2; exact fzC o
  clear hqx2
  replace bT := bT.trans (bQx2.mono bT.size)
  clear bQx2
  go_wp2_with fail
  go_quiet (fail)
  obtain ⟨x3, hqx3⟩ : ∃ wq, x2.drewN nq = wq := ⟨_, rfl⟩
  rw [hqx3]
  have bQx3 : Below x2.heap.size x2 x3 := by subst hqx3; exact below_drewN (Below.refl _ _)
  replace k2 := below_cell bQx3 k2
  replace k3 := below_cell bQx3 k3
  replace kw := below_cell bQx3 kw
  replace kl := below_cell bQx3 kl
  replace kk := below_cell bQx3 kk
  replace kmb := below_cell bQx3 kmb
  replace kma := below_cell bQx3 kma
  replace fzC : ∀ o, x3.frozen? ⟨gC, o, none⟩ = false := fun o => by subst hqx3; exact fzC o
  clear hqx3
  replace bT := bT.trans (bQx3.mono bT.size)
  clear bQx3
  have h3 := HH.out.1.later bT
  have S3 : Step ow ow w x3 := Step.of_below bT
  clear P1
  obtain ⟨h4, S4⟩ := h3.set_a1 (k : Int) hgC hmC
  obtain ⟨x4, hx4⟩ : ∃ x4, x3.setCell ⟨gC, m * 6 + 4, none⟩ (.int .i64 k) = x4 := ⟨_, rfl⟩
  rw [hx4] at h4 S4
  have S5 := S3.trans S4
  clear h3 S3 S4
  have k3 := h4.cells.2.2.2.2.2.1
  rw [SlV.val_some hgW] at k3
  have hRR := h4.rrow (i := i) il
  change RowAt _ _ _ _ _ (V.wv.getD i default) (u.ws.getD i []).length (iv (u.ws.getD i [])) at hRR
  rw [HR.out.1, HR.out.2] at hRR
  have hog : ow gR = .row i := hRR.2 gR hgR
  have fzR := fun o => (hRR.row hgR).frozen o
  have kl := hRR.cell hgR (j := l) (by omega)
  rw [iv_at (z := (m : Int)) (by rw [← hm2]; simp [List.getD, List.getElem?_eq_getElem (show l < r.length by omega)])] at kl
  have kk2 := hRR.cell hgR (j := k) (by omega)
  rw [iv_at (z := r.getD k 0) (by simp [List.getD, List.getElem?_eq_getElem (show k < r.length by omega)])] at kk2
  generalize r.getD k 0 = t1 at kk2
  clear kk kw
  obtain ⟨x5, hx5⟩ : ∃ x5, x4.setCell ⟨gR, k, none⟩ (.int .i64 m) = x5 := ⟨_, rfl⟩
  have A5 : App ow ow (.row i) x4 x5 := by rw [← hx5]; exact (App.refl ow _ x4).put fun _ => hog
  have R5 : RowAt x5 ow (.row i) 3 1 sv l (iv ((r.set k (m : Int)).take l)) := by
    have := (hRR.set hgR (j := k) (by omega) (.int .i64 m)).cut hgR (k := l) (by omega)
    rw [iv_set, iv_take, hx5] at this
    exact this
  have hcap : l ≤ sv.c := by obtain ⟨_, _, h3, _⟩ := hRR.raw hgR; omega
  have hwr : IntKind.i64.wrap (l : Int) = (l : Int) := by rw [IntKind.wrap_i64]; omega
  have hcut := fun w => cutI (some ⟨gR, 0, none⟩) (l + 1) sv.c l hcap w
  have hlt : ((r.set k (m : Int)).take l).length = l := by simp; omega
  have GP := hide' (fun x (hb : Below x5.heap.size x5 x) => UM.set_ws h4 (w' := x) (ow' := ow) (i := i) (s := sv) (r := (r.set k (m : Int)).take l) il hgW (by rw [hlt]; exact R5.later hb) (A5.later hb))
  have q3 : x5.cell? ⟨b, 3, none⟩ = some (.slice (some ⟨gW, 0, none⟩) u.ws.length V.ws.c) := by have := ((h4.part .st).app A5 (by simp)).2.2.2.2.2.1; rw [SlV.val_some hgW] at this; exact this
  have hRW : RowAt x5 ow .ws _ _ _ _ _ := (h4.part .ws).app A5 (by simp)
  have kg := hRW.cell hgW (j := i) (by show i < u.ws.length * 1; omega)
  rw [wsC_at _ _ i h4.nwv il] at kg
  have hRX := hRW.row hgW
  generalize (V.wv.getD i default).val _ = t2 at kg
  replace S5 := hide' S5
  have HLr := hide' (show r.length - 1 = l by omega)
  replace hlt := hide' hlt
  clear R5 A5 hRR hRW h4 hcap HH
  go_wp2_with fail
  go_region_with (go_at_call 68; refine (GS.out x3.drew (by exact kmb)).mono ?_; rintro e w9 ⟨rfl, rfl⟩)
  all_goals go_wp2_with fail
  have bX : Below x5.heap.size x5 x5.drew := (Below.refl _ _).drew
  replace q3 := below_cell bX q3
  replace kg := below_cell bX kg
  replace hRX := below_row bX hRX
  generalize x5.drew = x6 at bX q3 kg hRX ⊢
  have bD : Below x6.heap.size x6 x6.drew := (Below.refl _ _).drew
  have kq3 := below_cell bD q3
  replace bX := bX.trans (bD.mono bX.size)
  replace kg := below_cell bD kg
  replace hRX := below_row bD hRX
  refine wp_region_held_drew (S := fun w' => w'.cell? ⟨b, 3, none⟩ = some (.slice (some ⟨gW, 0, none⟩) u.ws.length V.ws.c)) (by kernel_rfl) kq3 (fun hHeld => ?_)
  clear kq3
  generalize x6.drew = x7 at bD kg hRX bX hHeld ⊢
  clear bD
  refine take' 0 (v := ?_) rfl (by kernel_rfl) (by kernel_rfl) (by kernel_rfl) (fun _ _ _ h => h) (Or.inl ⟨by rfl, ?_⟩) (by assumption) ?_
  rotate_left
  · intro w9 hSw
    go_simp
    first | done | with_reducible rfl
  simp only [Act.put, List.setIfInBounds_toArray, List.set_cons_zero, List.set_cons_succ]
  refine take' 1 (v := ?_) rfl (by kernel_rfl) (by kernel_rfl) (by kernel_rfl) (fun _ _ _ h => h) (Or.inl ⟨by rfl, ?_⟩) (by assumption) ?_
  rotate_left
  · intro w9 hSw
    go_simp
    first | done | with_reducible rfl
  simp only [Act.put, List.setIfInBounds_toArray, List.set_cons_zero, List.set_cons_succ]
  refine take' 2 (v := ?_) rfl (by kernel_rfl) (by kernel_rfl) (by kernel_rfl) (fun _ _ _ h => h) (Or.inl ⟨by rfl, ?_⟩) (by assumption) ?_
  rotate_left
  · intro w9 hSw
    go_simp
    first | done | with_reducible rfl
  simp only [Act.put, List.setIfInBounds_toArray, List.set_cons_zero, List.set_cons_succ]
  refine take' 3 (v := ?_) rfl (by kernel_rfl) (by kernel_rfl) (by kernel_rfl) (fun _ _ _ h => h) (Or.inl ⟨by rfl, ?_⟩) (by assumption) ?_
  rotate_left
  · intro w9 hSw
    go_simp
    first | done | with_reducible rfl
  simp only [Act.put, List.setIfInBounds_toArray, List.set_cons_zero, List.set_cons_succ]
  refine take' 4 (v := ?_) rfl (by kernel_rfl) (by kernel_rfl) (by kernel_rfl) (fun _ _ _ h => h) (Or.inl ⟨by rfl, ?_⟩) (by assumption) ?_
  rotate_left
  · intro w9 hSw
    go_simp
    first | done | with_reducible rfl
  simp only [Act.put, List.setIfInBounds_toArray, List.set_cons_zero, List.set_cons_succ]
  refine take' 6 (v := ?_) rfl (by kernel_rfl) (by kernel_rfl) (by kernel_rfl) (fun _ _ _ h => h) (Or.inl ⟨by rfl, ?_⟩) (by assumption) ?_
  rotate_left
  · intro w9 hSw
    go_simp
    first | done | with_reducible rfl
  simp only [Act.put, List.setIfInBounds_toArray, List.set_cons_zero, List.set_cons_succ]
  refine take' 7 (v := ?_) rfl (by kernel_rfl) (by kernel_rfl) (by kernel_rfl) (fun _ _ _ h => h) (Or.inl ⟨by rfl, ?_⟩) (by assumption) ?_
  rotate_left
  · intro w9 hSw
    go_simp
    first | done | with_reducible rfl
  simp only [Act.put, List.setIfInBounds_toArray, List.set_cons_zero, List.set_cons_succ]
  refine take' 8 (v := ?_) rfl (by kernel_rfl) (by kernel_rfl) (by kernel_rfl) (fun _ _ _ h => h) (Or.inl ⟨by rfl, ?_⟩) (by assumption) ?_
  rotate_left
  · intro w9 hSw
    go_simp
    first | done | with_reducible rfl
  simp only [Act.put, List.setIfInBounds_toArray, List.set_cons_zero, List.set_cons_succ]
  refine take' 9 (v := ?_) rfl (by kernel_rfl) (by kernel_rfl) (by kernel_rfl) (fun _ _ _ h => h) (Or.inl ⟨by rfl, ?_⟩) (by assumption) ?_
  rotate_left
  · intro w9 hSw
    go_simp
    first | done | with_reducible rfl
  simp only [Act.put, List.setIfInBounds_toArray, List.set_cons_zero, List.set_cons_succ]
  refine take' 10 (v := ?_) rfl (by kernel_rfl) (by kernel_rfl) (by kernel_rfl) (fun _ _ _ h => h) (Or.inl ⟨by rfl, ?_⟩) (by assumption) ?_
  rotate_left
  · intro w9 hSw
    go_simp
    first | done | with_reducible rfl
  simp only [Act.put, List.setIfInBounds_toArray, List.set_cons_zero, List.set_cons_succ]
  refine wpAnyH_ready (rs := [5]) (by kernel_rfl) (by simp) ?_
  refine cons' rfl (fun KK hKK => ?_)
  go_simp
  refine (GL.out _).mono ?_
  rintro e w9 ⟨rfl, hw9⟩
  rw [hw9]
  clear hw9 w9
  go_wp2_with fail
  refine hKK.out _ _ hHeld ?_
  clear hHeld
  intro hHeld
  clear hKK KK
  try simp only [Act.put, List.setIfInBounds_toArray, List.set_cons_zero, List.set_cons_succ]
  refine take' 11 (v := ?_) rfl (by kernel_rfl) (by kernel_rfl) (by kernel_rfl) (fun _ _ _ h => h) (Or.inl ⟨by rfl, ?_⟩) (by assumption) ?_
  rotate_left
  · intro w9 hSw
    go_simp
    first | done | with_reducible rfl
  simp only [Act.put, List.setIfInBounds_toArray, List.set_cons_zero, List.set_cons_succ]
  refine wpAnyH_ready (rs := [12]) (by kernel_rfl) (by simp) ?_
  refine cons' rfl (fun KK hKK => ?_)
  have P7 := GP.out x7 bX
  rw [hlt.out, SlV.val_some hgR] at P7
  replace P7 := hide' P7
  have fg := fun o => hRX.frozen o
  have q4 := P7.out.1.cells.2.2.2.2.2.1
  rw [SlV.val_some hgW] at q4
  change World.cell? _ _ = some (.slice (some ⟨gW, 0, none⟩) (u.ws.set i _).length V.ws.c) at q4
  rw [List.length_set] at q4
  go_simp
  refine hKK.out _ _ q4 ?_
  clear hHeld
  intro hHeld
  clear hKK KK
  try simp only [Act.put, List.setIfInBounds_toArray, List.set_cons_zero, List.set_cons_succ]
  clear q4 fg
  refine wpAnyH_done (by kernel_rfl) ?_ _
  go_wp2_with fail
  refine bodyPost_end (v := .tuple #[]) (by kernel_rfl) rfl ?_
  rw [HL3.out, HLr.out]
  exact ⟨⟨_, rfl⟩, Chd.mk P7.out.1 (S5.out.trans P7.out.2)⟩
end Go.Proofs.Ytfodejhipnmgnaa
