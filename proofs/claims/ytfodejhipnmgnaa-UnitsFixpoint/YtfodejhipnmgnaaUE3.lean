/-
  units: watch.
-/
import Derived.Test.YtfodejhipnmgnaaUE2
namespace Go.Proofs.Ytfodejhipnmgnaa
open Go.RowKit
set_option linter.unusedVariables false
set_option linter.unusedSimpArgs false
def leaveU (u : US) (n s : Nat) : US := if (u.cl.getD n default).by' s = 0 then u else leaveV u ((u.cl.getD n default).by' s) ((u.cl.getD n default).at' s).toNat
def joinU (u : US) (n s : Nat) (x : Int) : US := if s = 0 then joinU0 u n x else joinU1 u n x
def relink (u : US) (n s : Nat) (x : Int) : US := if x = (u.cl.getD n default).by' s then u else joinU (leaveU u n s) n s x
/-- what leave wants -/
def LvOK (u : US) (n s : Nat) : Prop := (u.cl.getD n default).by' s = 0 ∨ (InR u ((u.cl.getD n default).by' s) ∧ ∃ k m : Nat, (u.cl.getD n default).at' s = k ∧ k < (u.ws.getD (lstV ((u.cl.getD n default).by' s)) []).length ∧ (u.ws.getD (lstV ((u.cl.getD n default).by' s)) []).length ≤ 1048576 ∧ (u.ws.getD (lstV ((u.cl.getD n default).by' s)) []).getD ((u.ws.getD (lstV ((u.cl.getD n default).by' s)) []).length - 1) 0 = m ∧ m < u.cl.length)
def JnOK (u : US) (x : Int) : Prop := InR u x ∧ (u.ws.getD (lstV x) []).length ≤ 1048576
def RelOK (u : US) (n s : Nat) (x : Int) : Prop := x = (u.cl.getD n default).by' s ∨ (LvOK u n s ∧ JnOK (leaveU u n s) x)
def swapV (u : US) (n : Nat) (x y : Int) : Int × Int := if x = (u.cl.getD n default).b1 ∨ y = (u.cl.getD n default).b0 then (y, x) else (x, y)
def watchU (u : US) (n : Nat) (x y : Int) : US := relink (relink u n 0 (swapV u n x y).1) n 1 (swapV u n x y).2
/-- what none of this touches -/
structure Lk (u v : US) : Prop where
  tr : v.tr = u.tr
  mks : v.mks = u.mks
  fo : v.fo = u.fo
  fr : v.fr = u.fr
  la : v.la = u.la
  cl : v.cl.length = u.cl.length
  ws : v.ws.length = u.ws.length
theorem Lk.refl (u : US) : Lk u u := ⟨rfl, rfl, rfl, rfl, rfl, rfl, rfl⟩
theorem Lk.trans {u v x : US} (h : Lk u v) (k : Lk v x) : Lk u x := ⟨k.tr.trans h.tr, k.mks.trans h.mks, k.fo.trans h.fo, k.fr.trans h.fr, k.la.trans h.la, k.cl.trans h.cl, k.ws.trans h.ws⟩
theorem leave_lk (u : US) (n s : Nat) : Lk u (leaveU u n s) := by
  unfold leaveU
  split
  · exact Lk.refl _
  · exact ⟨rfl, rfl, rfl, rfl, rfl, by simp [leaveV], by simp [leaveV]⟩
theorem join_lk (u : US) (n s : Nat) (x : Int) : Lk u (joinU u n s x) := by
  unfold joinU
  split
  · unfold joinU0 joinB0 joinA0; split <;> exact ⟨rfl, rfl, rfl, rfl, rfl, by simp, by simp⟩
  · unfold joinU1 joinB1 joinA1; split <;> exact ⟨rfl, rfl, rfl, rfl, rfl, by simp, by simp⟩
theorem relink_lk (u : US) (n s : Nat) (x : Int) : Lk u (relink u n s x) := by
  unfold relink
  split
  · exact Lk.refl _
  · exact (leave_lk u n s).trans (join_lk _ _ _ _)
theorem watch_lk (u : US) (n : Nat) (x y : Int) : Lk u (watchU u n x y) := (relink_lk _ _ _ _).trans (relink_lk _ _ _ _)
theorem Rd.lk {u v : US} (h : Rd u) (k : Lk u v) : Rd v := ⟨by rw [k.tr]; exact h.n0, by rw [k.tr]; exact h.nT, by rw [k.mks]; exact h.nM, by rw [k.tr, k.mks]; exact h.tb, by rw [k.tr]; exact h.t0⟩
theorem InR.lk {u v : US} {x : Int} (h : InR u x) (k : Lk u v) : InR v x := by unfold InR; rw [k.tr]; exact h
set_option maxHeartbeats 2000000 in
set_option maxRecDepth 100000 in
theorem leave_is0 (ow : Nat → Tg) (b : Nat) (V : SV) (u : US) (n : Nat) (hn : n < u.cl.length) (hC : u.cl.length ≤ 1048576) (hw : u.ws.length = 2 * u.tr.length) (hl : LvOK u n 0) (w : World) (h : UM w ow b V u) (hr : Rd u)  :
    Calls Try.prog 66 #[.pointer (some ⟨b, 0, none⟩), .int .i64 n, .int .i64 0] w fun e w' => (∃ v, e = .returned v) ∧ Chd ow b V (leaveU u n 0) w w' := by
  by_cases h0 : (u.cl.getD n default).b0 = 0
  · rw [show leaveU u n 0 = u from if_pos h0]
    exact leave0_no ow b V u n hn hC h0 w h hr
  · rw [show leaveU u n 0 = leaveV u (u.cl.getD n default).b0 ((u.cl.getD n default).a0).toNat from if_neg h0]
    rcases hl with hl | ⟨h1, k, m, h2, h3, h4, h5, h6⟩
    · exact absurd hl h0
    · change (u.cl.getD n default).a0 = k at h2
      rw [h2, Int.toNat_natCast]
      by_cases h7 : (u.cl.getD m default).b0 = (u.cl.getD n default).b0
      · exact leave0_0 ow b V u n k m _ hn hC hw rfl h2 h0 h1 h3 h4 h5 h6 (if_pos h7) w h hr
      · exact leave0_1 ow b V u n k m _ hn hC hw rfl h2 h0 h1 h3 h4 h5 h6 (if_neg h7) w h hr
set_option maxHeartbeats 2000000 in
set_option maxRecDepth 100000 in
theorem join_is0 (ow : Nat → Tg) (b : Nat) (V : SV) (u : US) (n : Nat) (x : Int) (hn : n < u.cl.length) (hC : u.cl.length ≤ 1048576) (hw : u.ws.length = 2 * u.tr.length) (hj : JnOK u x) (w : World) (h : UM w ow b V u) (hr : Rd u)  :
    Calls Try.prog 67 #[.pointer (some ⟨b, 0, none⟩), .int .i64 n, .int .i64 0, .int .i64 x] w fun e w' => (∃ v, e = .returned v) ∧ Chd ow b V (joinU u n 0 x) w w' := by
  exact join0_is ow b V u n x hj.1 hn hC hw hj.2 w h hr
set_option maxHeartbeats 2000000 in
set_option maxRecDepth 100000 in
theorem leave_is1 (ow : Nat → Tg) (b : Nat) (V : SV) (u : US) (n : Nat) (hn : n < u.cl.length) (hC : u.cl.length ≤ 1048576) (hw : u.ws.length = 2 * u.tr.length) (hl : LvOK u n 1) (w : World) (h : UM w ow b V u) (hr : Rd u)  :
    Calls Try.prog 66 #[.pointer (some ⟨b, 0, none⟩), .int .i64 n, .int .i64 1] w fun e w' => (∃ v, e = .returned v) ∧ Chd ow b V (leaveU u n 1) w w' := by
  by_cases h0 : (u.cl.getD n default).b1 = 0
  · rw [show leaveU u n 1 = u from if_pos h0]
    exact leave1_no ow b V u n hn hC h0 w h hr
  · rw [show leaveU u n 1 = leaveV u (u.cl.getD n default).b1 ((u.cl.getD n default).a1).toNat from if_neg h0]
    rcases hl with hl | ⟨h1, k, m, h2, h3, h4, h5, h6⟩
    · exact absurd hl h0
    · change (u.cl.getD n default).a1 = k at h2
      rw [h2, Int.toNat_natCast]
      by_cases h7 : (u.cl.getD m default).b0 = (u.cl.getD n default).b1
      · exact leave1_0 ow b V u n k m _ hn hC hw rfl h2 h0 h1 h3 h4 h5 h6 (if_pos h7) w h hr
      · exact leave1_1 ow b V u n k m _ hn hC hw rfl h2 h0 h1 h3 h4 h5 h6 (if_neg h7) w h hr
set_option maxHeartbeats 2000000 in
set_option maxRecDepth 100000 in
theorem join_is1 (ow : Nat → Tg) (b : Nat) (V : SV) (u : US) (n : Nat) (x : Int) (hn : n < u.cl.length) (hC : u.cl.length ≤ 1048576) (hw : u.ws.length = 2 * u.tr.length) (hj : JnOK u x) (w : World) (h : UM w ow b V u) (hr : Rd u)  :
    Calls Try.prog 67 #[.pointer (some ⟨b, 0, none⟩), .int .i64 n, .int .i64 1, .int .i64 x] w fun e w' => (∃ v, e = .returned v) ∧ Chd ow b V (joinU u n 1 x) w w' := by
  exact join1_is ow b V u n x hj.1 hn hC hw hj.2 w h hr
set_option maxHeartbeats 8000000 in
set_option maxRecDepth 100000 in
theorem watch_is (ow : Nat → Tg) (b : Nat) (V : SV) (u : US) (n : Nat) (x y : Int) (hn : n < u.cl.length) (hC : u.cl.length ≤ 1048576) (hw : u.ws.length = 2 * u.tr.length) (hR0 : RelOK u n 0 (swapV u n x y).1) (hR1 : RelOK (relink u n 0 (swapV u n x y).1) n 1 (swapV u n x y).2) (w : World) (h : UM w ow b V u) (hr : Rd u)  :
    Calls Try.prog 62 #[.pointer (some ⟨b, 0, none⟩), .int .i64 n, .agg #[.int .i64 x, .int .i64 y]] w fun e w' => (∃ v, e = .returned v) ∧ Chd ow b V (watchU u n x y) w w' := by
  obtain ⟨gC, hgC⟩ := h.rcl.got (by omega)
  have k2 := h.cells.2.2.2.2.1
  rw [SlV.val_some hgC] at k2
  have kb := h.rcl.cell hgC (j := n * 6 + 1) (by omega)
  rw [(clC_at _ _ n h.nlv hn).2.1] at kb
  have kc := h.rcl.cell hgC (j := n * 6 + 2) (by omega)
  rw [(clC_at _ _ n h.nlv hn).2.2.1] at kc
  have HW := hide' (And.intro hw hr)
  clear hw hr
  obtain ⟨b0, hb0⟩ : ∃ z, (u.cl.getD n default).b0 = z := ⟨_, rfl⟩
  obtain ⟨b1, hb1⟩ : ∃ z, (u.cl.getD n default).b1 = z := ⟨_, rfl⟩
  rw [hb0] at kb
  rw [hb1] at kc
  have HS : swapV u n x y = if x = b1 ∨ y = b0 then (y, x) else (x, y) := by unfold swapV; rw [hb0, hb1]
  unfold watchU
  have HB := hide' (And.intro hb0 hb1)
  clear hb0 hb1
  by_cases h1 : x = b1
  · skip
    have hx1 : (x == b1) = true := by simp [h1]
    have HS2 : swapV u n x y = (y, x) := by rw [HS, if_pos (Or.inl h1)]
    replace HS := HS2
    clear HS2
    replace h1 := hide' h1
    rw [HS] at hR0 hR1 ⊢
    change RelOK u n 0 y at hR0
    change RelOK (relink u n 0 y) n 1 x at hR1
    change Calls _ _ _ _ (fun e w' => _ ∧ Chd ow b V (relink (relink u n 0 y) n 1 x) w w')
    replace hR0 := hide' hR0
    replace hR1 := hide' hR1
    clear HS
    have hi0 := fun w => ix0 w y x
    have hi1 := fun w => ix1 w y x
    obtain ⟨u2, hu2⟩ : ∃ u2, relink (relink u n 0 y) n 1 x = u2 := ⟨_, rfl⟩
    rw [hu2]
    replace hu2 := hide' hu2
    obtain ⟨wA, hwA⟩ : ∃ wA, w.alloc (.cells #[.int .i64 x, .int .i64 y] 87) = wA := ⟨_, rfl⟩
    have bA : Below w.heap.size w wA := by subst hwA; exact below_alloc _
    have d0 : wA.cell? ⟨w.heap.size, 0, none⟩ = some (.int .i64 x) := by subst hwA; go_simp
    have d1 : wA.cell? ⟨w.heap.size, 1, none⟩ = some (.int .i64 y) := by subst hwA; go_simp
    have rA : Row wA w.heap.size := by subst hwA; exact row_new _ _ _
    replace k2 := below_cell bA k2
    replace kb := below_cell bA kb
    replace kc := below_cell bA kc
    go_enter Try.func62, Try.ntmps62
    go_wp2_with fail
    clear hwA
    go_quiet (fail)
    have bQ : Below w.heap.size w (wA.drewN nq) := below_drewN bA
    obtain ⟨wB, hwB⟩ : ∃ wB, wA.drewN nq = wB := ⟨_, rfl⟩
    replace k2 := below_cell (show Below wA.heap.size wA (wA.drewN nq) from below_drewN (Below.refl _ _)) k2
    replace kb := below_cell (show Below wA.heap.size wA (wA.drewN nq) from below_drewN (Below.refl _ _)) kb
    replace kc := below_cell (show Below wA.heap.size wA (wA.drewN nq) from below_drewN (Below.refl _ _)) kc
    replace d0 := below_cell (show Below wA.heap.size wA (wA.drewN nq) from below_drewN (Below.refl _ _)) d0
    replace d1 := below_cell (show Below wA.heap.size wA (wA.drewN nq) from below_drewN (Below.refl _ _)) d1
    replace rA : Row (wA.drewN nq) w.heap.size := rA
    rw [hwB] at bQ k2 kb kc d0 d1 rA ⊢
    clear hwB bA
    have fzA := fun o => rA.frozen o
    obtain ⟨wC, hwC⟩ : ∃ wC, (wB.setCell ⟨w.heap.size, 0, none⟩ (.int .i64 y)).setCell ⟨w.heap.size, 1, none⟩ (.int .i64 x) = wC := ⟨_, rfl⟩
    have bC : Below w.heap.size w wC := by rw [← hwC]; exact bset (bset bQ (Nat.le_refl _)) (Nat.le_refl _)
    have r2 : Row wC w.heap.size := by rw [← hwC]; exact (rA.setCell _ _).setCell _ _
    have e0 : wC.cell? ⟨w.heap.size, 0, none⟩ = some (.int .i64 y) := by rw [← hwC, cell_set_other (by decide)]; exact cell_set_same d0
    have e1 : wC.cell? ⟨w.heap.size, 1, none⟩ = some (.int .i64 x) := by rw [← hwC]; exact cell_set_same (by rw [cell_set_other (by decide)]; exact d1)
    have hU := h.later bC
    have S0 : Step ow ow w wC := Step.of_below bC
    have k2 := hU.cells.2.2.2.2.1
    rw [SlV.val_some hgC] at k2
    have kb := hU.rcl.cell hgC (j := n * 6 + 1) (by omega)
    rw [(clC_at _ _ n hU.nlv hn).2.1, HB.out.1] at kb
    have HU := hide' hU
    clear hU h
    replace S0 := hide' S0
    go_wp2_with fail
    refine wp_loop_rounds 3 ?_
    by_cases hp : y = b0
    · skip
      have hpB : (y == b0) = true := by simp [hp]
      have hp' := hide' hp
      clear hp
      have hE : relink u n 0 y = u := if_pos (by show y = (u.cl.getD n default).b0; rw [HB.out.1]; exact hp'.out)
      have hR2 := hR1.out
      have hu3 := hu2.out
      rw [hE] at hR2 hu3
      replace hR2 := hide' hR2
      replace hu3 := hide' hu3
      clear hE hR1
      rw [rounds_succ]
      go_wp2_with fail
      have hV1 := HU.out
      have S1 := S0.out
      skip
      have hn1 : n < u.cl.length := hn
      have hC1 := hC
      have HW1 := HW.out
      have hg1 : V.cl.g = some gC := hgC
      have kc1 := hV1.rcl.cell hg1 (j := n * 6 + 2) (by omega)
      rw [(clC_at _ _ n hV1.nlv hn1).2.2.1] at kc1
      have HV := hide' hV1
      clear hV1
      replace S1 := hide' S1
      replace HW1 := hide' HW1
      obtain ⟨c1, hc1⟩ : ∃ c1, (u.cl.getD n default).b1 = c1 := ⟨_, rfl⟩
      rw [hc1] at kc1
      have HC1 := hide' hc1
      clear hc1
      try clear kc
      by_cases hq : x = c1
      · skip
        have hqB : (x == c1) = true := by simp [hq]
        have hq' := hide' hq
        clear hq
        have hE : relink u n 1 x = u := if_pos (by show x = (u.cl.getD n default).b1; rw [HC1.out]; exact hq'.out)
        have HF : u = u2 := by rw [← hu3.out, hE]
        have HX := hide' (show UM wC ow b V u2 from HF ▸ HV.out)
        clear HF hE
        rw [rounds_succ]
        go_wp2_with fail
        rw [rounds_succ]
        go_wp2_with fail
        refine bodyPost_end (v := .tuple #[]) (by kernel_rfl) rfl ?_
        exact ⟨⟨_, rfl⟩, _, _, HX.out, S1.out, rfl⟩
      · skip
        have hqB : (x == c1) = false := by simp [hq]
        have hq' := hide' hq
        clear hq
        have hne : ¬ x = (u.cl.getD n default).by' 1 := by show ¬ x = (u.cl.getD n default).b1; rw [HC1.out]; exact hq'.out
        have hE : relink u n 1 x = joinU (leaveU u n 1) n 1 x := if_neg hne
        have HF := hide' (show joinU (leaveU u n 1) n 1 x = u2 by rw [← hu3.out, hE])
        have hRL := hR2.out.resolve_left hne
        clear hne hE
        have GL2 := hide' (leave_is1 ow b V u n hn1 hC1 HW1.out.1 hRL.1 wC HV.out HW1.out.2)
        have GJ2 := hide' (fun ow1 V1 w1 h1 => join_is1 ow1 b V1 (leaveU u n 1) n x (by rw [(leave_lk u n 1).cl]; exact hn1) (by rw [(leave_lk u n 1).cl]; exact hC1) (by rw [(leave_lk u n 1).ws, (leave_lk u n 1).tr]; exact HW1.out.1) hRL.2 w1 h1 (HW1.out.2.lk (leave_lk u n 1)))
        have HRL2 := hide' hRL
        clear hRL
        rw [rounds_succ]
        go_wp2_with fail
        refine GL2.out.mono ?_
        rintro e v5 ⟨⟨z5, rfl⟩, ow5, V5, h5, S5, e5⟩
        have GJ5 := GJ2.out ow5 V5 v5 h5
        clear h5
        go_wp2_with fail
        refine GJ5.mono ?_
        rintro e v6 ⟨⟨z6, rfl⟩, ow6, V6, h6, S6, e6⟩
        rw [HF.out] at h6
        have HX := hide' (And.intro h6 (And.intro (S1.out.trans (S5.trans S6)) (e6.trans e5)))
        clear h6 S5 S6 e5 e6 GJ5
        go_wp2_with fail
        rw [rounds_succ]
        go_wp2_with fail
        refine bodyPost_end (v := .tuple #[]) (by kernel_rfl) rfl ?_
        exact ⟨⟨_, rfl⟩, _, _, HX.out.1, HX.out.2.1, HX.out.2.2⟩
    · skip
      have hpB : (y == b0) = false := by simp [hp]
      have hp' := hide' hp
      clear hp
      have hne : ¬ y = (u.cl.getD n default).by' 0 := by show ¬ y = (u.cl.getD n default).b0; rw [HB.out.1]; exact hp'.out
      have hE : relink u n 0 y = joinU (leaveU u n 0) n 0 y := if_neg hne
      have hR2 := hR1.out
      have hu3 := hu2.out
      rw [hE] at hR2 hu3
      replace hR2 := hide' hR2
      replace hu3 := hide' hu3
      clear hE hR1
      have hRL := hR0.out.resolve_left hne
      clear hne
      have GL := hide' (leave_is0 ow b V u n hn hC HW.out.1 hRL.1 wC HU.out HW.out.2)
      have GJ := hide' (fun ow1 V1 w1 h1 => join_is0 ow1 b V1 (leaveU u n 0) n y (by rw [(leave_lk u n 0).cl]; exact hn) (by rw [(leave_lk u n 0).cl]; exact hC) (by rw [(leave_lk u n 0).ws, (leave_lk u n 0).tr]; exact HW.out.1) hRL.2 w1 h1 (HW.out.2.lk (leave_lk u n 0)))
      have HRL := hide' hRL
      clear hRL
      rw [rounds_succ]
      go_wp2_with fail
      refine GL.out.mono ?_
      rintro e v1 ⟨⟨z1, rfl⟩, ow1, V1, h1, S1, e1⟩
      have GJ1 := GJ.out ow1 V1 v1 h1
      clear h1
      go_wp2_with fail
      refine GJ1.mono ?_
      rintro e v2 ⟨⟨z2, rfl⟩, ow2, V2, h2, S2, e2⟩
      have eV := hide' (show V2.cl = V.cl from e2.trans e1)
      have S3 := S0.out.trans (S1.trans S2)
      clear S1 S2 e1 e2 GJ1
      have lk := (leave_lk u n 0).trans (join_lk (leaveU u n 0) n 0 y)
      obtain ⟨u1, hu1⟩ : ∃ u1, joinU (leaveU u n 0) n 0 y = u1 := ⟨_, rfl⟩
      have hR3 := hR2.out
      have hu4 := hu3.out
      rw [hu1] at hR3 hu4 h2 lk
      replace hR2 := hide' hR3
      replace hu3 := hide' hu4
      clear hR3 hu4 hu1
      have hn1 : n < u1.cl.length := by rw [lk.cl]; exact hn
      have hC1 : u1.cl.length ≤ 1048576 := by rw [lk.cl]; exact hC
      have HW1 : u1.ws.length = 2 * u1.tr.length ∧ Rd u1 := ⟨by rw [lk.ws, lk.tr]; exact HW.out.1, HW.out.2.lk lk⟩
      have hg1 : V2.cl.g = some gC := by rw [eV.out]; exact hgC
      have kc1 := h2.rcl.cell hg1 (j := n * 6 + 2) (by omega)
      rw [(clC_at _ _ n h2.nlv hn1).2.2.1] at kc1
      have HV := hide' h2
      clear h2
      replace S3 := hide' S3
      replace HW1 := hide' HW1
      obtain ⟨c1, hc1⟩ : ∃ c1, (u1.cl.getD n default).b1 = c1 := ⟨_, rfl⟩
      rw [hc1] at kc1
      have HC1 := hide' hc1
      clear hc1
      by_cases hq : x = c1
      · skip
        have hqB : (x == c1) = true := by simp [hq]
        have hq' := hide' hq
        clear hq
        have hE : relink u1 n 1 x = u1 := if_pos (by show x = (u1.cl.getD n default).b1; rw [HC1.out]; exact hq'.out)
        have HF : u1 = u2 := by rw [← hu3.out, hE]
        have HX := hide' (show UM v2 ow2 b V2 u2 from HF ▸ HV.out)
        clear HF hE
        go_wp2_with fail
        rw [rounds_succ]
        go_wp2_with fail
        rw [rounds_succ]
        go_wp2_with fail
        refine bodyPost_end (v := .tuple #[]) (by kernel_rfl) rfl ?_
        exact ⟨⟨_, rfl⟩, _, _, HX.out, S3.out, eV.out⟩
      · skip
        have hqB : (x == c1) = false := by simp [hq]
        have hq' := hide' hq
        clear hq
        have hne : ¬ x = (u1.cl.getD n default).by' 1 := by show ¬ x = (u1.cl.getD n default).b1; rw [HC1.out]; exact hq'.out
        have hE : relink u1 n 1 x = joinU (leaveU u1 n 1) n 1 x := if_neg hne
        have HF := hide' (show joinU (leaveU u1 n 1) n 1 x = u2 by rw [← hu3.out, hE])
        have hRL := hR2.out.resolve_left hne
        clear hne hE
        have GL2 := hide' (leave_is1 ow2 b V2 u1 n hn1 hC1 HW1.out.1 hRL.1 v2 HV.out HW1.out.2)
        have GJ2 := hide' (fun ow1 V1 w1 h1 => join_is1 ow1 b V1 (leaveU u1 n 1) n x (by rw [(leave_lk u1 n 1).cl]; exact hn1) (by rw [(leave_lk u1 n 1).cl]; exact hC1) (by rw [(leave_lk u1 n 1).ws, (leave_lk u1 n 1).tr]; exact HW1.out.1) hRL.2 w1 h1 (HW1.out.2.lk (leave_lk u1 n 1)))
        have HRL2 := hide' hRL
        clear hRL
        go_wp2_with fail
        rw [rounds_succ]
        go_wp2_with fail
        refine GL2.out.mono ?_
        rintro e v5 ⟨⟨z5, rfl⟩, ow5, V5, h5, S5, e5⟩
        have GJ5 := GJ2.out ow5 V5 v5 h5
        clear h5
        go_wp2_with fail
        refine GJ5.mono ?_
        rintro e v6 ⟨⟨z6, rfl⟩, ow6, V6, h6, S6, e6⟩
        rw [HF.out] at h6
        have HX := hide' (And.intro h6 (And.intro (S3.out.trans (S5.trans S6)) ((e6.trans e5).trans eV.out)))
        clear h6 S5 S6 e5 e6 GJ5
        go_wp2_with fail
        rw [rounds_succ]
        go_wp2_with fail
        refine bodyPost_end (v := .tuple #[]) (by kernel_rfl) rfl ?_
        exact ⟨⟨_, rfl⟩, _, _, HX.out.1, HX.out.2.1, HX.out.2.2⟩
  · by_cases h2 : y = b0
    · skip
      have hx1 : (x == b1) = false := by simp [h1]
      have hx2 : (y == b0) = true := by simp [h2]
      have HS2 : swapV u n x y = (y, x) := by rw [HS, if_pos (Or.inr h2)]
      replace HS := HS2
      clear HS2
      replace h1 := hide' h1
      replace h2 := hide' h2
      rw [HS] at hR0 hR1 ⊢
      change RelOK u n 0 y at hR0
      change RelOK (relink u n 0 y) n 1 x at hR1
      change Calls _ _ _ _ (fun e w' => _ ∧ Chd ow b V (relink (relink u n 0 y) n 1 x) w w')
      replace hR0 := hide' hR0
      replace hR1 := hide' hR1
      clear HS
      have hi0 := fun w => ix0 w y x
      have hi1 := fun w => ix1 w y x
      obtain ⟨u2, hu2⟩ : ∃ u2, relink (relink u n 0 y) n 1 x = u2 := ⟨_, rfl⟩
      rw [hu2]
      replace hu2 := hide' hu2
      obtain ⟨wA, hwA⟩ : ∃ wA, w.alloc (.cells #[.int .i64 x, .int .i64 y] 87) = wA := ⟨_, rfl⟩
      have bA : Below w.heap.size w wA := by subst hwA; exact below_alloc _
      have d0 : wA.cell? ⟨w.heap.size, 0, none⟩ = some (.int .i64 x) := by subst hwA; go_simp
      have d1 : wA.cell? ⟨w.heap.size, 1, none⟩ = some (.int .i64 y) := by subst hwA; go_simp
      have rA : Row wA w.heap.size := by subst hwA; exact row_new _ _ _
      replace k2 := below_cell bA k2
      replace kb := below_cell bA kb
      replace kc := below_cell bA kc
      go_enter Try.func62, Try.ntmps62
      go_wp2_with fail
      clear hwA
      go_quiet (fail)
      have bQ : Below w.heap.size w (wA.drewN nq) := below_drewN bA
      obtain ⟨wB, hwB⟩ : ∃ wB, wA.drewN nq = wB := ⟨_, rfl⟩
      replace k2 := below_cell (show Below wA.heap.size wA (wA.drewN nq) from below_drewN (Below.refl _ _)) k2
      replace kb := below_cell (show Below wA.heap.size wA (wA.drewN nq) from below_drewN (Below.refl _ _)) kb
      replace kc := below_cell (show Below wA.heap.size wA (wA.drewN nq) from below_drewN (Below.refl _ _)) kc
      replace d0 := below_cell (show Below wA.heap.size wA (wA.drewN nq) from below_drewN (Below.refl _ _)) d0
      replace d1 := below_cell (show Below wA.heap.size wA (wA.drewN nq) from below_drewN (Below.refl _ _)) d1
      replace rA : Row (wA.drewN nq) w.heap.size := rA
      rw [hwB] at bQ k2 kb kc d0 d1 rA ⊢
      clear hwB bA
      have fzA := fun o => rA.frozen o
      obtain ⟨wC, hwC⟩ : ∃ wC, (wB.setCell ⟨w.heap.size, 0, none⟩ (.int .i64 y)).setCell ⟨w.heap.size, 1, none⟩ (.int .i64 x) = wC := ⟨_, rfl⟩
      have bC : Below w.heap.size w wC := by rw [← hwC]; exact bset (bset bQ (Nat.le_refl _)) (Nat.le_refl _)
      have r2 : Row wC w.heap.size := by rw [← hwC]; exact (rA.setCell _ _).setCell _ _
      have e0 : wC.cell? ⟨w.heap.size, 0, none⟩ = some (.int .i64 y) := by rw [← hwC, cell_set_other (by decide)]; exact cell_set_same d0
      have e1 : wC.cell? ⟨w.heap.size, 1, none⟩ = some (.int .i64 x) := by rw [← hwC]; exact cell_set_same (by rw [cell_set_other (by decide)]; exact d1)
      have hU := h.later bC
      have S0 : Step ow ow w wC := Step.of_below bC
      have k2 := hU.cells.2.2.2.2.1
      rw [SlV.val_some hgC] at k2
      have kb := hU.rcl.cell hgC (j := n * 6 + 1) (by omega)
      rw [(clC_at _ _ n hU.nlv hn).2.1, HB.out.1] at kb
      have HU := hide' hU
      clear hU h
      replace S0 := hide' S0
      go_wp2_with fail
      refine wp_loop_rounds 3 ?_
      by_cases hp : y = b0
      · skip
        have hpB : (y == b0) = true := by simp [hp]
        have hp' := hide' hp
        clear hp
        have hE : relink u n 0 y = u := if_pos (by show y = (u.cl.getD n default).b0; rw [HB.out.1]; exact hp'.out)
        have hR2 := hR1.out
        have hu3 := hu2.out
        rw [hE] at hR2 hu3
        replace hR2 := hide' hR2
        replace hu3 := hide' hu3
        clear hE hR1
        rw [rounds_succ]
        go_wp2_with fail
        have hV1 := HU.out
        have S1 := S0.out
        skip
        have hn1 : n < u.cl.length := hn
        have hC1 := hC
        have HW1 := HW.out
        have hg1 : V.cl.g = some gC := hgC
        have kc1 := hV1.rcl.cell hg1 (j := n * 6 + 2) (by omega)
        rw [(clC_at _ _ n hV1.nlv hn1).2.2.1] at kc1
        have HV := hide' hV1
        clear hV1
        replace S1 := hide' S1
        replace HW1 := hide' HW1
        obtain ⟨c1, hc1⟩ : ∃ c1, (u.cl.getD n default).b1 = c1 := ⟨_, rfl⟩
        rw [hc1] at kc1
        have HC1 := hide' hc1
        clear hc1
        try clear kc
        by_cases hq : x = c1
        · skip
          have hqB : (x == c1) = true := by simp [hq]
          have hq' := hide' hq
          clear hq
          have hE : relink u n 1 x = u := if_pos (by show x = (u.cl.getD n default).b1; rw [HC1.out]; exact hq'.out)
          have HF : u = u2 := by rw [← hu3.out, hE]
          have HX := hide' (show UM wC ow b V u2 from HF ▸ HV.out)
          clear HF hE
          rw [rounds_succ]
          go_wp2_with fail
          rw [rounds_succ]
          go_wp2_with fail
          refine bodyPost_end (v := .tuple #[]) (by kernel_rfl) rfl ?_
          exact ⟨⟨_, rfl⟩, _, _, HX.out, S1.out, rfl⟩
        · skip
          have hqB : (x == c1) = false := by simp [hq]
          have hq' := hide' hq
          clear hq
          have hne : ¬ x = (u.cl.getD n default).by' 1 := by show ¬ x = (u.cl.getD n default).b1; rw [HC1.out]; exact hq'.out
          have hE : relink u n 1 x = joinU (leaveU u n 1) n 1 x := if_neg hne
          have HF := hide' (show joinU (leaveU u n 1) n 1 x = u2 by rw [← hu3.out, hE])
          have hRL := hR2.out.resolve_left hne
          clear hne hE
          have GL2 := hide' (leave_is1 ow b V u n hn1 hC1 HW1.out.1 hRL.1 wC HV.out HW1.out.2)
          have GJ2 := hide' (fun ow1 V1 w1 h1 => join_is1 ow1 b V1 (leaveU u n 1) n x (by rw [(leave_lk u n 1).cl]; exact hn1) (by rw [(leave_lk u n 1).cl]; exact hC1) (by rw [(leave_lk u n 1).ws, (leave_lk u n 1).tr]; exact HW1.out.1) hRL.2 w1 h1 (HW1.out.2.lk (leave_lk u n 1)))
          have HRL2 := hide' hRL
          clear hRL
          rw [rounds_succ]
          go_wp2_with fail
          refine GL2.out.mono ?_
          rintro e v5 ⟨⟨z5, rfl⟩, ow5, V5, h5, S5, e5⟩
          have GJ5 := GJ2.out ow5 V5 v5 h5
          clear h5
          go_wp2_with fail
          refine GJ5.mono ?_
          rintro e v6 ⟨⟨z6, rfl⟩, ow6, V6, h6, S6, e6⟩
          rw [HF.out] at h6
          have HX := hide' (And.intro h6 (And.intro (S1.out.trans (S5.trans S6)) (e6.trans e5)))
          clear h6 S5 S6 e5 e6 GJ5
          go_wp2_with fail
          rw [rounds_succ]
          go_wp2_with fail
          refine bodyPost_end (v := .tuple #[]) (by kernel_rfl) rfl ?_
          exact ⟨⟨_, rfl⟩, _, _, HX.out.1, HX.out.2.1, HX.out.2.2⟩
      · skip
        exact absurd h2.out hp
    · skip
      have hx1 : (x == b1) = false := by simp [h1]
      have hx2 : (y == b0) = false := by simp [h2]
      have HS2 : swapV u n x y = (x, y) := by rw [HS, if_neg (by rintro (h | h); exact h1 h; exact h2 h)]
      replace HS := HS2
      clear HS2
      replace h1 := hide' h1
      replace h2 := hide' h2
      rw [HS] at hR0 hR1 ⊢
      change RelOK u n 0 x at hR0
      change RelOK (relink u n 0 x) n 1 y at hR1
      change Calls _ _ _ _ (fun e w' => _ ∧ Chd ow b V (relink (relink u n 0 x) n 1 y) w w')
      replace hR0 := hide' hR0
      replace hR1 := hide' hR1
      clear HS
      have hi0 := fun w => ix0 w x y
      have hi1 := fun w => ix1 w x y
      obtain ⟨u2, hu2⟩ : ∃ u2, relink (relink u n 0 x) n 1 y = u2 := ⟨_, rfl⟩
      rw [hu2]
      replace hu2 := hide' hu2
      obtain ⟨wA, hwA⟩ : ∃ wA, w.alloc (.cells #[.int .i64 x, .int .i64 y] 87) = wA := ⟨_, rfl⟩
      have bA : Below w.heap.size w wA := by subst hwA; exact below_alloc _
      have d0 : wA.cell? ⟨w.heap.size, 0, none⟩ = some (.int .i64 x) := by subst hwA; go_simp
      have d1 : wA.cell? ⟨w.heap.size, 1, none⟩ = some (.int .i64 y) := by subst hwA; go_simp
      have rA : Row wA w.heap.size := by subst hwA; exact row_new _ _ _
      replace k2 := below_cell bA k2
      replace kb := below_cell bA kb
      replace kc := below_cell bA kc
      go_enter Try.func62, Try.ntmps62
      go_wp2_with fail
      clear hwA
      go_quiet (fail)
      have bQ : Below w.heap.size w (wA.drewN nq) := below_drewN bA
      obtain ⟨wB, hwB⟩ : ∃ wB, wA.drewN nq = wB := ⟨_, rfl⟩
      replace k2 := below_cell (show Below wA.heap.size wA (wA.drewN nq) from below_drewN (Below.refl _ _)) k2
      replace kb := below_cell (show Below wA.heap.size wA (wA.drewN nq) from below_drewN (Below.refl _ _)) kb
      replace kc := below_cell (show Below wA.heap.size wA (wA.drewN nq) from below_drewN (Below.refl _ _)) kc
      replace d0 := below_cell (show Below wA.heap.size wA (wA.drewN nq) from below_drewN (Below.refl _ _)) d0
      replace d1 := below_cell (show Below wA.heap.size wA (wA.drewN nq) from below_drewN (Below.refl _ _)) d1
      replace rA : Row (wA.drewN nq) w.heap.size := rA
      rw [hwB] at bQ k2 kb kc d0 d1 rA ⊢
      clear hwB bA
      have fzA := fun o => rA.frozen o
      have hU := h.later bQ
      have S0 : Step ow ow w wB := Step.of_below bQ
      have HU := hide' hU
      clear hU h
      replace S0 := hide' S0
      go_wp2_with fail
      refine wp_loop_rounds 3 ?_
      by_cases hp : x = b0
      · skip
        have hpB : (x == b0) = true := by simp [hp]
        have hp' := hide' hp
        clear hp
        have hE : relink u n 0 x = u := if_pos (by show x = (u.cl.getD n default).b0; rw [HB.out.1]; exact hp'.out)
        have hR2 := hR1.out
        have hu3 := hu2.out
        rw [hE] at hR2 hu3
        replace hR2 := hide' hR2
        replace hu3 := hide' hu3
        clear hE hR1
        rw [rounds_succ]
        go_wp2_with fail
        have hV1 := HU.out
        have S1 := S0.out
        skip
        have hn1 : n < u.cl.length := hn
        have hC1 := hC
        have HW1 := HW.out
        have hg1 : V.cl.g = some gC := hgC
        have kc1 := hV1.rcl.cell hg1 (j := n * 6 + 2) (by omega)
        rw [(clC_at _ _ n hV1.nlv hn1).2.2.1] at kc1
        have HV := hide' hV1
        clear hV1
        replace S1 := hide' S1
        replace HW1 := hide' HW1
        obtain ⟨c1, hc1⟩ : ∃ c1, (u.cl.getD n default).b1 = c1 := ⟨_, rfl⟩
        rw [hc1] at kc1
        have HC1 := hide' hc1
        clear hc1
        try clear kc
        by_cases hq : y = c1
        · skip
          have hqB : (y == c1) = true := by simp [hq]
          have hq' := hide' hq
          clear hq
          have hE : relink u n 1 y = u := if_pos (by show y = (u.cl.getD n default).b1; rw [HC1.out]; exact hq'.out)
          have HF : u = u2 := by rw [← hu3.out, hE]
          have HX := hide' (show UM wB ow b V u2 from HF ▸ HV.out)
          clear HF hE
          rw [rounds_succ]
          go_wp2_with fail
          rw [rounds_succ]
          go_wp2_with fail
          refine bodyPost_end (v := .tuple #[]) (by kernel_rfl) rfl ?_
          exact ⟨⟨_, rfl⟩, _, _, HX.out, S1.out, rfl⟩
        · skip
          have hqB : (y == c1) = false := by simp [hq]
          have hq' := hide' hq
          clear hq
          have hne : ¬ y = (u.cl.getD n default).by' 1 := by show ¬ y = (u.cl.getD n default).b1; rw [HC1.out]; exact hq'.out
          have hE : relink u n 1 y = joinU (leaveU u n 1) n 1 y := if_neg hne
          have HF := hide' (show joinU (leaveU u n 1) n 1 y = u2 by rw [← hu3.out, hE])
          have hRL := hR2.out.resolve_left hne
          clear hne hE
          have GL2 := hide' (leave_is1 ow b V u n hn1 hC1 HW1.out.1 hRL.1 wB HV.out HW1.out.2)
          have GJ2 := hide' (fun ow1 V1 w1 h1 => join_is1 ow1 b V1 (leaveU u n 1) n y (by rw [(leave_lk u n 1).cl]; exact hn1) (by rw [(leave_lk u n 1).cl]; exact hC1) (by rw [(leave_lk u n 1).ws, (leave_lk u n 1).tr]; exact HW1.out.1) hRL.2 w1 h1 (HW1.out.2.lk (leave_lk u n 1)))
          have HRL2 := hide' hRL
          clear hRL
          rw [rounds_succ]
          go_wp2_with fail
          refine GL2.out.mono ?_
          rintro e v5 ⟨⟨z5, rfl⟩, ow5, V5, h5, S5, e5⟩
          have GJ5 := GJ2.out ow5 V5 v5 h5
          clear h5
          go_wp2_with fail
          refine GJ5.mono ?_
          rintro e v6 ⟨⟨z6, rfl⟩, ow6, V6, h6, S6, e6⟩
          rw [HF.out] at h6
          have HX := hide' (And.intro h6 (And.intro (S1.out.trans (S5.trans S6)) (e6.trans e5)))
          clear h6 S5 S6 e5 e6 GJ5
          go_wp2_with fail
          rw [rounds_succ]
          go_wp2_with fail
          refine bodyPost_end (v := .tuple #[]) (by kernel_rfl) rfl ?_
          exact ⟨⟨_, rfl⟩, _, _, HX.out.1, HX.out.2.1, HX.out.2.2⟩
      · skip
        have hpB : (x == b0) = false := by simp [hp]
        have hp' := hide' hp
        clear hp
        have hne : ¬ x = (u.cl.getD n default).by' 0 := by show ¬ x = (u.cl.getD n default).b0; rw [HB.out.1]; exact hp'.out
        have hE : relink u n 0 x = joinU (leaveU u n 0) n 0 x := if_neg hne
        have hR2 := hR1.out
        have hu3 := hu2.out
        rw [hE] at hR2 hu3
        replace hR2 := hide' hR2
        replace hu3 := hide' hu3
        clear hE hR1
        have hRL := hR0.out.resolve_left hne
        clear hne
        have GL := hide' (leave_is0 ow b V u n hn hC HW.out.1 hRL.1 wB HU.out HW.out.2)
        have GJ := hide' (fun ow1 V1 w1 h1 => join_is0 ow1 b V1 (leaveU u n 0) n x (by rw [(leave_lk u n 0).cl]; exact hn) (by rw [(leave_lk u n 0).cl]; exact hC) (by rw [(leave_lk u n 0).ws, (leave_lk u n 0).tr]; exact HW.out.1) hRL.2 w1 h1 (HW.out.2.lk (leave_lk u n 0)))
        have HRL := hide' hRL
        clear hRL
        rw [rounds_succ]
        go_wp2_with fail
        refine GL.out.mono ?_
        rintro e v1 ⟨⟨z1, rfl⟩, ow1, V1, h1, S1, e1⟩
        have GJ1 := GJ.out ow1 V1 v1 h1
        clear h1
        go_wp2_with fail
        refine GJ1.mono ?_
        rintro e v2 ⟨⟨z2, rfl⟩, ow2, V2, h2, S2, e2⟩
        have eV := hide' (show V2.cl = V.cl from e2.trans e1)
        have S3 := S0.out.trans (S1.trans S2)
        clear S1 S2 e1 e2 GJ1
        have lk := (leave_lk u n 0).trans (join_lk (leaveU u n 0) n 0 x)
        obtain ⟨u1, hu1⟩ : ∃ u1, joinU (leaveU u n 0) n 0 x = u1 := ⟨_, rfl⟩
        have hR3 := hR2.out
        have hu4 := hu3.out
        rw [hu1] at hR3 hu4 h2 lk
        replace hR2 := hide' hR3
        replace hu3 := hide' hu4
        clear hR3 hu4 hu1
        have hn1 : n < u1.cl.length := by rw [lk.cl]; exact hn
        have hC1 : u1.cl.length ≤ 1048576 := by rw [lk.cl]; exact hC
        have HW1 : u1.ws.length = 2 * u1.tr.length ∧ Rd u1 := ⟨by rw [lk.ws, lk.tr]; exact HW.out.1, HW.out.2.lk lk⟩
        have hg1 : V2.cl.g = some gC := by rw [eV.out]; exact hgC
        have kc1 := h2.rcl.cell hg1 (j := n * 6 + 2) (by omega)
        rw [(clC_at _ _ n h2.nlv hn1).2.2.1] at kc1
        have HV := hide' h2
        clear h2
        replace S3 := hide' S3
        replace HW1 := hide' HW1
        obtain ⟨c1, hc1⟩ : ∃ c1, (u1.cl.getD n default).b1 = c1 := ⟨_, rfl⟩
        rw [hc1] at kc1
        have HC1 := hide' hc1
        clear hc1
        by_cases hq : y = c1
        · skip
          have hqB : (y == c1) = true := by simp [hq]
          have hq' := hide' hq
          clear hq
          have hE : relink u1 n 1 y = u1 := if_pos (by show y = (u1.cl.getD n default).b1; rw [HC1.out]; exact hq'.out)
          have HF : u1 = u2 := by rw [← hu3.out, hE]
          have HX := hide' (show UM v2 ow2 b V2 u2 from HF ▸ HV.out)
          clear HF hE
          go_wp2_with fail
          rw [rounds_succ]
          go_wp2_with fail
          rw [rounds_succ]
          go_wp2_with fail
          refine bodyPost_end (v := .tuple #[]) (by kernel_rfl) rfl ?_
          exact ⟨⟨_, rfl⟩, _, _, HX.out, S3.out, eV.out⟩
        · skip
          have hqB : (y == c1) = false := by simp [hq]
          have hq' := hide' hq
          clear hq
          have hne : ¬ y = (u1.cl.getD n default).by' 1 := by show ¬ y = (u1.cl.getD n default).b1; rw [HC1.out]; exact hq'.out
          have hE : relink u1 n 1 y = joinU (leaveU u1 n 1) n 1 y := if_neg hne
          have HF := hide' (show joinU (leaveU u1 n 1) n 1 y = u2 by rw [← hu3.out, hE])
          have hRL := hR2.out.resolve_left hne
          clear hne hE
          have GL2 := hide' (leave_is1 ow2 b V2 u1 n hn1 hC1 HW1.out.1 hRL.1 v2 HV.out HW1.out.2)
          have GJ2 := hide' (fun ow1 V1 w1 h1 => join_is1 ow1 b V1 (leaveU u1 n 1) n y (by rw [(leave_lk u1 n 1).cl]; exact hn1) (by rw [(leave_lk u1 n 1).cl]; exact hC1) (by rw [(leave_lk u1 n 1).ws, (leave_lk u1 n 1).tr]; exact HW1.out.1) hRL.2 w1 h1 (HW1.out.2.lk (leave_lk u1 n 1)))
          have HRL2 := hide' hRL
          clear hRL
          go_wp2_with fail
          rw [rounds_succ]
          go_wp2_with fail
          refine GL2.out.mono ?_
          rintro e v5 ⟨⟨z5, rfl⟩, ow5, V5, h5, S5, e5⟩
          have GJ5 := GJ2.out ow5 V5 v5 h5
          clear h5
          go_wp2_with fail
          refine GJ5.mono ?_
          rintro e v6 ⟨⟨z6, rfl⟩, ow6, V6, h6, S6, e6⟩
          rw [HF.out] at h6
          have HX := hide' (And.intro h6 (And.intro (S3.out.trans (S5.trans S6)) ((e6.trans e5).trans eV.out)))
          clear h6 S5 S6 e5 e6 GJ5
          go_wp2_with fail
          rw [rounds_succ]
          go_wp2_with fail
          refine bodyPost_end (v := .tuple #[]) (by kernel_rfl) rfl ?_
          exact ⟨⟨_, rfl⟩, _, _, HX.out.1, HX.out.2.1, HX.out.2.2⟩
end Go.Proofs.Ytfodejhipnmgnaa
