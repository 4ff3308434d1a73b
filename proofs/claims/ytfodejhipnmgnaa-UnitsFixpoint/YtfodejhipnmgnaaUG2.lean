/-
  units: Decide and Add.
-/
import Derived.Test.YtfodejhipnmgnaaUQ8
namespace Go.Proofs.Ytfodejhipnmgnaa
open Go.RowKit
set_option linter.unusedVariables false
set_option linter.unusedSimpArgs false
theorem info_w : (Try.prog.info? 89).bind (fun i => i.zero.map fun z => (z, i.size, i.bytes)) = some (.agg #[.slice none 0 0, .int .i64 0, .int .i64 0, .int .i64 0, .int .i64 0, .int .i64 0], 6, 64) := by kernel_rfl
/-- a block that was nobody's will be a clause's -/
theorem UM.retag {w : World} {ow : Nat → Tg} {b g k : Nat} {V : SV} {u : US} (h : UM w ow b V u) (hg : ow g = .oth) (hgl : g < w.heap.size) (hk : u.cl.length ≤ k) : UM w (setO ow g (.lit k)) b V u := by
  have rk : ∀ {t e size s n xs}, t ≠ .oth → RowAt w ow t e size s n xs → RowAt w (setO ow g (.lit k)) t e size s n xs := fun {t e size s n xs} ht h => ⟨h.1, fun x hx => by
    have e := h.2 x hx
    by_cases q : x = g
    · subst q; exact absurd (e.symm.trans hg) ht
    · rw [setO_other q]; exact e⟩
  refine ⟨fun x hx => by rw [setO_other (by omega)]; exact h.hi x hx, h.nlv, h.nwv, fun t => ?_⟩
  cases t with
  | oth => trivial
  | st =>
    obtain ⟨h0, hr⟩ := h.part .st
    exact ⟨by rw [setO_other (fun e => by rw [e, hg] at h0; cases h0)]; exact h0, hr⟩
  | row i => exact fun hi => rk (by simp) (h.part (.row i) hi)
  | lit i => exact fun hi => rk (by simp) (h.part (.lit i) hi)
  | tr => exact rk (by simp) (h.part .tr)
  | mk => exact rk (by simp) (h.part .mk)
  | cl => exact rk (by simp) (h.part .cl)
  | ws => exact rk (by simp) (h.part .ws)
  | fr => exact rk (by simp) (h.part .fr)
  | la => exact rk (by simp) (h.part .la)
/-- behind an append of a clause -/
theorem UM.app_cl {w w' : World} {ow : Nat → Tg} {b gb cap H gL : Nat} {V : SV} {u : US} {l : List Int} (h : UM w ow b V u) (hL : ow gL = .lit u.cl.length) (hcL : w.heap[gL]? = some (.cells (iv l).toArray 3 (0, 0))) (hl : l.length ≤ maxLen)
    (hown : w'.ownsRow 0 89 6 (.slice (some ⟨gb, 0, none⟩) (u.cl.length + 1) cap) (u.cl.length + 1) (clC V.lv u.cl ++ clC [⟨some gL, l.length⟩] [⟨l, 0, 0, 0, 0, 0⟩])) (hg : w.grownBy w' (V.cl.val u.cl.length).ownBlock) (hat : (V.cl.val u.cl.length).ownBlock = some gb ∨ gb = H) (hH : H = w.heap.size) (hlt : gb < w'.heap.size) :
    UM (w'.setCell ⟨b, 2, none⟩ (.slice (some ⟨gb, 0, none⟩) (u.cl.length + 1) cap)) (setO ow gb .cl) b { V with cl := ⟨some gb, cap⟩, lv := V.lv ++ [⟨some gL, l.length⟩] } { u with cl := u.cl ++ [⟨l, 0, 0, 0, 0, 0⟩] } ∧ Chg ow w (w'.setCell ⟨b, 2, none⟩ (.slice (some ⟨gb, 0, none⟩) (u.cl.length + 1) cap)) ∧ ∀ x, x < w.heap.size → setO ow gb .cl x = ow x := by
  obtain ⟨hr, ha⟩ := RowAt.app (h.part .cl) hown hg hat hH hlt
  have hc := (h.part .st).app ha (by simp)
  have hb := hc.1
  have hgL := (Array.getElem?_eq_some_iff.1 hcL).1
  refine ⟨⟨fun x hx => ha.hi h.hi x (by rw [World.size_setCell] at hx; exact hx), by simp [h.nlv], h.nwv, fun t => ?_⟩, (ha.chg (by simp)).st (ow' := ow) (fun _ e => by rw [(h.part .st).1] at e; cases e), ha.same⟩
  cases t with
  | oth => trivial
  | st =>
    obtain ⟨h0, hrw, c0, c1, c2, c3, c4, c5, c6⟩ := hc
    refine ⟨h0, hrw.setCell _ _, ?_, ?_, ?_, ?_, ?_, ?_, ?_⟩
    · rw [cell_set_other (by decide)]; exact c0
    · rw [cell_set_other (by decide)]; exact c1
    · show _ = some (SlV.val ⟨some gb, cap⟩ (u.cl ++ [_]).length); rw [List.length_append]; exact cell_set_same c2
    · rw [cell_set_other (by decide)]; exact c3
    · rw [cell_set_other (by decide)]; exact c4
    · rw [cell_set_other (by decide)]; exact c5
    · rw [cell_set_other (by decide)]; exact c6
  | cl =>
    show RowAt _ _ _ _ _ _ (u.cl ++ [(⟨l, 0, 0, 0, 0, 0⟩ : CL)]).length (clC (V.lv ++ [(⟨some gL, l.length⟩ : SlV)]) (u.cl ++ [(⟨l, 0, 0, 0, 0, 0⟩ : CL)]))
    rw [List.length_append, clC_app _ _ _ _ h.nlv]
    exact hr.st hb (by simp)
  | lit i =>
    intro hi
    have hi' : i < (u.cl ++ [(⟨l, 0, 0, 0, 0, 0⟩ : CL)]).length := hi
    show RowAt _ _ _ _ _ ((V.lv ++ [(⟨some gL, l.length⟩ : SlV)]).getD i default) ((u.cl ++ [(⟨l, 0, 0, 0, 0, 0⟩ : CL)]).getD i default).lits.length (iv ((u.cl ++ [(⟨l, 0, 0, 0, 0, 0⟩ : CL)]).getD i default).lits)
    by_cases hlq : i < u.cl.length
    · have := ((h.part (.lit i)).app ha (by simp)).st (o := 2) (v := .slice (some ⟨gb, 0, none⟩) (u.cl.length + 1) cap) hb (by simp) hlq
      rw [app_getD, app_getD, if_neg (by rw [h.nlv]; omega), if_neg (by omega)]
      exact this
    · obtain rfl : i = u.cl.length := by simp at hi'; omega
      rw [app_getD, app_getD, if_pos h.nlv.symm, if_pos rfl]
      have e1 : w'.heap[gL]? = some (.cells (iv l).toArray 3 (0, 0)) := (ha.block gL hgL (by rw [hL]; simp)).trans hcL
      have e2 : setO ow gb .cl gL = .lit u.cl.length := (ha.same gL hgL).trans hL
      have e3 : gL ≠ b := fun e => by rw [e] at e2; rw [hb] at e2; cases e2
      refine ⟨⟨by simp [iv_length], Or.inr ⟨gL, l.length, _, by simp [SlV.val, SlV.at'], Nat.zero_le _, (heap_setCell_other _ _ _ _ e3).trans e1, Nat.le_refl _, hl, by simp [iv_length], ?_⟩⟩, fun g hg => by cases hg; exact e2⟩
      show (iv l).take (l.length * 1) = iv l
      exact List.take_of_length_le (by rw [iv_length]; omega)
  | row i => exact ((h.part (.row i)).app ha (by simp)).st hb (by simp)
  | tr => exact ((h.part .tr).app ha (by simp)).st hb (by simp)
  | mk => exact ((h.part .mk).app ha (by simp)).st hb (by simp)
  | ws => exact ((h.part .ws).app ha (by simp)).st hb (by simp)
  | fr => exact ((h.part .fr).app ha (by simp)).st hb (by simp)
  | la => exact ((h.part .la).app ha (by simp)).st hb (by simp)
set_option maxHeartbeats 4000000 in
set_option maxRecDepth 100000 in
theorem decide_is (ow : Nat → Tg) (b : Nat) (V : SV) (u : US) (x : Int) (h1 : -9223372036854775808 ≤ x) (h2 : x ≤ 9223372036854775807) (hI : Iv u) (w : World) (h : UM w ow b V u) :
    Calls Try.prog 29 #[.pointer (some ⟨b, 0, none⟩), .int .i64 x] w fun e w' => (∃ v, e = .returned v) ∧ Chd ow b V (decF u x) w w' := by
  have GL := hide' (isLit_is ow b V u x h1 h2 w h hI.rd)
  change Hid (Calls _ _ _ _ fun e w' => e = .returned (.bool (isLV u x)) ∧ _) at GL
  have HH := hide' (And.intro h hI)
  by_cases hl : isLV u x = true
  · rw [hl] at GL
    have hx := (isLV_iff u x).1 hl
    have GT := hide' (fun w' (hb : Below w.heap.size w w') => truth_is ow b V u x hx.2 w' (h.later hb) hI.rd)
    by_cases ht : trv u x = 0
    · rw [ht] at GT
      have e : decF u x = putU u x (lvlV u + 1) (-1) := by unfold decF; rw [if_pos ⟨hl, ht⟩]
      rw [e]
      have hlv := hI.tr.lvl0
      have hM := hI.rd.nM
      have hroom : u.mks.length < 262144 := by have := hI.tr.room hx ht; have := hI.rd.nT; omega
      have GV := hide' (fun w' (hb : Below w.heap.size w w') => level_is ow b V u w' (h.later hb) hI.rd)
      have GP := hide' (fun w' (hb : Below w.heap.size w w') => put_is ow b V u x (lvlV u + 1) (-1) hx ⟨by omega, by omega⟩ w' (h.later hb) hI.rd hroom)
      obtain ⟨lv, hlv2⟩ : ∃ l, lvlV u = l := ⟨_, rfl⟩
      rw [hlv2] at GV GP hlv ⊢
      generalize putU u x (lv + 1) (-1) = y at GP ⊢
      clear e hl h hI hlv2 HH hx ht h1 h2
      go_enter Try.func29, Try.ntmps29
      go_wp2_with fail
      refine GL.out.mono ?_
      rintro e w1 ⟨rfl, b1⟩
      go_wp2_with fail
      refine (GT.out _ b1).mono ?_
      rintro e x1 ⟨rfl, hx1⟩
      rw [hx1]
      clear hx1 x1 GT GL
      go_wp2_with fail
      refine (GV.out _ b1).mono ?_
      rintro e w2 ⟨rfl, b2⟩
      have b3 := b1.trans (b2.mono b1.size)
      have hw9 : IntKind.i64.wrap (lv + 1) = lv + 1 := by rw [IntKind.wrap_i64]; omega
      have GP2 := GP.out w2 b3
      replace b3 := hide' b3
      clear GP GV b1 b2
      go_wp2_with fail
      refine GP2.mono ?_
      rintro e w4 ⟨⟨z, rfl⟩, ow4, V4, h4, S4, e4⟩
      have HX := hide' (Chd.mk (V := V) h4 ((Step.of_below b3.out).trans S4) e4)
      clear h4 S4 e4 GP2
      go_wp2
      first | exact ⟨⟨_, rfl⟩, HX.out⟩ | (go_ret; exact ⟨⟨_, rfl⟩, HX.out⟩)
    · have e : decF u x = u := by unfold decF; rw [if_neg (fun q => ht q.2)]
      rw [e]
      have htb : (trv u x == 0) = false := by simp [ht]
      have ht' := hide' ht
      obtain ⟨t9, ht9⟩ : ∃ t, trv u x = t := ⟨_, rfl⟩
      rw [ht9] at GT htb
      clear ht e hl h hI ht9 hx ht' h1 h2
      go_enter Try.func29, Try.ntmps29
      go_wp2_with fail
      refine GL.out.mono ?_
      rintro e w1 ⟨rfl, b1⟩
      go_wp2_with fail
      refine (GT.out _ b1).mono ?_
      rintro e x1 ⟨rfl, hx1⟩
      rw [hx1]
      clear hx1 x1 GT GL
      go_wp2
      go_ret
      exact ⟨⟨_, rfl⟩, Chd.mk (HH.out.1.later b1) (Step.of_below b1)⟩
  · have e : decF u x = u := by unfold decF; rw [if_neg (fun q => hl q.1)]
    rw [e]
    have hl2 : isLV u x = false := by simpa using hl
    rw [hl2] at GL
    clear e hl hl2 h hI h1 h2
    go_enter Try.func29, Try.ntmps29
    go_wp2_with fail
    refine GL.out.mono ?_
    rintro e w1 ⟨rfl, b1⟩
    go_wp2
    go_ret
    exact ⟨⟨_, rfl⟩, Chd.mk (HH.out.1.later b1) (Step.of_below b1)⟩
set_option maxHeartbeats 16000000 in
set_option maxRecDepth 100000 in
theorem add_is (ow : Nat → Tg) (b : Nat) (V : SV) (u : US) (a : Option Addr) (n c : Nat) (f : Nat → Int) (hn : n ≤ 17592186044416) (hI : Iv u) (hC : u.cl.length < 1048576) (w : World) (h : UM w ow b V u) (hA : LitsAt w a n f) :
    Calls Try.prog 27 #[.pointer (some ⟨b, 0, none⟩), .slice a n c] w fun e w' => (∃ v, e = .returned v) ∧ ∃ ow' V', UM w' ow' b V' (addF u (ofF n f)) ∧ Step ow ow' w w' := by
  have HM := hide' maxLen_is
  obtain ⟨ii, hii, hiz, his, hib⟩ := info_parts info_i
  obtain ⟨wi, hwi, hwz, hws, hwb⟩ := info_parts info_w
  obtain ⟨n0, hn0⟩ : ∃ n, u.tr.length = n + 1 := ⟨u.tr.length - 1, by have := hI.rd.n0; omega⟩
  obtain ⟨g0, hg0⟩ := h.rtr.got hI.rd.n0
  have c0 := h.cells.2.2.1
  rw [SlV.val_some hg0, hn0] at c0
  have GN := hide' (isNoneM b g0 n0 V.tr.c w c0)
  clear c0 hg0 hn0
  have GL := hide' (fun w' (hb : Below w.heap.size w w') i (hi : i < n) => show Calls Try.prog 52 #[.pointer (some ⟨b, 0, none⟩), .int .i64 (f i)] w' fun e w'' => e = .returned (.bool (isLV u (f i))) ∧ Below w'.heap.size w' w'' from isLit_is ow b V u (f i) (hA.2.1 i hi).1 (hA.2.1 i hi).2 w' (h.later hb) hI.rd)
  have GC := hide' (fun w' (hb : Below w.heap.size w w') => copied_is a n c f hn w' (hA.later hb))
  have HH := hide' (And.intro h (And.intro hI hA))
  have k2 := h.cells.2.2.2.2.1
  change w.cell? _ = some (.slice V.cl.at' u.cl.length V.cl.c) at k2
  obtain ⟨N, hN⟩ : ∃ N, u.cl.length = N := ⟨_, rfl⟩
  rw [hN] at k2 hC
  have HN := hide' hN
  clear h hI hA hN
  go_enter Try.func27, Try.ntmps27
  go_wp2_with fail
  refine GN.out.mono ?_
  rintro e w0 ⟨rfl, b0⟩
  clear GN
  have hB0 := hide' b0
  clear b0
  go_wp2_with fail
  go_loopw [13] (fun vi wr => ∃ k : Nat, k ≤ n ∧ vi = .int .i64 k ∧ Below w.heap.size w wr ∧ ∀ i, i < k → isLV u (f i) = true) (fun vi _ => n - (intOf vi).toNat)
  case atStart => exact ⟨0, Nat.zero_le _, rfl, hB0.out, fun i hi => absurd hi (by omega)⟩
  case round =>
    clear hB0
    obtain ⟨k, hk, rfl, hB, hal⟩ := hrel
    by_cases hlt : k < n
    · obtain ⟨bb, off, rfl, hcell⟩ := HH.out.2.2.2.2 (by omega)
      have ck := below_cell hB (hcell k hlt)
      have i1 : (k : Int) < (n : Int) := by omega
      have GL2 := hide' (GL.out wr hB k hlt)
      obtain ⟨y, hy⟩ : ∃ y, f k = y := ⟨_, rfl⟩
      rw [hy] at ck GL2
      cases hv : isLV u y with
      | true =>
        rw [hv] at GL2
        have HAL := hide' (show ∀ i, i < k + 1 → isLV u (f i) = true from fun i hi => by rcases Nat.lt_or_ge i k with e | e; exact hal i e; (obtain rfl : i = k := by omega); rw [hy]; exact hv)
        clear hal hv hy hcell
        replace hB := hide' hB
        go_wp2_with fail
        refine GL2.out.mono ?_
        rintro e w1 ⟨rfl, b1⟩
        go_wp2
        go_roundw
        case rel => exact ⟨k + 1, by omega, by go_num, hB.out.trans (b1.mono hB.out.size), HAL.out⟩
        case measure => simp only [intOf]; omega
      | false =>
        rw [hv] at GL2
        have HE := hide' (show addF u (ofF n f) = u from by unfold addF; rw [if_neg]; intro q; have := List.all_eq_true.1 q y (by rw [← hy]; exact List.mem_map.2 ⟨k, List.mem_range.2 hlt, rfl⟩); rw [hv] at this; cases this)
        clear hal hv hy hcell
        replace hB := hide' hB
        go_wp2_with fail
        refine GL2.out.mono ?_
        rintro e w1 ⟨rfl, b1⟩
        go_wp2
        rw [HE.out]
        have b2 := hB.out.trans (b1.mono hB.out.size)
        refine bodyPost_ret (v := .tuple #[.int .i64 0, .int .i64 180]) (by rw [results_tt rfl]; go_simp) rfl ?_
        exact ⟨⟨_, rfl⟩, ow, V, HH.out.1.later b2, Step.of_below b2⟩
    · obtain rfl : k = n := by omega
      have i1 : ¬ (k : Int) < (k : Int) := by omega
      have HE := hide' (show addF u (ofF k f) = addU u (ofF k f) from by unfold addF; rw [if_pos]; rw [List.all_eq_true]; intro y hy; obtain ⟨i, hi, rfl⟩ := List.mem_map.1 hy; exact hal i (List.mem_range.1 hi))
      clear hal
      have k2r := below_cell hB k2
      have i2 : ¬ (N : Int) ≥ 1048576 := by omega
      clear k2
      have HB := hide' hB
      clear hB
      go_wp2_with fail
      have h5 := HH.out.1.later HB.out
      clear k2r
      have k6 := h5.cells.2.2.2.2.1
      have bT : Below wr.heap.size wr wr := Below.refl _ _
      have bD : Below wr.heap.size wr wr.drew := (Below.refl _ _).drew
      replace bT := bT.trans (bD.mono bT.size)
      replace h5 := h5.later bD
      replace k6 := below_cell bD k6
      refine wp_region_held_drew (S := fun w' => True) (by kernel_rfl) trivial (fun hHeld => ?_)
      generalize wr.drew = w9 at bD h5 k6 bT hHeld ⊢
      clear bD
      refine take' 0 (v := ?_) rfl (by kernel_rfl) (by kernel_rfl) (by kernel_rfl) (fun _ _ _ h => h) (Or.inl ⟨by rfl, ?_⟩) (by assumption) ?_
      rotate_left
      · intro w9 hSw
        go_simp
        first | done | with_reducible rfl
      simp only [Act.put, List.setIfInBounds_toArray, List.set_cons_zero, List.set_cons_succ]
      refine take' 1 (v := ?_) rfl (by kernel_rfl) (by kernel_rfl) (by kernel_rfl) (fun _ _ _ h => h) (Or.inl ⟨by rfl, ?_⟩) (by assumption) ?_
      rotate_left
      · intro w9 hSw
        go_simp
        first | done | with_reducible rfl
      simp only [Act.put, List.setIfInBounds_toArray, List.set_cons_zero, List.set_cons_succ]
      refine take' 2 (v := ?_) rfl (by kernel_rfl) (by kernel_rfl) (by kernel_rfl) (fun _ _ _ h => h) (Or.inl ⟨by rfl, ?_⟩) (by assumption) ?_
      rotate_left
      · intro w9 hSw
        go_simp
        first | done | with_reducible rfl
      simp only [Act.put, List.setIfInBounds_toArray, List.set_cons_zero, List.set_cons_succ]
      refine take' 3 (v := ?_) rfl (by kernel_rfl) (by kernel_rfl) (by kernel_rfl) (fun _ _ _ h => h) (Or.inl ⟨by rfl, ?_⟩) (by assumption) ?_
      rotate_left
      · intro w9 hSw
        go_simp
        first | done | with_reducible rfl
      simp only [Act.put, List.setIfInBounds_toArray, List.set_cons_zero, List.set_cons_succ]
      refine take' 5 (v := ?_) rfl (by kernel_rfl) (by kernel_rfl) (by kernel_rfl) (fun _ _ _ h => h) (Or.inl ⟨by rfl, ?_⟩) (by assumption) ?_
      rotate_left
      · intro w9 hSw
        go_simp
        first | done | with_reducible rfl
      simp only [Act.put, List.setIfInBounds_toArray, List.set_cons_zero, List.set_cons_succ]
      refine wpAnyH_ready (rs := [4, 6]) (by kernel_rfl) (by simp) ?_
      refine consT rfl (fun KK hKK => ?_) ?_
      · skip
        go_simp
        refine hKK.out _ _ hHeld ?_
        clear hHeld
        intro hHeld
        clear hKK KK
        try simp only [Act.put, List.setIfInBounds_toArray, List.set_cons_zero, List.set_cons_succ]
        refine wpAnyH_ready (rs := [6]) (by kernel_rfl) (by simp) ?_
        refine cons' rfl (fun KK hKK => ?_)
        have GC2 := GC.out w9 (HB.out.trans (bT.mono HB.out.size))
        go_simp
        refine GC2.mono ?_
        rintro e wc ⟨gL, rfl, hgL, hgs, bc⟩
        have hgn := hide' (And.intro hgL (show wr.heap.size ≤ gL from Nat.le_trans bT.size hgs))
        clear hgL hgs GC2
        have bC := bc
        replace bT := bT.trans (bC.mono bT.size)
        replace h5 := h5.later bC
        replace k6 := below_cell bC k6
        clear bC bc
        go_wp2_with fail
        refine hKK.out _ _ hHeld ?_
        clear hHeld
        intro hHeld
        clear hKK KK
        try simp only [Act.put, List.setIfInBounds_toArray, List.set_cons_zero, List.set_cons_succ]
        refine take' 7 (v := ?_) rfl (by kernel_rfl) (by kernel_rfl) (by kernel_rfl) (fun _ _ _ h => h) (Or.inl ⟨by rfl, ?_⟩) (by assumption) ?_
        rotate_left
        · intro w9 hSw
          go_simp
          first | done | with_reducible rfl
        simp only [Act.put, List.setIfInBounds_toArray, List.set_cons_zero, List.set_cons_succ]
        refine wpAnyH_ready (rs := [8]) (by kernel_rfl) (by simp) ?_
        refine cons' rfl (fun KK hKK => ?_)
        go_simp
        have hnew := heap_alloc_new wc (.cells #[.slice (some ⟨gL, 0, none⟩) k k, .int .i64 0, .int .i64 0, .int .i64 0, .int .i64 0, .int .i64 0] 89)
        have b3 := below_alloc (w := wc) (.cells #[.slice (some ⟨gL, 0, none⟩) k k, .int .i64 0, .int .i64 0, .int .i64 0, .int .i64 0, .int .i64 0] 89)
        obtain ⟨na, hna⟩ : ∃ na, wc.heap.size = na := ⟨_, rfl⟩
        rw [hna] at hnew
        try rw [hna]
        obtain ⟨wd, hwd⟩ : ∃ wd, wc.alloc (.cells #[.slice (some ⟨gL, 0, none⟩) k k, .int .i64 0, .int .i64 0, .int .i64 0, .int .i64 0, .int .i64 0] 89) = wd := ⟨_, rfl⟩
        rw [hwd] at hnew b3 ⊢
        have hgd := hide' (And.intro ((b3.block gL (Array.getElem?_eq_some_iff.1 hgn.out.1).1).trans hgn.out.1) hgn.out.2)
        replace hnew : wd.heap[na]? = _ := hnew
        replace bT := bT.trans (b3.mono bT.size)
        replace h5 := h5.later b3
        replace k6 := below_cell b3 k6
        clear b3 hna hwd hgn
        refine hKK.out _ _ hHeld ?_
        clear hHeld
        intro hHeld
        clear hKK KK
        try simp only [Act.put, List.setIfInBounds_toArray, List.set_cons_zero, List.set_cons_succ]
        refine wpAnyH_ready (rs := [9]) (by kernel_rfl) (by simp) ?_
        refine cons' rfl (fun KK hKK => ?_)
        have hgl := (Array.getElem?_eq_some_iff.1 hgd.out.1).1
        have hoth : ow gL = .oth := HH.out.1.hi gL (Nat.le_trans HB.out.size hgd.out.2)
        have h6 := h5.retag (k := u.cl.length) hoth hgl (Nat.le_refl _)
        have hO := h6.rcl.1
        have hl1 : u.cl.length + 1 ≤ maxLen := by have := HM.out; have := HN.out; omega
        have hl2 : (u.cl.length + 1) * 64 ≤ 140737488355328 := by have := HN.out; omega
        refine step_append_lies _ (by rfl) _ _ _ (by rfl) 0 89 wi _ 6 64 Try.underlying64 hwi hwz hws hwb rfl (by omega) (V.cl.val u.cl.length) u.cl.length (clC V.lv u.cl) (by rfl) hO ⟨na, 0, none⟩ 1 1 [.slice (some ⟨gL, 0, none⟩) k k, .int .i64 0, .int .i64 0, .int .i64 0, .int .i64 0, .int .i64 0] (by rfl) (by rfl) (World.news_of_block (cs := #[.slice (some ⟨gL, 0, none⟩) k k, .int .i64 0, .int .i64 0, .int .i64 0, .int .i64 0, .int .i64 0]) (t := 89) (fr := (0, 0)) hnew) (by simp [Value.oneCell']) (by omega) hl1 hl2 (Nat.zero_le _) _ rfl ?_
        intro gb cap w8 hown hgrow hat hlt9
        have hkl : (ofF k f).length = k := ofF_length k f
        have RR := UM.app_cl (l := ofF k f) h6 (setO_same _ _ _) hgd.out.1 (by have := HM.out; omega) (by rw [show clC [(⟨some gL, (ofF k f).length⟩ : SlV)] [(⟨ofF k f, 0, 0, 0, 0, 0⟩ : CL)] = [.slice (some ⟨gL, 0, none⟩) k k, .int .i64 0, .int .i64 0, .int .i64 0, .int .i64 0, .int .i64 0] from by simp [clC, SlV.val, SlV.at', hkl]]; exact hown) hgrow hat rfl hlt9
        have HA := (RowAt.app h6.rcl hown hgrow hat rfl hlt9).2
        have P4 := (h6.part .st).app HA (by simp)
        have q2 := P4.2.2.2.2.1
        have fz := fun o => P4.2.1.frozen o
        have S6 : Step ow (setO ow gL (.lit u.cl.length)) w _ := ⟨Chg.of_below (HB.out.trans (bT.mono HB.out.size)), fun x hx => setO_other (fun e => by have := hgd.out.2; have := HB.out.size; omega)⟩
        have HX := hide' (show _ ∧ Step ow _ w _ from ⟨RR.1, S6.trans ⟨RR.2.1, RR.2.2⟩⟩)
        clear RR HA P4 S6 hown hgrow hat hlt9 hO hl1 hl2 hnew k6 h6 hoth hgl hkl
        refine hKK.out _ _ trivial ?_
        clear hHeld
        intro hHeld
        clear hKK KK
        try simp only [Act.put, List.setIfInBounds_toArray, List.set_cons_zero, List.set_cons_succ]
        clear h5 bT
        refine take' 10 (v := ?_) rfl (by kernel_rfl) (by kernel_rfl) (by kernel_rfl) (fun _ _ _ h => h) (Or.inl ⟨by rfl, ?_⟩) (by assumption) ?_
        rotate_left
        · intro w9 hSw
          go_simp
          first | done | with_reducible rfl
        simp only [Act.put, List.setIfInBounds_toArray, List.set_cons_zero, List.set_cons_succ]
        refine take' 11 (v := ?_) rfl (by kernel_rfl) (by kernel_rfl) (by kernel_rfl) (fun _ _ _ h => h) (Or.inl ⟨by rfl, ?_⟩) (by assumption) ?_
        rotate_left
        · intro w9 hSw
          go_simp
          first | done | with_reducible rfl
        simp only [Act.put, List.setIfInBounds_toArray, List.set_cons_zero, List.set_cons_succ]
        refine wpAnyH_ready (rs := [12]) (by kernel_rfl) (by simp) ?_
        refine cons' rfl (fun KK hKK => ?_)
        go_simp
        refine hKK.out _ _ trivial ?_
        clear hHeld
        intro hHeld
        clear hKK KK
        try simp only [Act.put, List.setIfInBounds_toArray, List.set_cons_zero, List.set_cons_succ]
        clear q2 fz
        refine wpAnyH_done (by kernel_rfl) ?_ _
        clear hHeld
        obtain ⟨wX, hwX⟩ : ∃ wX, w8.setCell ⟨b, 2, none⟩ (.slice (some ⟨gb, 0, none⟩) (u.cl.length + 1) cap) = wX := ⟨_, rfl⟩
        rw [hwX] at HX ⊢
        clear hwX
        have h7 := HX.out.1
        have k5 := h7.cells.2.2.2.2.2.2.2.1
        obtain ⟨wE, hwE⟩ : ∃ wE, wX.alloc (.cells #[.int .i64 N] 3) = wE := ⟨_, rfl⟩
        have hnew := heap_alloc_new wX (.cells #[.int .i64 N] 3)
        have bE := below_alloc (w := wX) (.cells #[.int .i64 N] 3)
        rw [hwE] at hnew bE
        have h8 := h7.later bE
        have hO := h8.rfr.1
        have hfl := HH.out.2.1.fr_len
        have hCC := HH.out.2.1.wo.cl
        have k5E := below_cell bE k5
        have hl1 : u.fr.length + 1 ≤ maxLen := by have := HM.out; omega
        have hl2 : (u.fr.length + 1) * 8 ≤ 140737488355328 := by omega
        replace hfl := hide' hfl
        replace hCC := hide' hCC
        go_wp2_with (at_builtin; (try rw [hwE]); refine wpList_append_lies _ (by rfl) _ _ _ (by rfl) 0 3 ii _ 1 8 Try.underlying40 hii hiz his hib rfl (by omega) (V.fr.val u.fr.length) u.fr.length (iv u.fr) (by rfl) hO ⟨wX.heap.size, 0, none⟩ 1 1 [.int .i64 N] (by rfl) (by rfl) (World.news_of_block (cs := #[.int .i64 N]) (t := 3) (fr := (0, 0)) hnew) (by simp [Value.oneCell']) (by omega) hl1 hl2 (Nat.zero_le _) wE.heap.size rfl ?_)
        intro gc cap2 wF hown hgrow hat hlt9
        have RR := UM.app_fr (zs := [(N : Int)]) h8 hown rfl hgrow hat rfl hlt9
        have P4 := (h8.part .st).app (RowAt.app h8.rfr hown hgrow hat rfl hlt9).2 (by simp)
        have q5 := P4.2.2.2.2.2.2.2.1
        have fz := fun o => P4.2.1.frozen o
        have HY := hide' (show _ ∧ Step ow _ w _ from ⟨RR.1, HX.out.2.trans ((Step.of_below bE).trans ⟨RR.2.1, RR.2.2⟩)⟩)
        clear RR P4 hown hgrow hat hlt9 hO hl1 hl2 hnew h8 h7 k5 k5E bE hwE
        go_wp2_with fail
        have HZ := hide' (show ({ { u with cl := u.cl ++ [(⟨ofF k f, 0, 0, 0, 0, 0⟩ : CL)] } with fr := u.fr ++ [(N : Int)] } : US) = addF u (ofF k f) from by rw [HE.out, ← HN.out]; rfl)
        refine bodyPost_ret (v := .tuple #[.int .i64 N, .int .i64 0]) (by rw [results_tt rfl]; go_simp) rfl ?_
        rw [← HZ.out]
        refine ⟨⟨_, rfl⟩, ?_⟩
        first | exact ⟨_, ⟨_, HY.out.1⟩, HY.out.2⟩ | exact ⟨_, _, HY.out.1, HY.out.2⟩
      refine consT rfl (fun KK hKK => ?_) ?_
      · skip
        have GC2 := GC.out w9 (HB.out.trans (bT.mono HB.out.size))
        go_simp
        refine GC2.mono ?_
        rintro e wc ⟨gL, rfl, hgL, hgs, bc⟩
        have hgn := hide' (And.intro hgL (show wr.heap.size ≤ gL from Nat.le_trans bT.size hgs))
        clear hgL hgs GC2
        have bC := bc
        replace bT := bT.trans (bC.mono bT.size)
        replace h5 := h5.later bC
        replace k6 := below_cell bC k6
        clear bC bc
        go_wp2_with fail
        refine hKK.out _ _ hHeld ?_
        clear hHeld
        intro hHeld
        clear hKK KK
        try simp only [Act.put, List.setIfInBounds_toArray, List.set_cons_zero, List.set_cons_succ]
        refine take' 7 (v := ?_) rfl (by kernel_rfl) (by kernel_rfl) (by kernel_rfl) (fun _ _ _ h => h) (Or.inl ⟨by rfl, ?_⟩) (by assumption) ?_
        rotate_left
        · intro w9 hSw
          go_simp
          first | done | with_reducible rfl
        simp only [Act.put, List.setIfInBounds_toArray, List.set_cons_zero, List.set_cons_succ]
        refine wpAnyH_ready (rs := [4, 8]) (by kernel_rfl) (by simp) ?_
        refine consT rfl (fun KK hKK => ?_) ?_
        · skip
          go_simp
          refine hKK.out _ _ hHeld ?_
          clear hHeld
          intro hHeld
          clear hKK KK
          try simp only [Act.put, List.setIfInBounds_toArray, List.set_cons_zero, List.set_cons_succ]
          refine wpAnyH_ready (rs := [8]) (by kernel_rfl) (by simp) ?_
          refine cons' rfl (fun KK hKK => ?_)
          go_simp
          have hnew := heap_alloc_new wc (.cells #[.slice (some ⟨gL, 0, none⟩) k k, .int .i64 0, .int .i64 0, .int .i64 0, .int .i64 0, .int .i64 0] 89)
          have b3 := below_alloc (w := wc) (.cells #[.slice (some ⟨gL, 0, none⟩) k k, .int .i64 0, .int .i64 0, .int .i64 0, .int .i64 0, .int .i64 0] 89)
          obtain ⟨na, hna⟩ : ∃ na, wc.heap.size = na := ⟨_, rfl⟩
          rw [hna] at hnew
          try rw [hna]
          obtain ⟨wd, hwd⟩ : ∃ wd, wc.alloc (.cells #[.slice (some ⟨gL, 0, none⟩) k k, .int .i64 0, .int .i64 0, .int .i64 0, .int .i64 0, .int .i64 0] 89) = wd := ⟨_, rfl⟩
          rw [hwd] at hnew b3 ⊢
          have hgd := hide' (And.intro ((b3.block gL (Array.getElem?_eq_some_iff.1 hgn.out.1).1).trans hgn.out.1) hgn.out.2)
          replace hnew : wd.heap[na]? = _ := hnew
          replace bT := bT.trans (b3.mono bT.size)
          replace h5 := h5.later b3
          replace k6 := below_cell b3 k6
          clear b3 hna hwd hgn
          refine hKK.out _ _ hHeld ?_
          clear hHeld
          intro hHeld
          clear hKK KK
          try simp only [Act.put, List.setIfInBounds_toArray, List.set_cons_zero, List.set_cons_succ]
          refine wpAnyH_ready (rs := [9]) (by kernel_rfl) (by simp) ?_
          refine cons' rfl (fun KK hKK => ?_)
          have hgl := (Array.getElem?_eq_some_iff.1 hgd.out.1).1
          have hoth : ow gL = .oth := HH.out.1.hi gL (Nat.le_trans HB.out.size hgd.out.2)
          have h6 := h5.retag (k := u.cl.length) hoth hgl (Nat.le_refl _)
          have hO := h6.rcl.1
          have hl1 : u.cl.length + 1 ≤ maxLen := by have := HM.out; have := HN.out; omega
          have hl2 : (u.cl.length + 1) * 64 ≤ 140737488355328 := by have := HN.out; omega
          refine step_append_lies _ (by rfl) _ _ _ (by rfl) 0 89 wi _ 6 64 Try.underlying64 hwi hwz hws hwb rfl (by omega) (V.cl.val u.cl.length) u.cl.length (clC V.lv u.cl) (by rfl) hO ⟨na, 0, none⟩ 1 1 [.slice (some ⟨gL, 0, none⟩) k k, .int .i64 0, .int .i64 0, .int .i64 0, .int .i64 0, .int .i64 0] (by rfl) (by rfl) (World.news_of_block (cs := #[.slice (some ⟨gL, 0, none⟩) k k, .int .i64 0, .int .i64 0, .int .i64 0, .int .i64 0, .int .i64 0]) (t := 89) (fr := (0, 0)) hnew) (by simp [Value.oneCell']) (by omega) hl1 hl2 (Nat.zero_le _) _ rfl ?_
          intro gb cap w8 hown hgrow hat hlt9
          have hkl : (ofF k f).length = k := ofF_length k f
          have RR := UM.app_cl (l := ofF k f) h6 (setO_same _ _ _) hgd.out.1 (by have := HM.out; omega) (by rw [show clC [(⟨some gL, (ofF k f).length⟩ : SlV)] [(⟨ofF k f, 0, 0, 0, 0, 0⟩ : CL)] = [.slice (some ⟨gL, 0, none⟩) k k, .int .i64 0, .int .i64 0, .int .i64 0, .int .i64 0, .int .i64 0] from by simp [clC, SlV.val, SlV.at', hkl]]; exact hown) hgrow hat rfl hlt9
          have HA := (RowAt.app h6.rcl hown hgrow hat rfl hlt9).2
          have P4 := (h6.part .st).app HA (by simp)
          have q2 := P4.2.2.2.2.1
          have fz := fun o => P4.2.1.frozen o
          have S6 : Step ow (setO ow gL (.lit u.cl.length)) w _ := ⟨Chg.of_below (HB.out.trans (bT.mono HB.out.size)), fun x hx => setO_other (fun e => by have := hgd.out.2; have := HB.out.size; omega)⟩
          have HX := hide' (show _ ∧ Step ow _ w _ from ⟨RR.1, S6.trans ⟨RR.2.1, RR.2.2⟩⟩)
          clear RR HA P4 S6 hown hgrow hat hlt9 hO hl1 hl2 hnew k6 h6 hoth hgl hkl
          refine hKK.out _ _ trivial ?_
          clear hHeld
          intro hHeld
          clear hKK KK
          try simp only [Act.put, List.setIfInBounds_toArray, List.set_cons_zero, List.set_cons_succ]
          clear h5 bT
          refine take' 10 (v := ?_) rfl (by kernel_rfl) (by kernel_rfl) (by kernel_rfl) (fun _ _ _ h => h) (Or.inl ⟨by rfl, ?_⟩) (by assumption) ?_
          rotate_left
          · intro w9 hSw
            go_simp
            first | done | with_reducible rfl
          simp only [Act.put, List.setIfInBounds_toArray, List.set_cons_zero, List.set_cons_succ]
          refine take' 11 (v := ?_) rfl (by kernel_rfl) (by kernel_rfl) (by kernel_rfl) (fun _ _ _ h => h) (Or.inl ⟨by rfl, ?_⟩) (by assumption) ?_
          rotate_left
          · intro w9 hSw
            go_simp
            first | done | with_reducible rfl
          simp only [Act.put, List.setIfInBounds_toArray, List.set_cons_zero, List.set_cons_succ]
          refine wpAnyH_ready (rs := [12]) (by kernel_rfl) (by simp) ?_
          refine cons' rfl (fun KK hKK => ?_)
          go_simp
          refine hKK.out _ _ trivial ?_
          clear hHeld
          intro hHeld
          clear hKK KK
          try simp only [Act.put, List.setIfInBounds_toArray, List.set_cons_zero, List.set_cons_succ]
          clear q2 fz
          refine wpAnyH_done (by kernel_rfl) ?_ _
          clear hHeld
          obtain ⟨wX, hwX⟩ : ∃ wX, w8.setCell ⟨b, 2, none⟩ (.slice (some ⟨gb, 0, none⟩) (u.cl.length + 1) cap) = wX := ⟨_, rfl⟩
          rw [hwX] at HX ⊢
          clear hwX
          have h7 := HX.out.1
          have k5 := h7.cells.2.2.2.2.2.2.2.1
          obtain ⟨wE, hwE⟩ : ∃ wE, wX.alloc (.cells #[.int .i64 N] 3) = wE := ⟨_, rfl⟩
          have hnew := heap_alloc_new wX (.cells #[.int .i64 N] 3)
          have bE := below_alloc (w := wX) (.cells #[.int .i64 N] 3)
          rw [hwE] at hnew bE
          have h8 := h7.later bE
          have hO := h8.rfr.1
          have hfl := HH.out.2.1.fr_len
          have hCC := HH.out.2.1.wo.cl
          have k5E := below_cell bE k5
          have hl1 : u.fr.length + 1 ≤ maxLen := by have := HM.out; omega
          have hl2 : (u.fr.length + 1) * 8 ≤ 140737488355328 := by omega
          replace hfl := hide' hfl
          replace hCC := hide' hCC
          go_wp2_with (at_builtin; (try rw [hwE]); refine wpList_append_lies _ (by rfl) _ _ _ (by rfl) 0 3 ii _ 1 8 Try.underlying40 hii hiz his hib rfl (by omega) (V.fr.val u.fr.length) u.fr.length (iv u.fr) (by rfl) hO ⟨wX.heap.size, 0, none⟩ 1 1 [.int .i64 N] (by rfl) (by rfl) (World.news_of_block (cs := #[.int .i64 N]) (t := 3) (fr := (0, 0)) hnew) (by simp [Value.oneCell']) (by omega) hl1 hl2 (Nat.zero_le _) wE.heap.size rfl ?_)
          intro gc cap2 wF hown hgrow hat hlt9
          have RR := UM.app_fr (zs := [(N : Int)]) h8 hown rfl hgrow hat rfl hlt9
          have P4 := (h8.part .st).app (RowAt.app h8.rfr hown hgrow hat rfl hlt9).2 (by simp)
          have q5 := P4.2.2.2.2.2.2.2.1
          have fz := fun o => P4.2.1.frozen o
          have HY := hide' (show _ ∧ Step ow _ w _ from ⟨RR.1, HX.out.2.trans ((Step.of_below bE).trans ⟨RR.2.1, RR.2.2⟩)⟩)
          clear RR P4 hown hgrow hat hlt9 hO hl1 hl2 hnew h8 h7 k5 k5E bE hwE
          go_wp2_with fail
          have HZ := hide' (show ({ { u with cl := u.cl ++ [(⟨ofF k f, 0, 0, 0, 0, 0⟩ : CL)] } with fr := u.fr ++ [(N : Int)] } : US) = addF u (ofF k f) from by rw [HE.out, ← HN.out]; rfl)
          refine bodyPost_ret (v := .tuple #[.int .i64 N, .int .i64 0]) (by rw [results_tt rfl]; go_simp) rfl ?_
          rw [← HZ.out]
          refine ⟨⟨_, rfl⟩, ?_⟩
          first | exact ⟨_, ⟨_, HY.out.1⟩, HY.out.2⟩ | exact ⟨_, _, HY.out.1, HY.out.2⟩
        refine consT rfl (fun KK hKK => ?_) ?_
        · skip
          go_simp
          have hnew := heap_alloc_new wc (.cells #[.slice (some ⟨gL, 0, none⟩) k k, .int .i64 0, .int .i64 0, .int .i64 0, .int .i64 0, .int .i64 0] 89)
          have b3 := below_alloc (w := wc) (.cells #[.slice (some ⟨gL, 0, none⟩) k k, .int .i64 0, .int .i64 0, .int .i64 0, .int .i64 0, .int .i64 0] 89)
          obtain ⟨na, hna⟩ : ∃ na, wc.heap.size = na := ⟨_, rfl⟩
          rw [hna] at hnew
          try rw [hna]
          obtain ⟨wd, hwd⟩ : ∃ wd, wc.alloc (.cells #[.slice (some ⟨gL, 0, none⟩) k k, .int .i64 0, .int .i64 0, .int .i64 0, .int .i64 0, .int .i64 0] 89) = wd := ⟨_, rfl⟩
          rw [hwd] at hnew b3 ⊢
          have hgd := hide' (And.intro ((b3.block gL (Array.getElem?_eq_some_iff.1 hgn.out.1).1).trans hgn.out.1) hgn.out.2)
          replace hnew : wd.heap[na]? = _ := hnew
          replace bT := bT.trans (b3.mono bT.size)
          replace h5 := h5.later b3
          replace k6 := below_cell b3 k6
          clear b3 hna hwd hgn
          refine hKK.out _ _ hHeld ?_
          clear hHeld
          intro hHeld
          clear hKK KK
          try simp only [Act.put, List.setIfInBounds_toArray, List.set_cons_zero, List.set_cons_succ]
          refine wpAnyH_ready (rs := [4]) (by kernel_rfl) (by simp) ?_
          refine cons' rfl (fun KK hKK => ?_)
          go_simp
          refine hKK.out _ _ hHeld ?_
          clear hHeld
          intro hHeld
          clear hKK KK
          try simp only [Act.put, List.setIfInBounds_toArray, List.set_cons_zero, List.set_cons_succ]
          refine wpAnyH_ready (rs := [9]) (by kernel_rfl) (by simp) ?_
          refine cons' rfl (fun KK hKK => ?_)
          have hgl := (Array.getElem?_eq_some_iff.1 hgd.out.1).1
          have hoth : ow gL = .oth := HH.out.1.hi gL (Nat.le_trans HB.out.size hgd.out.2)
          have h6 := h5.retag (k := u.cl.length) hoth hgl (Nat.le_refl _)
          have hO := h6.rcl.1
          have hl1 : u.cl.length + 1 ≤ maxLen := by have := HM.out; have := HN.out; omega
          have hl2 : (u.cl.length + 1) * 64 ≤ 140737488355328 := by have := HN.out; omega
          refine step_append_lies _ (by rfl) _ _ _ (by rfl) 0 89 wi _ 6 64 Try.underlying64 hwi hwz hws hwb rfl (by omega) (V.cl.val u.cl.length) u.cl.length (clC V.lv u.cl) (by rfl) hO ⟨na, 0, none⟩ 1 1 [.slice (some ⟨gL, 0, none⟩) k k, .int .i64 0, .int .i64 0, .int .i64 0, .int .i64 0, .int .i64 0] (by rfl) (by rfl) (World.news_of_block (cs := #[.slice (some ⟨gL, 0, none⟩) k k, .int .i64 0, .int .i64 0, .int .i64 0, .int .i64 0, .int .i64 0]) (t := 89) (fr := (0, 0)) hnew) (by simp [Value.oneCell']) (by omega) hl1 hl2 (Nat.zero_le _) _ rfl ?_
          intro gb cap w8 hown hgrow hat hlt9
          have hkl : (ofF k f).length = k := ofF_length k f
          have RR := UM.app_cl (l := ofF k f) h6 (setO_same _ _ _) hgd.out.1 (by have := HM.out; omega) (by rw [show clC [(⟨some gL, (ofF k f).length⟩ : SlV)] [(⟨ofF k f, 0, 0, 0, 0, 0⟩ : CL)] = [.slice (some ⟨gL, 0, none⟩) k k, .int .i64 0, .int .i64 0, .int .i64 0, .int .i64 0, .int .i64 0] from by simp [clC, SlV.val, SlV.at', hkl]]; exact hown) hgrow hat rfl hlt9
          have HA := (RowAt.app h6.rcl hown hgrow hat rfl hlt9).2
          have P4 := (h6.part .st).app HA (by simp)
          have q2 := P4.2.2.2.2.1
          have fz := fun o => P4.2.1.frozen o
          have S6 : Step ow (setO ow gL (.lit u.cl.length)) w _ := ⟨Chg.of_below (HB.out.trans (bT.mono HB.out.size)), fun x hx => setO_other (fun e => by have := hgd.out.2; have := HB.out.size; omega)⟩
          have HX := hide' (show _ ∧ Step ow _ w _ from ⟨RR.1, S6.trans ⟨RR.2.1, RR.2.2⟩⟩)
          clear RR HA P4 S6 hown hgrow hat hlt9 hO hl1 hl2 hnew k6 h6 hoth hgl hkl
          refine hKK.out _ _ trivial ?_
          clear hHeld
          intro hHeld
          clear hKK KK
          try simp only [Act.put, List.setIfInBounds_toArray, List.set_cons_zero, List.set_cons_succ]
          clear h5 bT
          refine take' 10 (v := ?_) rfl (by kernel_rfl) (by kernel_rfl) (by kernel_rfl) (fun _ _ _ h => h) (Or.inl ⟨by rfl, ?_⟩) (by assumption) ?_
          rotate_left
          · intro w9 hSw
            go_simp
            first | done | with_reducible rfl
          simp only [Act.put, List.setIfInBounds_toArray, List.set_cons_zero, List.set_cons_succ]
          refine take' 11 (v := ?_) rfl (by kernel_rfl) (by kernel_rfl) (by kernel_rfl) (fun _ _ _ h => h) (Or.inl ⟨by rfl, ?_⟩) (by assumption) ?_
          rotate_left
          · intro w9 hSw
            go_simp
            first | done | with_reducible rfl
          simp only [Act.put, List.setIfInBounds_toArray, List.set_cons_zero, List.set_cons_succ]
          refine wpAnyH_ready (rs := [12]) (by kernel_rfl) (by simp) ?_
          refine cons' rfl (fun KK hKK => ?_)
          go_simp
          refine hKK.out _ _ trivial ?_
          clear hHeld
          intro hHeld
          clear hKK KK
          try simp only [Act.put, List.setIfInBounds_toArray, List.set_cons_zero, List.set_cons_succ]
          clear q2 fz
          refine wpAnyH_done (by kernel_rfl) ?_ _
          clear hHeld
          obtain ⟨wX, hwX⟩ : ∃ wX, w8.setCell ⟨b, 2, none⟩ (.slice (some ⟨gb, 0, none⟩) (u.cl.length + 1) cap) = wX := ⟨_, rfl⟩
          rw [hwX] at HX ⊢
          clear hwX
          have h7 := HX.out.1
          have k5 := h7.cells.2.2.2.2.2.2.2.1
          obtain ⟨wE, hwE⟩ : ∃ wE, wX.alloc (.cells #[.int .i64 N] 3) = wE := ⟨_, rfl⟩
          have hnew := heap_alloc_new wX (.cells #[.int .i64 N] 3)
          have bE := below_alloc (w := wX) (.cells #[.int .i64 N] 3)
          rw [hwE] at hnew bE
          have h8 := h7.later bE
          have hO := h8.rfr.1
          have hfl := HH.out.2.1.fr_len
          have hCC := HH.out.2.1.wo.cl
          have k5E := below_cell bE k5
          have hl1 : u.fr.length + 1 ≤ maxLen := by have := HM.out; omega
          have hl2 : (u.fr.length + 1) * 8 ≤ 140737488355328 := by omega
          replace hfl := hide' hfl
          replace hCC := hide' hCC
          go_wp2_with (at_builtin; (try rw [hwE]); refine wpList_append_lies _ (by rfl) _ _ _ (by rfl) 0 3 ii _ 1 8 Try.underlying40 hii hiz his hib rfl (by omega) (V.fr.val u.fr.length) u.fr.length (iv u.fr) (by rfl) hO ⟨wX.heap.size, 0, none⟩ 1 1 [.int .i64 N] (by rfl) (by rfl) (World.news_of_block (cs := #[.int .i64 N]) (t := 3) (fr := (0, 0)) hnew) (by simp [Value.oneCell']) (by omega) hl1 hl2 (Nat.zero_le _) wE.heap.size rfl ?_)
          intro gc cap2 wF hown hgrow hat hlt9
          have RR := UM.app_fr (zs := [(N : Int)]) h8 hown rfl hgrow hat rfl hlt9
          have P4 := (h8.part .st).app (RowAt.app h8.rfr hown hgrow hat rfl hlt9).2 (by simp)
          have q5 := P4.2.2.2.2.2.2.2.1
          have fz := fun o => P4.2.1.frozen o
          have HY := hide' (show _ ∧ Step ow _ w _ from ⟨RR.1, HX.out.2.trans ((Step.of_below bE).trans ⟨RR.2.1, RR.2.2⟩)⟩)
          clear RR P4 hown hgrow hat hlt9 hO hl1 hl2 hnew h8 h7 k5 k5E bE hwE
          go_wp2_with fail
          have HZ := hide' (show ({ { u with cl := u.cl ++ [(⟨ofF k f, 0, 0, 0, 0, 0⟩ : CL)] } with fr := u.fr ++ [(N : Int)] } : US) = addF u (ofF k f) from by rw [HE.out, ← HN.out]; rfl)
          refine bodyPost_ret (v := .tuple #[.int .i64 N, .int .i64 0]) (by rw [results_tt rfl]; go_simp) rfl ?_
          rw [← HZ.out]
          refine ⟨⟨_, rfl⟩, ?_⟩
          first | exact ⟨_, ⟨_, HY.out.1⟩, HY.out.2⟩ | exact ⟨_, _, HY.out.1, HY.out.2⟩
        exact AllReadyH.nil
      exact AllReadyH.nil
set_option maxHeartbeats 16000000 in
set_option maxRecDepth 100000 in
theorem add_any (ow : Nat → Tg) (b : Nat) (V : SV) (u : US) (a : Option Addr) (n c : Nat) (f : Nat → Int) (hn : n ≤ 17592186044416) (hI : Iv u) (w : World) (h : UM w ow b V u) (hA : LitsAt w a n f) :
    Calls Try.prog 27 #[.pointer (some ⟨b, 0, none⟩), .slice a n c] w fun e w' => (∃ v, e = .returned v) ∧ ∃ ow' V', UM w' ow' b V' (addG u (ofF n f)) ∧ Step ow ow' w w' := by
  by_cases hC : u.cl.length < 1048576
  · rw [show addG u (ofF n f) = addF u (ofF n f) from if_pos hC]
    exact add_is ow b V u a n c f hn hI hC w h hA
  rw [show addG u (ofF n f) = u from if_neg hC]
  obtain ⟨n0, hn0⟩ : ∃ n, u.tr.length = n + 1 := ⟨u.tr.length - 1, by have := hI.rd.n0; omega⟩
  obtain ⟨g0, hg0⟩ := h.rtr.got hI.rd.n0
  have c0 := h.cells.2.2.1
  rw [SlV.val_some hg0, hn0] at c0
  have GN := hide' (isNoneM b g0 n0 V.tr.c w c0)
  clear c0 hg0 hn0
  have GL := hide' (fun w' (hb : Below w.heap.size w w') i (hi : i < n) => show Calls Try.prog 52 #[.pointer (some ⟨b, 0, none⟩), .int .i64 (f i)] w' fun e w'' => e = .returned (.bool (isLV u (f i))) ∧ Below w'.heap.size w' w'' from isLit_is ow b V u (f i) (hA.2.1 i hi).1 (hA.2.1 i hi).2 w' (h.later hb) hI.rd)
  have hCC := hI.wo.cl
  have HH := hide' (And.intro h hA)
  have k2 := h.cells.2.2.2.2.1
  change w.cell? _ = some (.slice V.cl.at' u.cl.length V.cl.c) at k2
  obtain ⟨N, hN⟩ : ∃ N, u.cl.length = N := ⟨_, rfl⟩
  rw [hN] at k2 hC hCC
  clear h hI hA hN
  go_enter Try.func27, Try.ntmps27
  go_wp2_with fail
  refine GN.out.mono ?_
  rintro e w0 ⟨rfl, b0⟩
  clear GN
  have hB0 := hide' b0
  clear b0
  go_wp2_with fail
  go_loopw [13] (fun vi wr => ∃ k : Nat, k ≤ n ∧ vi = .int .i64 k ∧ Below w.heap.size w wr) (fun vi _ => n - (intOf vi).toNat)
  case atStart => exact ⟨0, Nat.zero_le _, rfl, hB0.out⟩
  case round =>
    clear hB0
    obtain ⟨k, hk, rfl, hB⟩ := hrel
    by_cases hlt : k < n
    · obtain ⟨bb, off, rfl, hcell⟩ := HH.out.2.2.2 (by omega)
      have ck := below_cell hB (hcell k hlt)
      have i1 : (k : Int) < (n : Int) := by omega
      have GL2 := hide' (GL.out wr hB k hlt)
      obtain ⟨y, hy⟩ : ∃ y, f k = y := ⟨_, rfl⟩
      rw [hy] at ck GL2
      cases hv : isLV u y with
      | true =>
        rw [hv] at GL2
        clear hv hy hcell
        replace hB := hide' hB
        go_wp2_with fail
        refine GL2.out.mono ?_
        rintro e w1 ⟨rfl, b1⟩
        have b2 := hB.out.trans (b1.mono hB.out.size)
        go_wp2
        go_roundw
        case rel => exact ⟨k + 1, by omega, by go_num, b2⟩
        case measure => simp only [intOf]; omega
      | false =>
        rw [hv] at GL2
        clear hv hy hcell
        replace hB := hide' hB
        go_wp2_with fail
        refine GL2.out.mono ?_
        rintro e w1 ⟨rfl, b1⟩
        have b2 := hB.out.trans (b1.mono hB.out.size)
        go_wp2
        refine bodyPost_ret (v := .tuple #[.int .i64 0, .int .i64 180]) (by rw [results_tt rfl]; go_simp) rfl ?_
        first | exact ⟨⟨_, rfl⟩, ow, ⟨V, HH.out.1.later b2⟩, Step.of_below b2⟩ | exact ⟨⟨_, rfl⟩, ow, V, HH.out.1.later b2, Step.of_below b2⟩
    · obtain rfl : k = n := by omega
      have i1 : ¬ (k : Int) < (k : Int) := by omega
      have k2r := below_cell hB k2
      have i2 : (N : Int) ≥ 1048576 := by omega
      clear k2
      have HB := hide' hB
      clear hB
      go_wp2
      refine bodyPost_ret (v := .tuple #[.int .i64 0, .int .i64 2]) (by rw [results_tt rfl]; go_simp) rfl ?_
      first | exact ⟨⟨_, rfl⟩, ow, ⟨V, HH.out.1.later HB.out⟩, Step.of_below HB.out⟩ | exact ⟨⟨_, rfl⟩, ow, V, HH.out.1.later HB.out, Step.of_below HB.out⟩
end Go.Proofs.Ytfodejhipnmgnaa
