/-
  units: a mark put, and a mark taken off.
-/
import Derived.Test.YtfodejhipnmgnaaUC1
namespace Go.Proofs.Ytfodejhipnmgnaa
open Go.RowKit
set_option linter.unusedVariables false
set_option linter.unusedSimpArgs false
set_option maxRecDepth 30000 in
theorem cutI (ao : Option Addr) (n cap hi : Nat) (h2 : hi ≤ cap) (w : World) : (Instr.slice 40 (.slice ao n cap) none (some (.int .i64 hi)) none).run Try.prog w = .ok (.slice ao hi cap) w := by
  rw [run_slice_h (P := Try.prog) w 40 _ n cap Try.underlying40 .i64 _ (by omega) (by omega)]
  have es : (sizeOf (Try.prog.elem 40)).run Try.prog w = .ok 1 w := by kernel_rfl
  rw [es]
  simp only [Result.andThen, sliced, Int.toNat_natCast, Nat.zero_mul, Nat.sub_zero]
  have ea : ao.map (fun a => a.add 0) = ao := by cases ao <;> simp [Addr.add]
  rw [ea]; simp
/-- a cell of a block of one sort, stored anew: the parts of other sorts -/
theorem Part.put {w : World} {ow : Nat → Tg} {b g o : Nat} {v : Value} {V : SV} {u : US} {t t' : Tg} (h : Part w ow b V u t) (hg : ow g = t') (hne : t ≠ t') : Part (w.setCell ⟨g, o, none⟩ v) ow b V u t :=
  h.keep (fun x hx e => heap_setCell_other _ _ _ _ (fun e2 => by subst e2; exact hne (e.symm.trans hg))) fun _ _ => rfl
theorem Step.put {ow : Nat → Tg} {w : World} {g o : Nat} {v : Value} (hg : ow g ≠ .oth) : Step ow ow w (w.setCell ⟨g, o, none⟩ v) := ⟨(Chg.refl ow w).st (ow' := ow) fun _ => hg, fun _ _ => rfl⟩
theorem UM.set_tr {w : World} {ow : Nat → Tg} {b g i : Nat} {V : SV} {u : US} (z : Int) (h : UM w ow b V u) (hs : V.tr.g = some g) (hi : i < u.tr.length) : UM (w.setCell ⟨g, i, none⟩ (.int .i64 z)) ow b V { u with tr := u.tr.set i z } ∧ Step ow ow w (w.setCell ⟨g, i, none⟩ (.int .i64 z)) := by
  have hg := h.rtr.2 g hs
  refine ⟨⟨fun x hx => h.hi x (by rw [World.size_setCell] at hx; exact hx), h.nlv, h.nwv, fun t => ?_⟩, Step.put (by rw [hg]; simp)⟩
  cases t with
  | st =>
    have := (h.part .st).put (o := i) (v := .int .i64 z) hg (by simp)
    unfold Part at this ⊢
    simp only [List.length_set]
    exact this
  | tr =>
    have := h.rtr.set hs (j := i) (by omega) (.int .i64 z)
    rw [iv_set] at this
    show RowAt _ _ _ _ _ _ (u.tr.set i z).length _
    rw [List.length_set]
    exact this
  | oth => trivial
  | mk => exact (h.part .mk).put hg (by simp)
  | cl => exact (h.part .cl).put hg (by simp)
  | ws => exact (h.part .ws).put hg (by simp)
  | fr => exact (h.part .fr).put hg (by simp)
  | la => exact (h.part .la).put hg (by simp)
  | row i => exact (h.part (.row i)).put hg (by simp)
  | lit i => exact (h.part (.lit i)).put hg (by simp)
theorem iv_take (k : Nat) (l : List Int) : (iv l).take (k * 1) = iv (l.take k) := by rw [Nat.mul_one]; exact List.map_take.symm
theorem UM.cut_fr {w : World} {ow : Nat → Tg} {b g k : Nat} {V : SV} {u : US} (h : UM w ow b V u) (hs : V.fr.g = some g) (hk : k ≤ u.fr.length) : UM (w.setCell ⟨b, 5, none⟩ (.slice (some ⟨g, 0, none⟩) k V.fr.c)) ow b V { u with fr := u.fr.take k } ∧ Step ow ow w (w.setCell ⟨b, 5, none⟩ (.slice (some ⟨g, 0, none⟩) k V.fr.c)) := by
  have hg := h.cells.1
  refine ⟨⟨fun x hx => h.hi x (by rw [World.size_setCell] at hx; exact hx), h.nlv, h.nwv, fun t => ?_⟩, Step.put (by rw [hg]; simp)⟩
  have el : (u.fr.take k).length = k := by rw [List.length_take]; omega
  cases t with
  | st =>
    obtain ⟨h0, hrw, c0, c1, c2, c3, c4, c5, c6⟩ := h.cells
    refine ⟨h0, hrw.setCell _ _, ?_, ?_, ?_, ?_, ?_, ?_, ?_⟩
    · rw [cell_set_other (by decide)]; exact c0
    · rw [cell_set_other (by decide)]; exact c1
    · rw [cell_set_other (by decide)]; exact c2
    · rw [cell_set_other (by decide)]; exact c3
    · rw [cell_set_other (by decide)]; exact c4
    · show _ = some (V.fr.val (u.fr.take k).length); rw [el, SlV.val_some hs]; exact cell_set_same c5
    · rw [cell_set_other (by decide)]; exact c6
  | fr =>
    have := (h.part .fr).put (o := 5) (v := .slice (some ⟨g, 0, none⟩) k V.fr.c) hg (by simp)
    have t2 := RowAt.cut this hs hk
    rw [iv_take] at t2
    show RowAt _ _ _ _ _ _ (u.fr.take k).length _
    rw [el]
    exact t2
  | oth => trivial
  | tr => exact (h.part .tr).put hg (by simp)
  | mk => exact (h.part .mk).put hg (by simp)
  | cl => exact (h.part .cl).put hg (by simp)
  | ws => exact (h.part .ws).put hg (by simp)
  | la => exact (h.part .la).put hg (by simp)
  | row i => exact (h.part (.row i)).put hg (by simp)
  | lit i => exact (h.part (.lit i)).put hg (by simp)
theorem UM.set_fo {w : World} {ow : Nat → Tg} {b : Nat} {V : SV} {u : US} (z : Nat) (h : UM w ow b V u) : UM (w.setCell ⟨b, 4, none⟩ (.int .i64 z)) ow b V { u with fo := z } ∧ Step ow ow w (w.setCell ⟨b, 4, none⟩ (.int .i64 z)) := by
  have hg := h.cells.1
  refine ⟨⟨fun x hx => h.hi x (by rw [World.size_setCell] at hx; exact hx), h.nlv, h.nwv, fun t => ?_⟩, Step.put (by rw [hg]; simp)⟩
  cases t with
  | st =>
    obtain ⟨h0, hrw, c0, c1, c2, c3, c4, c5, c6⟩ := h.cells
    refine ⟨h0, hrw.setCell _ _, ?_, ?_, ?_, ?_, ?_, ?_, ?_⟩
    · rw [cell_set_other (by decide)]; exact c0
    · rw [cell_set_other (by decide)]; exact c1
    · rw [cell_set_other (by decide)]; exact c2
    · rw [cell_set_other (by decide)]; exact c3
    · exact cell_set_same c4
    · rw [cell_set_other (by decide)]; exact c5
    · rw [cell_set_other (by decide)]; exact c6
  | oth => trivial
  | tr => exact (h.part .tr).put hg (by simp)
  | mk => exact (h.part .mk).put hg (by simp)
  | cl => exact (h.part .cl).put hg (by simp)
  | ws => exact (h.part .ws).put hg (by simp)
  | fr => exact (h.part .fr).put hg (by simp)
  | la => exact (h.part .la).put hg (by simp)
  | row i => exact (h.part (.row i)).put hg (by simp)
  | lit i => exact (h.part (.lit i)).put hg (by simp)
/-- the store is now u' -/
def Chd (ow : Nat → Tg) (b : Nat) (V : SV) (u' : US) (w w' : World) : Prop := ∃ ow' V', UM w' ow' b V' u' ∧ Step ow ow' w w' ∧ V'.cl = V.cl
theorem Chd.mk {ow ow' : Nat → Tg} {b : Nat} {V V' : SV} {u' : US} {w w' : World} (h : UM w' ow' b V' u') (k : Step ow ow' w w') (e : V'.cl = V.cl := by rfl) : Chd ow b V u' w w' := ⟨ow', V', h, k, e⟩
/-- a mark more -/
def putU (u : US) (x lv r : Int) : US := { u with mks := u.mks ++ [⟨x, lv, r⟩], tr := u.tr.set x.natAbs (if x < 0 then -((u.mks.length : Int) + 1) else (u.mks.length : Int) + 1) }
theorem info_m : (Try.prog.info? 61).bind (fun i => i.zero.map fun z => (z, i.size, i.bytes)) = some (.agg #[.int .i64 0, .int .i64 0, .int .i64 0], 3, 24) := by kernel_rfl
set_option maxHeartbeats 2000000 in
set_option maxRecDepth 100000 in
theorem put_is (ow : Nat → Tg) (b : Nat) (V : SV) (u : US) (x lv r : Int) (hx : IsL u x) (hlv : -9223372036854775808 ≤ lv ∧ lv ≤ 9223372036854775807) (w : World) (h : UM w ow b V u) (hr : Rd u) (hf : u.mks.length < 262144) :
    Calls Try.prog 54 #[.pointer (some ⟨b, 0, none⟩), .int .i64 x, .int .i64 lv, .int .i64 r] w fun e w' => (∃ v, e = .returned v) ∧ Chd ow b V (putU u x lv r) w w' := by
  have HM := hide' maxLen_is
  obtain ⟨hx0, hx1, hx2⟩ := hx
  have hT := hr.nT
  have hT0 := hr.n0
  clear hr
  obtain ⟨mi, hmi, hmz, hms, hmb⟩ := info_parts info_m
  obtain ⟨gT, hgT⟩ := h.rtr.got hT0
  have k0 := h.cells.2.2.1
  have k1 := h.cells.2.2.2.1
  have k2 := h.cells.2.2.2.2.1
  have k3 := h.cells.2.2.2.2.2.1
  have k4 := h.cells.2.2.2.2.2.2.1
  have k5 := h.cells.2.2.2.2.2.2.2.1
  have k6 := h.cells.2.2.2.2.2.2.2.2
  have fz := fun o => h.cells.2.1.frozen o
  obtain ⟨w3, hww3⟩ : ∃ w3, w.alloc (.cells #[.int .i64 x, .int .i64 lv, .int .i64 r] 61) = w3 := ⟨_, rfl⟩
  have hnew := heap_alloc_new w (.cells #[.int .i64 x, .int .i64 lv, .int .i64 r] 61)
  have bN := below_alloc (w := w) (.cells #[.int .i64 x, .int .i64 lv, .int .i64 r] 61)
  rw [hww3] at hnew bN
  have hw3 := h.later bN
  have hr := hw3.rmk.1
  have hl1 : u.mks.length + 1 ≤ maxLen := by have := HM.out; omega
  have hl2 : (u.mks.length + 1) * 24 ≤ 140737488355328 := by omega
  have fz3 := fun o => hw3.cells.2.1.frozen o
  go_enter Try.func54, Try.ntmps54
  go_wp2_with (at_builtin; (try rw [hww3]); refine wpList_append_lies _ (by rfl) _ _ _ (by rfl) 0 61 mi _ 3 24 Try.underlying35 hmi hmz hms hmb rfl (by omega) (V.mks.val u.mks.length) (u.mks.length) (mkC u.mks) (by rfl) hr ⟨w.heap.size, 0, none⟩ 1 1 [.int .i64 x, .int .i64 lv, .int .i64 r] (by rfl) (by rfl) (World.news_of_block (cs := #[.int .i64 x, .int .i64 lv, .int .i64 r]) (t := 61) (fr := (0, 0)) hnew) (by simp [Value.oneCell']) (by omega) hl1 hl2 (Nat.zero_le _) w3.heap.size rfl ?_)
  intro gb cap w4 hown hgrow hat hlt
  have R := UM.app_mks (zs := [⟨x, lv, r⟩]) hw3 hown rfl hgrow hat rfl hlt
  have P4 := (hw3.part .st).app (RowAt.app hw3.rmk hown hgrow hat rfl hlt).2 (by simp)
  have q1 := P4.2.2.2.1
  have fz4 := fun o => P4.2.1.frozen o
  clear P4 hown hgrow hat hlt hr hl1 hl2 hnew k0 k1 k2 k3 k4 k5 k6 fz fz3
  obtain ⟨w5, hw5⟩ : ∃ w5, w4.setCell ⟨b, 1, none⟩ (.slice (some ⟨gb, 0, none⟩) (u.mks.length + 1) cap) = w5 := ⟨_, rfl⟩
  rw [hw5] at R
  have h5 := R.1
  have S1 := (Step.of_below bN).trans ⟨R.2.1, R.2.2⟩
  clear R bN hw3 h
  have c0 := h5.cells.2.2.1
  have c1 := h5.cells.2.2.2.1
  rw [SlV.val_some hgT] at c0
  rw [SlV.val_some rfl, List.length_append] at c1
  simp only [List.length_cons, List.length_nil, Nat.zero_add] at c1
  have hl : x.natAbs < u.tr.length := by omega
  have kc := h5.rtr.cell hgT (j := x.natAbs) (by show x.natAbs < u.tr.length * 1; omega)
  rw [iv_at (z := u.tr.getD x.natAbs 0) (by simp [List.getD, List.getElem?_eq_getElem hl])] at kc
  have fzT := fun o => (h5.rtr.row hgT).frozen o
  obtain ⟨m, hm⟩ : ∃ m, x.natAbs = m := ⟨_, rfl⟩
  have PF := h5.set_tr (g := gT) (i := x.natAbs) (if x < 0 then -((u.mks.length : Int) + 1) else (u.mks.length : Int) + 1) hgT (by show x.natAbs < u.tr.length; omega)
  rw [hm] at PF kc
  clear h5
  replace PF := hide' PF
  replace S1 := hide' S1
  replace hm := hide' hm
  generalize u.tr.getD m 0 = t0 at kc
  generalize V.tr.c = cT at c0
  by_cases h0 : x < 0
  · skip
    have PG := PF.out
    rw [if_pos h0] at PG
    have HQ := hide' (show _ ∧ Step ow _ w _ from ⟨PG.1, S1.out.trans PG.2⟩)
    clear PG PF S1
    have HE : (putU u x lv r) = { u with mks := u.mks ++ [⟨x, lv, r⟩], tr := u.tr.set m (-((u.mks.length : Int) + 1)) } := by unfold putU; rw [if_pos h0, hm.out]
    replace HE := hide' HE
    obtain rfl : x = -(m : Int) := by have := hm.out; omega
    go_wp2_with fail
    go_region
    all_goals go_wp2
    refine bodyPost_end (v := .tuple #[]) (by kernel_rfl) rfl ?_
    rw [HE.out]
    exact ⟨⟨_, rfl⟩, Chd.mk (HQ.out.1.later (Below.refl _ _).drew) (HQ.out.2.trans (Step.of_below (Below.refl _ _).drew))⟩
  · skip
    have PG := PF.out
    rw [if_neg h0] at PG
    have HQ := hide' (show _ ∧ Step ow _ w _ from ⟨PG.1, S1.out.trans PG.2⟩)
    clear PG PF S1
    have HE : (putU u x lv r) = { u with mks := u.mks ++ [⟨x, lv, r⟩], tr := u.tr.set m ((u.mks.length : Int) + 1) } := by unfold putU; rw [if_neg h0, hm.out]
    replace HE := hide' HE
    obtain rfl : x = (m : Int) := by have := hm.out; omega
    go_wp2_with fail
    go_region
    all_goals go_wp2
    refine bodyPost_end (v := .tuple #[]) (by kernel_rfl) rfl ?_
    rw [HE.out]
    exact ⟨⟨_, rfl⟩, Chd.mk (HQ.out.1.later (Below.refl _ _).drew) (HQ.out.2.trans (Step.of_below (Below.refl _ _).drew))⟩
end Go.Proofs.Ytfodejhipnmgnaa
