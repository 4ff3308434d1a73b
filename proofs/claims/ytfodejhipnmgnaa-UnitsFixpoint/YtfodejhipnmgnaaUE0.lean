/-
  units: stores into clauses and lists of watchers.
-/
import Derived.Test.YtfodejhipnmgnaaUD0
import Derived.Deep.RegionLaw
import Derived.Deep.RegionWith
namespace Go.Proofs.Ytfodejhipnmgnaa
open Go.RowKit
set_option linter.unusedVariables false
set_option linter.unusedSimpArgs false
theorem clC_b0 : ∀ (v : List SlV) (l : List CL) (i : Nat) (z : Int), v.length = l.length → i < l.length → (clC v l).set (i * 6 + 1) (.int .i64 z) = clC v (l.set i { l.getD i default with b0 := z })
  | v :: vs, d :: cs, 0, z, _, _ => by simp [clC]
  | [], d :: cs, i, z, hl, h => by simp at hl
  | v :: vs, d :: cs, i + 1, z, hl, h => by
    have ih := clC_b0 vs cs i z (by simpa using hl) (by simpa using h)
    rw [show (i + 1) * 6 + 1 = i * 6 + 1 + 1 + 1 + 1 + 1 + 1 + 1 by omega]
    simp only [clC, List.set_cons_succ, List.getD_cons_succ]
    rw [ih]
theorem UM.set_b0 {w : World} {ow : Nat → Tg} {b g n : Nat} {V : SV} {u : US} (z : Int) (h : UM w ow b V u) (hs : V.cl.g = some g) (hn : n < u.cl.length) : UM (w.setCell ⟨g, n * 6 + 1, none⟩ (.int .i64 z)) ow b V { u with cl := u.cl.set n { u.cl.getD n default with b0 := z } } ∧ Step ow ow w (w.setCell ⟨g, n * 6 + 1, none⟩ (.int .i64 z)) := by
  have hg := h.rcl.2 g hs
  refine ⟨⟨fun x hx => h.hi x (by rw [World.size_setCell] at hx; exact hx), by simp [h.nlv], h.nwv, fun t => ?_⟩, Step.put (by rw [hg]; simp)⟩
  cases t with
  | st =>
    have := (h.part .st).put (o := n * 6 + 1) (v := .int .i64 z) hg (by simp)
    unfold Part at this ⊢
    simp only [List.length_set]
    exact this
  | cl =>
    have := h.rcl.set hs (j := n * 6 + 1) (by omega) (.int .i64 z)
    rw [clC_b0 _ _ _ _ h.nlv hn] at this
    show RowAt _ _ _ _ _ _ (u.cl.set n _).length _
    rw [List.length_set]
    exact this
  | lit i =>
    intro hi
    have hi2 : i < u.cl.length := by have : i < (u.cl.set n { u.cl.getD n default with b0 := z }).length := hi; rwa [List.length_set] at this
    have := (h.part (.lit i)).put (o := n * 6 + 1) (v := .int .i64 z) hg (by simp) hi2
    have e : ((u.cl.set n { u.cl.getD n default with b0 := z }).getD i default).lits = (u.cl.getD i default).lits := by
      by_cases e : i = n
      · subst e; simp [List.getD, List.getElem?_set_self hi2]
      · simp [List.getD, List.getElem?_set_ne (Ne.symm e)]
    show RowAt _ _ _ _ _ _ ((u.cl.set n { u.cl.getD n default with b0 := z }).getD i default).lits.length (iv ((u.cl.set n { u.cl.getD n default with b0 := z }).getD i default).lits)
    rw [e]
    exact this
  | oth => trivial
  | tr => exact (h.part .tr).put hg (by simp)
  | mk => exact (h.part .mk).put hg (by simp)
  | ws => exact (h.part .ws).put hg (by simp)
  | fr => exact (h.part .fr).put hg (by simp)
  | la => exact (h.part .la).put hg (by simp)
  | row i => exact (h.part (.row i)).put hg (by simp)
theorem clC_b1 : ∀ (v : List SlV) (l : List CL) (i : Nat) (z : Int), v.length = l.length → i < l.length → (clC v l).set (i * 6 + 2) (.int .i64 z) = clC v (l.set i { l.getD i default with b1 := z })
  | v :: vs, d :: cs, 0, z, _, _ => by simp [clC]
  | [], d :: cs, i, z, hl, h => by simp at hl
  | v :: vs, d :: cs, i + 1, z, hl, h => by
    have ih := clC_b1 vs cs i z (by simpa using hl) (by simpa using h)
    rw [show (i + 1) * 6 + 2 = i * 6 + 2 + 1 + 1 + 1 + 1 + 1 + 1 by omega]
    simp only [clC, List.set_cons_succ, List.getD_cons_succ]
    rw [ih]
theorem UM.set_b1 {w : World} {ow : Nat → Tg} {b g n : Nat} {V : SV} {u : US} (z : Int) (h : UM w ow b V u) (hs : V.cl.g = some g) (hn : n < u.cl.length) : UM (w.setCell ⟨g, n * 6 + 2, none⟩ (.int .i64 z)) ow b V { u with cl := u.cl.set n { u.cl.getD n default with b1 := z } } ∧ Step ow ow w (w.setCell ⟨g, n * 6 + 2, none⟩ (.int .i64 z)) := by
  have hg := h.rcl.2 g hs
  refine ⟨⟨fun x hx => h.hi x (by rw [World.size_setCell] at hx; exact hx), by simp [h.nlv], h.nwv, fun t => ?_⟩, Step.put (by rw [hg]; simp)⟩
  cases t with
  | st =>
    have := (h.part .st).put (o := n * 6 + 2) (v := .int .i64 z) hg (by simp)
    unfold Part at this ⊢
    simp only [List.length_set]
    exact this
  | cl =>
    have := h.rcl.set hs (j := n * 6 + 2) (by omega) (.int .i64 z)
    rw [clC_b1 _ _ _ _ h.nlv hn] at this
    show RowAt _ _ _ _ _ _ (u.cl.set n _).length _
    rw [List.length_set]
    exact this
  | lit i =>
    intro hi
    have hi2 : i < u.cl.length := by have : i < (u.cl.set n { u.cl.getD n default with b1 := z }).length := hi; rwa [List.length_set] at this
    have := (h.part (.lit i)).put (o := n * 6 + 2) (v := .int .i64 z) hg (by simp) hi2
    have e : ((u.cl.set n { u.cl.getD n default with b1 := z }).getD i default).lits = (u.cl.getD i default).lits := by
      by_cases e : i = n
      · subst e; simp [List.getD, List.getElem?_set_self hi2]
      · simp [List.getD, List.getElem?_set_ne (Ne.symm e)]
    show RowAt _ _ _ _ _ _ ((u.cl.set n { u.cl.getD n default with b1 := z }).getD i default).lits.length (iv ((u.cl.set n { u.cl.getD n default with b1 := z }).getD i default).lits)
    rw [e]
    exact this
  | oth => trivial
  | tr => exact (h.part .tr).put hg (by simp)
  | mk => exact (h.part .mk).put hg (by simp)
  | ws => exact (h.part .ws).put hg (by simp)
  | fr => exact (h.part .fr).put hg (by simp)
  | la => exact (h.part .la).put hg (by simp)
  | row i => exact (h.part (.row i)).put hg (by simp)
theorem clC_a0 : ∀ (v : List SlV) (l : List CL) (i : Nat) (z : Int), v.length = l.length → i < l.length → (clC v l).set (i * 6 + 3) (.int .i64 z) = clC v (l.set i { l.getD i default with a0 := z })
  | v :: vs, d :: cs, 0, z, _, _ => by simp [clC]
  | [], d :: cs, i, z, hl, h => by simp at hl
  | v :: vs, d :: cs, i + 1, z, hl, h => by
    have ih := clC_a0 vs cs i z (by simpa using hl) (by simpa using h)
    rw [show (i + 1) * 6 + 3 = i * 6 + 3 + 1 + 1 + 1 + 1 + 1 + 1 by omega]
    simp only [clC, List.set_cons_succ, List.getD_cons_succ]
    rw [ih]
theorem UM.set_a0 {w : World} {ow : Nat → Tg} {b g n : Nat} {V : SV} {u : US} (z : Int) (h : UM w ow b V u) (hs : V.cl.g = some g) (hn : n < u.cl.length) : UM (w.setCell ⟨g, n * 6 + 3, none⟩ (.int .i64 z)) ow b V { u with cl := u.cl.set n { u.cl.getD n default with a0 := z } } ∧ Step ow ow w (w.setCell ⟨g, n * 6 + 3, none⟩ (.int .i64 z)) := by
  have hg := h.rcl.2 g hs
  refine ⟨⟨fun x hx => h.hi x (by rw [World.size_setCell] at hx; exact hx), by simp [h.nlv], h.nwv, fun t => ?_⟩, Step.put (by rw [hg]; simp)⟩
  cases t with
  | st =>
    have := (h.part .st).put (o := n * 6 + 3) (v := .int .i64 z) hg (by simp)
    unfold Part at this ⊢
    simp only [List.length_set]
    exact this
  | cl =>
    have := h.rcl.set hs (j := n * 6 + 3) (by omega) (.int .i64 z)
    rw [clC_a0 _ _ _ _ h.nlv hn] at this
    show RowAt _ _ _ _ _ _ (u.cl.set n _).length _
    rw [List.length_set]
    exact this
  | lit i =>
    intro hi
    have hi2 : i < u.cl.length := by have : i < (u.cl.set n { u.cl.getD n default with a0 := z }).length := hi; rwa [List.length_set] at this
    have := (h.part (.lit i)).put (o := n * 6 + 3) (v := .int .i64 z) hg (by simp) hi2
    have e : ((u.cl.set n { u.cl.getD n default with a0 := z }).getD i default).lits = (u.cl.getD i default).lits := by
      by_cases e : i = n
      · subst e; simp [List.getD, List.getElem?_set_self hi2]
      · simp [List.getD, List.getElem?_set_ne (Ne.symm e)]
    show RowAt _ _ _ _ _ _ ((u.cl.set n { u.cl.getD n default with a0 := z }).getD i default).lits.length (iv ((u.cl.set n { u.cl.getD n default with a0 := z }).getD i default).lits)
    rw [e]
    exact this
  | oth => trivial
  | tr => exact (h.part .tr).put hg (by simp)
  | mk => exact (h.part .mk).put hg (by simp)
  | ws => exact (h.part .ws).put hg (by simp)
  | fr => exact (h.part .fr).put hg (by simp)
  | la => exact (h.part .la).put hg (by simp)
  | row i => exact (h.part (.row i)).put hg (by simp)
theorem clC_a1 : ∀ (v : List SlV) (l : List CL) (i : Nat) (z : Int), v.length = l.length → i < l.length → (clC v l).set (i * 6 + 4) (.int .i64 z) = clC v (l.set i { l.getD i default with a1 := z })
  | v :: vs, d :: cs, 0, z, _, _ => by simp [clC]
  | [], d :: cs, i, z, hl, h => by simp at hl
  | v :: vs, d :: cs, i + 1, z, hl, h => by
    have ih := clC_a1 vs cs i z (by simpa using hl) (by simpa using h)
    rw [show (i + 1) * 6 + 4 = i * 6 + 4 + 1 + 1 + 1 + 1 + 1 + 1 by omega]
    simp only [clC, List.set_cons_succ, List.getD_cons_succ]
    rw [ih]
theorem UM.set_a1 {w : World} {ow : Nat → Tg} {b g n : Nat} {V : SV} {u : US} (z : Int) (h : UM w ow b V u) (hs : V.cl.g = some g) (hn : n < u.cl.length) : UM (w.setCell ⟨g, n * 6 + 4, none⟩ (.int .i64 z)) ow b V { u with cl := u.cl.set n { u.cl.getD n default with a1 := z } } ∧ Step ow ow w (w.setCell ⟨g, n * 6 + 4, none⟩ (.int .i64 z)) := by
  have hg := h.rcl.2 g hs
  refine ⟨⟨fun x hx => h.hi x (by rw [World.size_setCell] at hx; exact hx), by simp [h.nlv], h.nwv, fun t => ?_⟩, Step.put (by rw [hg]; simp)⟩
  cases t with
  | st =>
    have := (h.part .st).put (o := n * 6 + 4) (v := .int .i64 z) hg (by simp)
    unfold Part at this ⊢
    simp only [List.length_set]
    exact this
  | cl =>
    have := h.rcl.set hs (j := n * 6 + 4) (by omega) (.int .i64 z)
    rw [clC_a1 _ _ _ _ h.nlv hn] at this
    show RowAt _ _ _ _ _ _ (u.cl.set n _).length _
    rw [List.length_set]
    exact this
  | lit i =>
    intro hi
    have hi2 : i < u.cl.length := by have : i < (u.cl.set n { u.cl.getD n default with a1 := z }).length := hi; rwa [List.length_set] at this
    have := (h.part (.lit i)).put (o := n * 6 + 4) (v := .int .i64 z) hg (by simp) hi2
    have e : ((u.cl.set n { u.cl.getD n default with a1 := z }).getD i default).lits = (u.cl.getD i default).lits := by
      by_cases e : i = n
      · subst e; simp [List.getD, List.getElem?_set_self hi2]
      · simp [List.getD, List.getElem?_set_ne (Ne.symm e)]
    show RowAt _ _ _ _ _ _ ((u.cl.set n { u.cl.getD n default with a1 := z }).getD i default).lits.length (iv ((u.cl.set n { u.cl.getD n default with a1 := z }).getD i default).lits)
    rw [e]
    exact this
  | oth => trivial
  | tr => exact (h.part .tr).put hg (by simp)
  | mk => exact (h.part .mk).put hg (by simp)
  | ws => exact (h.part .ws).put hg (by simp)
  | fr => exact (h.part .fr).put hg (by simp)
  | la => exact (h.part .la).put hg (by simp)
  | row i => exact (h.part (.row i)).put hg (by simp)
theorem clC_nx : ∀ (v : List SlV) (l : List CL) (i : Nat) (z : Int), v.length = l.length → i < l.length → (clC v l).set (i * 6 + 5) (.int .i64 z) = clC v (l.set i { l.getD i default with nx := z })
  | v :: vs, d :: cs, 0, z, _, _ => by simp [clC]
  | [], d :: cs, i, z, hl, h => by simp at hl
  | v :: vs, d :: cs, i + 1, z, hl, h => by
    have ih := clC_nx vs cs i z (by simpa using hl) (by simpa using h)
    rw [show (i + 1) * 6 + 5 = i * 6 + 5 + 1 + 1 + 1 + 1 + 1 + 1 by omega]
    simp only [clC, List.set_cons_succ, List.getD_cons_succ]
    rw [ih]
theorem UM.set_nx {w : World} {ow : Nat → Tg} {b g n : Nat} {V : SV} {u : US} (z : Int) (h : UM w ow b V u) (hs : V.cl.g = some g) (hn : n < u.cl.length) : UM (w.setCell ⟨g, n * 6 + 5, none⟩ (.int .i64 z)) ow b V { u with cl := u.cl.set n { u.cl.getD n default with nx := z } } ∧ Step ow ow w (w.setCell ⟨g, n * 6 + 5, none⟩ (.int .i64 z)) := by
  have hg := h.rcl.2 g hs
  refine ⟨⟨fun x hx => h.hi x (by rw [World.size_setCell] at hx; exact hx), by simp [h.nlv], h.nwv, fun t => ?_⟩, Step.put (by rw [hg]; simp)⟩
  cases t with
  | st =>
    have := (h.part .st).put (o := n * 6 + 5) (v := .int .i64 z) hg (by simp)
    unfold Part at this ⊢
    simp only [List.length_set]
    exact this
  | cl =>
    have := h.rcl.set hs (j := n * 6 + 5) (by omega) (.int .i64 z)
    rw [clC_nx _ _ _ _ h.nlv hn] at this
    show RowAt _ _ _ _ _ _ (u.cl.set n _).length _
    rw [List.length_set]
    exact this
  | lit i =>
    intro hi
    have hi2 : i < u.cl.length := by have : i < (u.cl.set n { u.cl.getD n default with nx := z }).length := hi; rwa [List.length_set] at this
    have := (h.part (.lit i)).put (o := n * 6 + 5) (v := .int .i64 z) hg (by simp) hi2
    have e : ((u.cl.set n { u.cl.getD n default with nx := z }).getD i default).lits = (u.cl.getD i default).lits := by
      by_cases e : i = n
      · subst e; simp [List.getD, List.getElem?_set_self hi2]
      · simp [List.getD, List.getElem?_set_ne (Ne.symm e)]
    show RowAt _ _ _ _ _ _ ((u.cl.set n { u.cl.getD n default with nx := z }).getD i default).lits.length (iv ((u.cl.set n { u.cl.getD n default with nx := z }).getD i default).lits)
    rw [e]
    exact this
  | oth => trivial
  | tr => exact (h.part .tr).put hg (by simp)
  | mk => exact (h.part .mk).put hg (by simp)
  | ws => exact (h.part .ws).put hg (by simp)
  | fr => exact (h.part .fr).put hg (by simp)
  | la => exact (h.part .la).put hg (by simp)
  | row i => exact (h.part (.row i)).put hg (by simp)
/-- a list of watchers, told anew: its row lies in a block of its sort -/
theorem UM.set_ws {w w' : World} {ow ow' : Nat → Tg} {b gW i : Nat} {s : SlV} {r : List Int} {V : SV} {u : US} (h : UM w ow b V u) (hi : i < u.ws.length) (hW : V.ws.g = some gW) (hr : RowAt w' ow' (.row i) 3 1 s r.length (iv r)) (ha : App ow ow' (.row i) w w') :
    UM (w'.setCell ⟨gW, i, none⟩ (s.val r.length)) ow' b { V with wv := V.wv.set i s } { u with ws := u.ws.set i r } ∧ Step ow ow' w (w'.setCell ⟨gW, i, none⟩ (s.val r.length)) := by
  have hgo := h.rws.2 gW hW
  have hgl := h.rws.lt hW
  have hg : ow' gW = .ws := (ha.same gW hgl).trans hgo
  have hp : ∀ {t}, t ≠ .row i → Part w' ow' b V u t := fun {t} hne => (h.part t).app ha hne
  refine ⟨⟨fun x hx => ha.hi h.hi x (by rw [World.size_setCell] at hx; exact hx), h.nlv, by simp [h.nwv], fun t => ?_⟩, ⟨(ha.chg (by simp)).st (ow' := ow) fun _ => by rw [hgo]; simp, ha.same⟩⟩
  cases t with
  | oth => trivial
  | st =>
    have := (hp (t := .st) (by simp)).put (o := i) (v := s.val r.length) hg (by simp)
    unfold Part at this ⊢
    simp only [List.length_set]
    exact this
  | ws =>
    have := RowAt.set (hp (t := .ws) (by simp)) hW (j := i) (by omega) (s.val r.length)
    rw [wsC_set _ _ _ _ _ h.nwv] at this
    show RowAt _ _ _ _ _ _ (u.ws.set i r).length _
    rw [List.length_set]
    exact this
  | row j =>
    intro hj
    have hj2 : j < u.ws.length := by have : j < (u.ws.set i r).length := hj; rwa [List.length_set] at this
    show RowAt _ _ _ _ _ ((V.wv.set i s).getD j default) ((u.ws.set i r).getD j []).length (iv ((u.ws.set i r).getD j []))
    by_cases e : j = i
    · subst e
      rw [show (V.wv.set j s).getD j default = s from by simp [List.getD, List.getElem?_set_self (show j < V.wv.length by rw [h.nwv]; exact hj2)], show (u.ws.set j r).getD j [] = r from by simp [List.getD, List.getElem?_set_self hj2]]
      exact hr.keep (fun g hg' => heap_setCell_other _ _ _ _ fun e2 => by have e3 := hr.2 g hg'; rw [e2, hg] at e3; cases e3) fun _ _ => rfl
    · rw [show (V.wv.set i s).getD j default = V.wv.getD j default from by simp [List.getD, List.getElem?_set_ne (Ne.symm e)], show (u.ws.set i r).getD j [] = u.ws.getD j [] from by simp [List.getD, List.getElem?_set_ne (Ne.symm e)]]
      exact (hp (t := .row j) (by simp [e])).put (o := i) (v := s.val r.length) hg (by simp) hj2
  | lit j => exact (hp (t := .lit j) (by simp)).put hg (by simp)
  | tr => exact (hp (t := .tr) (by simp)).put hg (by simp)
  | mk => exact (hp (t := .mk) (by simp)).put hg (by simp)
  | cl => exact (hp (t := .cl) (by simp)).put hg (by simp)
  | fr => exact (hp (t := .fr) (by simp)).put hg (by simp)
  | la => exact (hp (t := .la) (by simp)).put hg (by simp)
/-- nothing was appended: the row's own cells alone -/
theorem App.refl (ow : Nat → Tg) (t : Tg) (w : World) : App ow ow t w w := ⟨rfl, rfl, rfl, Nat.le_refl _, fun _ _ _ => rfl, fun _ _ => rfl, fun h => h⟩
theorem App.put {ow ow' : Nat → Tg} {t : Tg} {w w' : World} {g o : Nat} {v : Value} (h : App ow ow' t w w') (hg : g < w.heap.size → ow g = t) : App ow ow' t w (w'.setCell ⟨g, o, none⟩ v) :=
  ⟨h.os, h.tape, h.output, by rw [World.size_setCell]; exact h.size, fun x hx e => (heap_setCell_other _ _ _ _ (fun e2 => e (by subst e2; exact hg hx))).trans (h.block x hx e), h.same, fun k x hx => h.hi k x (by rw [World.size_setCell] at hx; exact hx)⟩
theorem App.later {ow ow' : Nat → Tg} {t : Tg} {w w' w2 : World} (h : App ow ow' t w w') (hb : Below w'.heap.size w' w2) : App ow ow' t w w2 :=
  ⟨hb.os.trans h.os, hb.tape.trans h.tape, hb.output.trans h.output, Nat.le_trans h.size hb.size, fun x hx e => (hb.block x (Nat.lt_of_lt_of_le hx h.size)).trans (h.block x hx e), h.same, fun k x hx => h.hi k x (Nat.le_trans hb.size hx)⟩
theorem RowAt.later {w w' : World} {ow : Nat → Tg} {t : Tg} {e : TypeId} {size n : Nat} {s : SlV} {xs : List Value} (h : RowAt w ow t e size s n xs) (hb : Below w.heap.size w w') : RowAt w' ow t e size s n xs :=
  h.keep (fun g hg => hb.block g (h.lt hg)) fun _ _ => rfl
end Go.Proofs.Ytfodejhipnmgnaa
