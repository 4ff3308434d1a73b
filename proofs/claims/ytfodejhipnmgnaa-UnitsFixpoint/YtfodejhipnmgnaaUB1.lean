/-
  units: what appends and stores leave of a store in memory.
-/
import Derived.Test.YtfodejhipnmgnaaUB0
namespace Go.Proofs.Ytfodejhipnmgnaa
open Go.RowKit
set_option linter.unusedVariables false
set_option linter.unusedSimpArgs false
/-- a block's sort, told anew -/
def setO (ow : Nat → Tg) (g : Nat) (t : Tg) : Nat → Tg := fun x => if x = g then t else ow x
theorem setO_same (ow : Nat → Tg) (g : Nat) (t : Tg) : setO ow g t g = t := by simp [setO]
theorem setO_other {ow : Nat → Tg} {g x : Nat} {t : Tg} (h : x ≠ g) : setO ow g t x = ow x := by simp [setO, h]
/-- behind an append to a row of sort t -/
structure App (ow ow' : Nat → Tg) (t : Tg) (w w' : World) : Prop where
  os : w'.os = w.os
  tape : w'.tape = w.tape
  output : w'.output = w.output
  size : w.heap.size ≤ w'.heap.size
  block : ∀ x, x < w.heap.size → ow x ≠ t → w'.heap[x]? = w.heap[x]?
  same : ∀ x, x < w.heap.size → ow' x = ow x
  hi : (∀ x, w.heap.size ≤ x → ow x = .oth) → ∀ x, w'.heap.size ≤ x → ow' x = .oth
theorem RowAt.app {w w' : World} {ow : Nat → Tg} {t : Tg} {e : TypeId} {size n m gb cap H : Nat} {s : SlV} {xs news : List Value} (h : RowAt w ow t e size s n xs)
    (hown : w'.ownsRow 0 e size (.slice (some ⟨gb, 0, none⟩) (n + m) cap) (n + m) (xs ++ news)) (hg : w.grownBy w' (s.val n).ownBlock) (hat : (s.val n).ownBlock = some gb ∨ gb = H) (hH : H = w.heap.size) (hlt : gb < w'.heap.size) :
    RowAt w' (setO ow gb t) t e size ⟨some gb, cap⟩ (n + m) (xs ++ news) ∧ App ow (setO ow gb t) t w w' := by
  rw [SlV.own] at hg hat
  have hso : ∀ x, x < w.heap.size → setO ow gb t x = ow x := fun x hx => by
    by_cases e : x = gb
    · subst e
      rcases hat with h1 | h1
      · rw [setO_same, h.2 _ h1]
      · omega
    · exact setO_other e
  refine ⟨⟨hown, fun g hg' => ?_⟩, hg.os, hg.tape, hg.output, hg.size, fun x hx hne => hg.block x hx fun e => ?_, hso, fun hi x hx => ?_⟩
  · simp only [Option.some.injEq] at hg'
    subst hg'
    exact setO_same _ _ _
  · exact hne (h.2 x e.symm)
  · rw [setO_other (by omega)]
    have := hg.size
    exact hi x (by omega)
theorem App.chg {ow ow' : Nat → Tg} {t : Tg} {w w' : World} (h : App ow ow' t w w') (ht : t ≠ .oth) : Chg ow w w' := ⟨h.os, h.tape, h.output, h.size, fun x hx e => h.block x hx (by rw [e]; exact fun e => ht e.symm)⟩
/-- a part of another sort stays -/
theorem Part.app {w w' : World} {ow ow' : Nat → Tg} {b : Nat} {V : SV} {u : US} {t t' : Tg} (h : Part w ow b V u t) (k : App ow ow' t' w w') (hne : t ≠ t') : Part w' ow' b V u t :=
  h.keep (fun x hx e => k.block x hx (by rw [e]; exact hne)) k.same
/-- a cell of the store's own, stored anew: the parts that lie elsewhere -/
theorem Part.st {w : World} {ow : Nat → Tg} {b o : Nat} {v : Value} {V : SV} {u : US} {t : Tg} (h : Part w ow b V u t) (hb : ow b = .st) (hne : t ≠ .st) : Part (w.setCell ⟨b, o, none⟩ v) ow b V u t :=
  h.keep (fun x hx e => heap_setCell_other _ _ _ _ (fun e2 => by subst e2; exact hne (e.symm.trans hb))) fun _ _ => rfl
theorem RowAt.st {w : World} {ow : Nat → Tg} {b o : Nat} {v : Value} {t : Tg} {e : TypeId} {size n : Nat} {s : SlV} {xs : List Value} (h : RowAt w ow t e size s n xs) (hb : ow b = .st) (hne : t ≠ .st) : RowAt (w.setCell ⟨b, o, none⟩ v) ow t e size s n xs :=
  h.keep (fun g hg => heap_setCell_other _ _ _ _ (fun e2 => by subst e2; exact hne ((h.2 _ hg).symm.trans hb))) fun _ _ => rfl
theorem Chg.st {w w' : World} {ow ow' : Nat → Tg} {b o : Nat} {v : Value} (h : Chg ow w w') (hb : b < w.heap.size → ow b ≠ .oth) : Chg ow w (w'.setCell ⟨b, o, none⟩ v) :=
  ⟨h.os, h.tape, h.output, by rw [World.size_setCell]; exact h.size, fun x hx e => (heap_setCell_other _ _ _ _ (fun e2 => hb (by subst e2; exact hx) (by subst e2; exact e))).trans (h.block x hx e)⟩
theorem cell_set_same {w : World} {b o : Nat} {v x : Value} (h : w.cell? ⟨b, o, none⟩ = some x) : (w.setCell ⟨b, o, none⟩ v).cell? ⟨b, o, none⟩ = some v := by
  obtain ⟨cur, e, fr, hb, hx⟩ := Sort.cells_of_cell? h
  have hlt : o < cur.size := by rcases Nat.lt_or_ge o cur.size with h1 | h1; exact h1; rw [Array.getElem?_eq_none h1] at hx; cases hx
  simp [World.cell?, World.setCell, Array.getElem?_modify, hb, hlt]
theorem cell_set_other {w : World} {b o o' : Nat} {v : Value} (hne : o' ≠ o) : (w.setCell ⟨b, o, none⟩ v).cell? ⟨b, o', none⟩ = w.cell? ⟨b, o', none⟩ := by
  simp only [World.cell?, World.setCell, Array.getElem?_modify, if_true]
  cases h : w.heap[b]? with
  | none => rfl
  | some ob =>
    cases ob <;> simp
    rw [Array.getElem?_setIfInBounds_ne (by omega)]
/-- behind an append to mks and the store of what it answers -/
theorem UM.app_mks {w w' : World} {ow : Nat → Tg} {b gb cap H m : Nat} {V : SV} {u : US} {zs : List Mk} (h : UM w ow b V u)
    (hown : w'.ownsRow 0 61 3 (.slice (some ⟨gb, 0, none⟩) (u.mks.length + m) cap) (u.mks.length + m) (mkC u.mks ++ mkC zs)) (hm : m = zs.length) (hg : w.grownBy w' (V.mks.val u.mks.length).ownBlock) (hat : (V.mks.val u.mks.length).ownBlock = some gb ∨ gb = H) (hH : H = w.heap.size) (hlt : gb < w'.heap.size) :
    UM (w'.setCell ⟨b, 1, none⟩ (.slice (some ⟨gb, 0, none⟩) (u.mks.length + m) cap)) (setO ow gb .mk) b { V with mks := ⟨some gb, cap⟩ } { u with mks := u.mks ++ zs } ∧ Chg ow w (w'.setCell ⟨b, 1, none⟩ (.slice (some ⟨gb, 0, none⟩) (u.mks.length + m) cap)) ∧ ∀ x, x < w.heap.size → setO ow gb .mk x = ow x := by
  obtain ⟨hr, ha⟩ := RowAt.app (h.part .mk) hown hg hat hH hlt
  have hc := (h.part .st).app ha (by simp)
  have hb := hc.1
  have hbl := (h.part .st).2.1.lt
  subst hm
  refine ⟨⟨fun x hx => ha.hi h.hi x (by rw [World.size_setCell] at hx; exact hx), h.nlv, h.nwv, fun t => ?_⟩, (ha.chg (by simp)).st (ow' := ow) (fun _ e => by rw [(h.part .st).1] at e; cases e), ha.same⟩
  cases t with
  | oth => trivial
  | st =>
    obtain ⟨h0, hrw, c0, c1, c2, c3, c4, c5, c6⟩ := hc
    refine ⟨h0, hrw.setCell _ _, ?_, ?_, ?_, ?_, ?_, ?_, ?_⟩
    · rw [cell_set_other (by decide)]; exact c0
    · show _ = some (SlV.val ⟨some gb, cap⟩ (u.mks ++ zs).length); rw [List.length_append]; exact cell_set_same c1
    · rw [cell_set_other (by decide)]; exact c2
    · rw [cell_set_other (by decide)]; exact c3
    · rw [cell_set_other (by decide)]; exact c4
    · rw [cell_set_other (by decide)]; exact c5
    · rw [cell_set_other (by decide)]; exact c6
  | mk =>
    show RowAt _ _ _ _ _ _ (u.mks ++ zs).length (mkC (u.mks ++ zs))
    rw [List.length_append, mkC_app]
    exact hr.st hb (by simp)
  | row i => exact ((h.part (.row i)).app ha (by simp)).st hb (by simp)
  | lit i => exact ((h.part (.lit i)).app ha (by simp)).st hb (by simp)
  | tr => exact ((h.part .tr).app ha (by simp)).st hb (by simp)
  | cl => exact ((h.part .cl).app ha (by simp)).st hb (by simp)
  | ws => exact ((h.part .ws).app ha (by simp)).st hb (by simp)
  | fr => exact ((h.part .fr).app ha (by simp)).st hb (by simp)
  | la => exact ((h.part .la).app ha (by simp)).st hb (by simp)
/-- behind an append to fr and the store of what it answers -/
theorem UM.app_fr {w w' : World} {ow : Nat → Tg} {b gb cap H m : Nat} {V : SV} {u : US} {zs : List Int} (h : UM w ow b V u)
    (hown : w'.ownsRow 0 3 1 (.slice (some ⟨gb, 0, none⟩) (u.fr.length + m) cap) (u.fr.length + m) (iv u.fr ++ iv zs)) (hm : m = zs.length) (hg : w.grownBy w' (V.fr.val u.fr.length).ownBlock) (hat : (V.fr.val u.fr.length).ownBlock = some gb ∨ gb = H) (hH : H = w.heap.size) (hlt : gb < w'.heap.size) :
    UM (w'.setCell ⟨b, 5, none⟩ (.slice (some ⟨gb, 0, none⟩) (u.fr.length + m) cap)) (setO ow gb .fr) b { V with fr := ⟨some gb, cap⟩ } { u with fr := u.fr ++ zs } ∧ Chg ow w (w'.setCell ⟨b, 5, none⟩ (.slice (some ⟨gb, 0, none⟩) (u.fr.length + m) cap)) ∧ ∀ x, x < w.heap.size → setO ow gb .fr x = ow x := by
  obtain ⟨hr, ha⟩ := RowAt.app (h.part .fr) hown hg hat hH hlt
  have hc := (h.part .st).app ha (by simp)
  have hb := hc.1
  have hbl := (h.part .st).2.1.lt
  subst hm
  refine ⟨⟨fun x hx => ha.hi h.hi x (by rw [World.size_setCell] at hx; exact hx), h.nlv, h.nwv, fun t => ?_⟩, (ha.chg (by simp)).st (ow' := ow) (fun _ e => by rw [(h.part .st).1] at e; cases e), ha.same⟩
  cases t with
  | oth => trivial
  | st =>
    obtain ⟨h0, hrw, c0, c1, c2, c3, c4, c5, c6⟩ := hc
    refine ⟨h0, hrw.setCell _ _, ?_, ?_, ?_, ?_, ?_, ?_, ?_⟩
    · rw [cell_set_other (by decide)]; exact c0
    · rw [cell_set_other (by decide)]; exact c1
    · rw [cell_set_other (by decide)]; exact c2
    · rw [cell_set_other (by decide)]; exact c3
    · rw [cell_set_other (by decide)]; exact c4
    · show _ = some (SlV.val ⟨some gb, cap⟩ (u.fr ++ zs).length); rw [List.length_append]; exact cell_set_same c5
    · rw [cell_set_other (by decide)]; exact c6
  | fr =>
    show RowAt _ _ _ _ _ _ (u.fr ++ zs).length (iv (u.fr ++ zs))
    rw [List.length_append, iv_append]
    exact hr.st hb (by simp)
  | row i => exact ((h.part (.row i)).app ha (by simp)).st hb (by simp)
  | lit i => exact ((h.part (.lit i)).app ha (by simp)).st hb (by simp)
  | tr => exact ((h.part .tr).app ha (by simp)).st hb (by simp)
  | mk => exact ((h.part .mk).app ha (by simp)).st hb (by simp)
  | cl => exact ((h.part .cl).app ha (by simp)).st hb (by simp)
  | ws => exact ((h.part .ws).app ha (by simp)).st hb (by simp)
  | la => exact ((h.part .la).app ha (by simp)).st hb (by simp)
/-- behind an append to la and the store of what it answers -/
theorem UM.app_la {w w' : World} {ow : Nat → Tg} {b gb cap H m : Nat} {V : SV} {u : US} {zs : List (Int × Int)} (h : UM w ow b V u)
    (hown : w'.ownsRow 0 96 2 (.slice (some ⟨gb, 0, none⟩) (u.la.length + m) cap) (u.la.length + m) (laC u.la ++ laC zs)) (hm : m = zs.length) (hg : w.grownBy w' (V.la.val u.la.length).ownBlock) (hat : (V.la.val u.la.length).ownBlock = some gb ∨ gb = H) (hH : H = w.heap.size) (hlt : gb < w'.heap.size) :
    UM (w'.setCell ⟨b, 6, none⟩ (.slice (some ⟨gb, 0, none⟩) (u.la.length + m) cap)) (setO ow gb .la) b { V with la := ⟨some gb, cap⟩ } { u with la := u.la ++ zs } ∧ Chg ow w (w'.setCell ⟨b, 6, none⟩ (.slice (some ⟨gb, 0, none⟩) (u.la.length + m) cap)) ∧ ∀ x, x < w.heap.size → setO ow gb .la x = ow x := by
  obtain ⟨hr, ha⟩ := RowAt.app (h.part .la) hown hg hat hH hlt
  have hc := (h.part .st).app ha (by simp)
  have hb := hc.1
  have hbl := (h.part .st).2.1.lt
  subst hm
  refine ⟨⟨fun x hx => ha.hi h.hi x (by rw [World.size_setCell] at hx; exact hx), h.nlv, h.nwv, fun t => ?_⟩, (ha.chg (by simp)).st (ow' := ow) (fun _ e => by rw [(h.part .st).1] at e; cases e), ha.same⟩
  cases t with
  | oth => trivial
  | st =>
    obtain ⟨h0, hrw, c0, c1, c2, c3, c4, c5, c6⟩ := hc
    refine ⟨h0, hrw.setCell _ _, ?_, ?_, ?_, ?_, ?_, ?_, ?_⟩
    · rw [cell_set_other (by decide)]; exact c0
    · rw [cell_set_other (by decide)]; exact c1
    · rw [cell_set_other (by decide)]; exact c2
    · rw [cell_set_other (by decide)]; exact c3
    · rw [cell_set_other (by decide)]; exact c4
    · rw [cell_set_other (by decide)]; exact c5
    · show _ = some (SlV.val ⟨some gb, cap⟩ (u.la ++ zs).length); rw [List.length_append]; exact cell_set_same c6
  | la =>
    show RowAt _ _ _ _ _ _ (u.la ++ zs).length (laC (u.la ++ zs))
    rw [List.length_append, laC_app]
    exact hr.st hb (by simp)
  | row i => exact ((h.part (.row i)).app ha (by simp)).st hb (by simp)
  | lit i => exact ((h.part (.lit i)).app ha (by simp)).st hb (by simp)
  | tr => exact ((h.part .tr).app ha (by simp)).st hb (by simp)
  | mk => exact ((h.part .mk).app ha (by simp)).st hb (by simp)
  | cl => exact ((h.part .cl).app ha (by simp)).st hb (by simp)
  | ws => exact ((h.part .ws).app ha (by simp)).st hb (by simp)
  | fr => exact ((h.part .fr).app ha (by simp)).st hb (by simp)
end Go.Proofs.Ytfodejhipnmgnaa
