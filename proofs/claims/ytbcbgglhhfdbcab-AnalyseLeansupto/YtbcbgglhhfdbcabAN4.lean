/-
  analyse: rows that calls own, told apart by a number for each block (0: none of them).
-/
import Derived.Test.YtbcbgglhhfdbcabAN0
namespace Go.Proofs.Ytbcbgglhhfdbcab
open Go.RowKit
set_option linter.unusedVariables false
set_option linter.unusedSimpArgs false
/-- a slice from a block's beginning on, or nil -/
structure SlV where
  g : Option Nat
  c : Nat
instance : Inhabited SlV := ⟨⟨none, 0⟩⟩
def SlV.at' (s : SlV) : Option Addr := s.g.map fun x => ⟨x, 0, none⟩
def SlV.val (s : SlV) (n : Nat) : Value := .slice s.at' n s.c
/-- a row of the store's own -/
def RowAt (w : World) (ow : Nat → Nat) (t : Nat) (e : TypeId) (size : Nat) (s : SlV) (n : Nat) (xs : List Value) : Prop :=
  w.ownsRow 0 e size (s.val n) n xs ∧ ∀ g, s.g = some g → ow g = t
section
variable {w w' : World} {ow ow' : Nat → Nat} {t : Nat} {e : TypeId} {size n : Nat} {s : SlV} {xs : List Value}
theorem SlV.own (s : SlV) (n : Nat) : (s.val n).ownBlock = s.g := by cases h : s.g <;> simp [SlV.val, SlV.at', h, Value.ownBlock]
theorem RowAt.lt (h : RowAt w ow t e size s n xs) {g : Nat} (hg : s.g = some g) : g < w.heap.size := (h.1.lt g (by rw [SlV.own, hg])).2
theorem RowAt.keep (h : RowAt w ow t e size s n xs) (hk : ∀ g, s.g = some g → w'.heap[g]? = w.heap[g]?) (ho : ∀ g, s.g = some g → ow' g = ow g) : RowAt w' ow' t e size s n xs := by
  refine ⟨⟨h.1.1, ?_⟩, fun g hg => (ho g hg).trans (h.2 g hg)⟩
  rcases h.1.2 with h0 | ⟨g, cap, cur, hv, hg, hc, rest⟩
  · exact Or.inl h0
  · refine Or.inr ⟨g, cap, cur, hv, hg, ?_, rest⟩
    rw [hk g (by have := SlV.own s n; rw [hv] at this; exact this.symm)]
    exact hc
theorem RowAt.got (h : RowAt w ow t e size s n xs) (hn : 0 < n) : ∃ g, s.g = some g := by
  rcases h.1.2 with ⟨_, h0⟩ | ⟨g, cap, cur, hv, _⟩
  · omega
  · exact ⟨g, by have := SlV.own s n; rw [hv] at this; exact this.symm⟩
theorem SlV.val_some {g : Nat} (hg : s.g = some g) : s.val n = .slice (some ⟨g, 0, none⟩) n s.c := by simp [SlV.val, SlV.at', hg]
theorem RowAt.cell (h : RowAt w ow t e size s n xs) {g : Nat} (hg : s.g = some g) {j : Nat} (hj : j < n * size) : w.cell? ⟨g, j, none⟩ = xs[j]? := by
  have h1 := h.1
  rw [SlV.val_some hg] at h1
  exact h1.cellAt j hj
theorem RowAt.raw (h : RowAt w ow t e size s n xs) {g : Nat} (hg : s.g = some g) : ∃ cur, w.heap[g]? = some (.cells cur e (0, 0)) ∧ n ≤ s.c ∧ s.c ≤ maxLen ∧ cur.size = s.c * size ∧ cur.toList.take (n * size) = xs := by
  have h1 := h.1
  rw [SlV.val_some hg] at h1
  rcases h1.2 with ⟨h0, _⟩ | ⟨g', cap, cur, hv, _, hc, h3, h4, h5, h6⟩
  · simp at h0
  · simp only [Value.slice.injEq, Option.some.injEq, Addr.mk.injEq, and_true, true_and] at hv
    obtain ⟨rfl, rfl⟩ := hv
    exact ⟨cur, hc, h3, h4, h5, h6⟩
theorem RowAt.row (h : RowAt w ow t e size s n xs) {g : Nat} (hg : s.g = some g) : Row w g := by
  obtain ⟨cur, hc, _⟩ := h.raw hg
  exact ⟨cur, _, hc⟩
theorem RowAt.le (h : RowAt w ow t e size s n xs) : n ≤ maxLen := by
  rcases h.1.2 with ⟨_, h0⟩ | ⟨g, cap, cur, hv, _, _, h3, h4, _⟩ <;> omega
theorem RowAt.set (h : RowAt w ow t e size s n xs) {g : Nat} (hg : s.g = some g) {j : Nat} (hj : j < n * size) (u : Value) : RowAt (w.setCell ⟨g, j, none⟩ u) ow t e size s n (xs.set j u) := by
  obtain ⟨cur, hc, h3, h4, h5, h6⟩ := h.raw hg
  refine ⟨⟨by rw [List.length_set]; exact h.1.1, Or.inr ⟨g, s.c, cur.setIfInBounds j u, SlV.val_some hg, Nat.zero_le _, ?_, h3, h4, by simpa using h5, ?_⟩⟩, h.2⟩
  · simp [World.setCell, Array.getElem?_modify, hc]
  · rw [Array.toList_setIfInBounds, ← h6, List.take_set]
theorem RowAt.cut (h : RowAt w ow t e size s n xs) {g k : Nat} (hg : s.g = some g) (hk : k ≤ n) : RowAt w ow t e size s k (xs.take (k * size)) := by
  obtain ⟨cur, hc, h3, h4, h5, h6⟩ := h.raw hg
  have hm := Nat.mul_le_mul_right size hk
  refine ⟨⟨by rw [List.length_take, h.1.1, Nat.min_eq_left hm], Or.inr ⟨g, s.c, cur, SlV.val_some hg, Nat.zero_le _, hc, by omega, h4, h5, ?_⟩⟩, h.2⟩
  rw [← h6, List.take_take, Nat.min_eq_left hm]
theorem RowAt.nil : RowAt w ow t e size default 0 [] := ⟨World.ownsRow_nil _ _ _ _, fun g hg => by cases hg⟩
end
/-- what is not the store's stays -/
structure Chg (ow : Nat → Nat) (w w' : World) : Prop where
  os : w'.os = w.os
  tape : w'.tape = w.tape
  output : w'.output = w.output
  size : w.heap.size ≤ w'.heap.size
  block : ∀ x, x < w.heap.size → ow x = 0 → w'.heap[x]? = w.heap[x]?
theorem Chg.of_below {ow : Nat → Nat} {w w' : World} (h : Below w.heap.size w w') : Chg ow w w' := ⟨h.os, h.tape, h.output, h.size, fun x hx _ => h.block x hx⟩
theorem Chg.refl (ow : Nat → Nat) (w : World) : Chg ow w w := Chg.of_below (Below.refl _ _)
theorem Chg.trans {ow ow' : Nat → Nat} {w w1 w2 : World} (h : Chg ow w w1) (k : Chg ow' w1 w2) (ho : ∀ x, x < w.heap.size → ow' x = ow x) : Chg ow w w2 :=
  ⟨k.os.trans h.os, k.tape.trans h.tape, k.output.trans h.output, Nat.le_trans h.size k.size, fun x hx e => (k.block x (Nat.lt_of_lt_of_le hx h.size) ((ho x hx).trans e)).trans (h.block x hx e)⟩
/-- a block's sort, told anew -/
def setO (ow : Nat → Nat) (g : Nat) (t : Nat) : Nat → Nat := fun x => if x = g then t else ow x
theorem setO_same (ow : Nat → Nat) (g : Nat) (t : Nat) : setO ow g t g = t := by simp [setO]
theorem setO_other {ow : Nat → Nat} {g x : Nat} {t : Nat} (h : x ≠ g) : setO ow g t x = ow x := by simp [setO, h]
/-- behind an append to a row of sort t -/
structure App (ow ow' : Nat → Nat) (t : Nat) (w w' : World) : Prop where
  os : w'.os = w.os
  tape : w'.tape = w.tape
  output : w'.output = w.output
  size : w.heap.size ≤ w'.heap.size
  block : ∀ x, x < w.heap.size → ow x ≠ t → w'.heap[x]? = w.heap[x]?
  same : ∀ x, x < w.heap.size → ow' x = ow x
  kt : ∀ (x : Nat) (cs : Array Value), w.heap[x]? = some (Obj.cells cs 46 (0, 0)) → w'.heap[x]? = w.heap[x]?
  hi : (∀ x, w.heap.size ≤ x → ow x = 0) → ∀ x, w'.heap.size ≤ x → ow' x = 0
theorem RowAt.app {w w' : World} {ow : Nat → Nat} {t : Nat} {e : TypeId} {size n m gb cap H : Nat} {s : SlV} {xs news : List Value} (h : RowAt w ow t e size s n xs)
    (hown : w'.ownsRow 0 e size (.slice (some ⟨gb, 0, none⟩) (n + m) cap) (n + m) (xs ++ news)) (hg : w.grownBy w' (s.val n).ownBlock) (hat : (s.val n).ownBlock = some gb ∨ gb = H) (hH : H = w.heap.size) (hlt : gb < w'.heap.size) (he : e ≠ 46) :
    RowAt w' (setO ow gb t) t e size ⟨some gb, cap⟩ (n + m) (xs ++ news) ∧ App ow (setO ow gb t) t w w' := by
  rw [SlV.own] at hg hat
  have hso : ∀ x, x < w.heap.size → setO ow gb t x = ow x := fun x hx => by
    by_cases e : x = gb
    · subst e
      rcases hat with h1 | h1
      · rw [setO_same, h.2 _ h1]
      · omega
    · exact setO_other e
  refine ⟨⟨hown, fun g hg' => ?_⟩, hg.os, hg.tape, hg.output, hg.size, fun x hx hne => hg.block x hx fun e => ?_, hso, fun x cs hx => ?_, fun hi x hx => ?_⟩
  · simp only [Option.some.injEq] at hg'
    subst hg'
    exact setO_same _ _ _
  · exact hne (h.2 x e.symm)
  · refine hg.block x (Array.getElem?_eq_some_iff.1 hx).1 fun e9 => ?_
    obtain ⟨cur, h1, _⟩ := h.raw e9.symm
    rw [hx] at h1
    injection h1 with h1
    injection h1 with _ h2 _
    exact he h2.symm
  · rw [setO_other (by omega)]
    have := hg.size
    exact hi x (by omega)
theorem App.chg {ow ow' : Nat → Nat} {t : Nat} {w w' : World} (h : App ow ow' t w w') (ht : t ≠ 0) : Chg ow w w' := ⟨h.os, h.tape, h.output, h.size, fun x hx e => h.block x hx (by rw [e]; exact fun e => ht e.symm)⟩
theorem cell_set_same {w : World} {b o : Nat} {v x : Value} (h : w.cell? ⟨b, o, none⟩ = some x) : (w.setCell ⟨b, o, none⟩ v).cell? ⟨b, o, none⟩ = some v := by
  obtain ⟨cur, e, fr, hb, hx⟩ := Sort.cells_of_cell? h
  have hlt : o < cur.size := by rcases Nat.lt_or_ge o cur.size with h1 | h1; exact h1; rw [Array.getElem?_eq_none h1] at hx; cases hx
  simp [World.cell?, World.setCell, Array.getElem?_modify, hb, hlt]
theorem cell_set_other {w : World} {b o o' : Nat} {v : Value} (hne : o' ≠ o) : (w.setCell ⟨b, o, none⟩ v).cell? ⟨b, o', none⟩ = w.cell? ⟨b, o', none⟩ := by
  simp only [World.cell?, World.setCell, Array.getElem?_modify, if_true]
  cases h : w.heap[b]? with
  | none => rfl
  | some ob =>
    cases ob <;> simp
    rw [Array.getElem?_setIfInBounds_ne (by omega)]
section
variable {w w' w1 w2 : World} {ow ow' ow1 ow2 : Nat → Nat} {t t' : Nat} {e : TypeId} {size n : Nat} {s : SlV} {xs : List Value}
theorem RowAt.nk (h : RowAt w ow t e size s n xs) {g : Nat} (hg : s.g = some g) (he : e ≠ 46) (cs : Array Value) : w.heap[g]? ≠ some (Obj.cells cs 46 (0, 0)) := fun q => by
  obtain ⟨cur, h1, _⟩ := h.raw hg
  rw [q] at h1
  injection h1 with h1
  injection h1 with _ h2 _
  exact he h2.symm
theorem App.refl (ow : Nat → Nat) (t : Nat) (w : World) : App ow ow t w w := ⟨rfl, rfl, rfl, Nat.le_refl _, fun _ _ _ => rfl, fun _ _ => rfl, fun _ _ _ => rfl, fun h => h⟩
theorem App.of_below (h : Below w.heap.size w w') : App ow ow t w w' := ⟨h.os, h.tape, h.output, h.size, fun x hx _ => h.block x hx, fun _ _ => rfl, fun x cs hx => h.block x (Array.getElem?_eq_some_iff.1 hx).1, fun h1 x hx => h1 x (Nat.le_trans h.size hx)⟩
theorem App.trans (h : App ow ow1 t w w1) (k : App ow1 ow2 t w1 w2) : App ow ow2 t w w2 :=
  ⟨k.os.trans h.os, k.tape.trans h.tape, k.output.trans h.output, Nat.le_trans h.size k.size, fun x hx e => (k.block x (Nat.lt_of_lt_of_le hx h.size) (by rw [h.same x hx]; exact e)).trans (h.block x hx e),
   fun x hx => (k.same x (Nat.lt_of_lt_of_le hx h.size)).trans (h.same x hx), fun x cs hx => (k.kt x cs ((h.kt x cs hx).trans hx)).trans (h.kt x cs hx), fun hi => k.hi (h.hi hi)⟩
theorem App.bel (h : App ow ow' t w w') {B : Nat} (hB : ∀ x, x < B → ow x = 0) (hs : B ≤ w.heap.size) (ht : t ≠ 0) : Below B w w' := ⟨h.os, h.tape, h.output, h.size, fun x hx => h.block x (by omega) (by rw [hB x hx]; exact fun e => ht e.symm)⟩
theorem App.low (h : App ow ow' t w w') {B : Nat} (hB : ∀ x, x < B → ow x = 0) (hs : B ≤ w.heap.size) : ∀ x, x < B → ow' x = 0 := fun x hx => (h.same x (by omega)).trans (hB x hx)
theorem RowAt.far (h : RowAt w ow t e size s n xs) (k : App ow ow' t' w w') (hne : t ≠ t') : RowAt w' ow' t e size s n xs :=
  h.keep (fun g hg => k.block g (h.lt hg) (by rw [h.2 g hg]; exact hne)) fun g hg => k.same g (h.lt hg)
theorem RowAt.belowR (h : RowAt w ow t e size s n xs) (k : Below w.heap.size w w') : RowAt w' ow t e size s n xs := h.keep (fun g hg => k.block g (h.lt hg)) fun _ _ => rfl
/-- a store into a block of sort t -/
theorem App.set (ow : Nat → Nat) (t : Nat) (w : World) (b o : Nat) (v : Value) (hb : ow b = t) (hk : ∀ cs : Array Value, w.heap[b]? ≠ some (Obj.cells cs 46 (0, 0))) : App ow ow t w (w.setCell ⟨b, o, none⟩ v) :=
  ⟨rfl, rfl, rfl, by rw [World.size_setCell]; exact Nat.le_refl _, fun x hx e => heap_setCell_other _ _ _ _ (fun e2 => e (by subst e2; exact hb)), fun _ _ => rfl, fun x cs hx => heap_setCell_other _ _ _ _ (fun e2 => by subst e2; exact hk cs hx), fun h x hx => h x (by rw [World.size_setCell] at hx; exact hx)⟩
/-- a new block of sort t -/
theorem App.alloc (ow : Nat → Nat) (t : Nat) (w : World) (o : Obj) : App ow (setO ow w.heap.size t) t w (w.alloc o) :=
  ⟨rfl, rfl, rfl, by rw [size_alloc]; omega, fun x hx _ => (below_alloc o).block x hx, fun x hx => setO_other (by omega), fun x cs hx => (below_alloc o).block x (Array.getElem?_eq_some_iff.1 hx).1, fun h x hx => by rw [size_alloc] at hx; rw [setO_other (by omega)]; exact h x (by omega)⟩
end
end Go.Proofs.Ytbcbgglhhfdbcab
