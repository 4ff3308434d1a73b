/-
  units: a store in memory.
-/
import Derived.Test.YtfodejhipnmgnaaUA0
namespace Go.Proofs.Ytfodejhipnmgnaa
open Go.RowKit
set_option linter.unusedVariables false
set_option linter.unusedSimpArgs false
/-- what a block is of -/
inductive Tg where
  | oth | st | tr | mk | cl | ws | fr | la
  | row (i : Nat)
  | lit (n : Nat)
deriving DecidableEq
/-- a slice from a block's beginning on, or nil -/
structure SlV where
  g : Option Nat
  c : Nat
instance : Inhabited SlV := ⟨⟨none, 0⟩⟩
def SlV.at' (s : SlV) : Option Addr := s.g.map fun x => ⟨x, 0, none⟩
def SlV.val (s : SlV) (n : Nat) : Value := .slice s.at' n s.c
structure Mk where
  l : Int
  v : Int
  r : Int
instance : Inhabited Mk := ⟨⟨0, 0, 0⟩⟩
structure CL where
  lits : List Int
  b0 : Int
  b1 : Int
  a0 : Int
  a1 : Int
  nx : Int
instance : Inhabited CL := ⟨⟨[], 0, 0, 0, 0, 0⟩⟩
structure US where
  tr : List Int
  mks : List Mk
  cl : List CL
  ws : List (List Int)
  fo : Nat
  fr : List Int
  la : List (Int × Int)
structure SV where
  tr : SlV
  mks : SlV
  cl : SlV
  ws : SlV
  fr : SlV
  la : SlV
  lv : List SlV
  wv : List SlV
def mkC : List Mk → List Value
  | [] => []
  | m :: r => .int .i64 m.l :: .int .i64 m.v :: .int .i64 m.r :: mkC r
def laC : List (Int × Int) → List Value
  | [] => []
  | m :: r => .int .i64 m.1 :: .int .i64 m.2 :: laC r
def clC : List SlV → List CL → List Value
  | v :: vs, c :: cs => v.val c.lits.length :: .int .i64 c.b0 :: .int .i64 c.b1 :: .int .i64 c.a0 :: .int .i64 c.a1 :: .int .i64 c.nx :: clC vs cs
  | _, _ => []
def wsC : List SlV → List (List Int) → List Value
  | v :: vs, l :: ls => v.val l.length :: wsC vs ls
  | _, _ => []
/-- a row of the store's own -/
def RowAt (w : World) (ow : Nat → Tg) (t : Tg) (e : TypeId) (size : Nat) (s : SlV) (n : Nat) (xs : List Value) : Prop :=
  w.ownsRow 0 e size (s.val n) n xs ∧ ∀ g, s.g = some g → ow g = t
section
variable {w w' : World} {ow ow' : Nat → Tg} {t : Tg} {e : TypeId} {size n : Nat} {s : SlV} {xs : List Value}
theorem SlV.own (s : SlV) (n : Nat) : (s.val n).ownBlock = s.g := by cases h : s.g <;> simp [SlV.val, SlV.at', h, Value.ownBlock]
theorem RowAt.lt (h : RowAt w ow t e size s n xs) {g : Nat} (hg : s.g = some g) : g < w.heap.size := (h.1.lt g (by rw [SlV.own, hg])).2
theorem RowAt.keep (h : RowAt w ow t e size s n xs) (hk : ∀ g, s.g = some g → w'.heap[g]? = w.heap[g]?) (ho : ∀ g, s.g = some g → ow' g = ow g) : RowAt w' ow' t e size s n xs := by
  refine ⟨⟨h.1.1, ?_⟩, fun g hg => (ho g hg).trans (h.2 g hg)⟩
  rcases h.1.2 with h0 | ⟨g, cap, cur, hv, hg, hc, rest⟩
  · exact Or.inl h0
  · refine Or.inr ⟨g, cap, cur, hv, hg, ?_, rest⟩
    rw [hk g (by have := SlV.own s n; rw [hv] at this; exact this.symm)]
    exact hc
theorem RowAt.got (h : RowAt w ow t e size s n xs) (hn : 0 < n) : ∃ g, s.g = some g := by
  rcases h.1.2 with ⟨_, h0⟩ | ⟨g, cap, cur, hv, _⟩
  · omega
  · exact ⟨g, by have := SlV.own s n; rw [hv] at this; exact this.symm⟩
theorem SlV.val_some {g : Nat} (hg : s.g = some g) : s.val n = .slice (some ⟨g, 0, none⟩) n s.c := by simp [SlV.val, SlV.at', hg]
theorem RowAt.cell (h : RowAt w ow t e size s n xs) {g : Nat} (hg : s.g = some g) {j : Nat} (hj : j < n * size) : w.cell? ⟨g, j, none⟩ = xs[j]? := by
  have h1 := h.1
  rw [SlV.val_some hg] at h1
  exact h1.cellAt j hj
theorem RowAt.raw (h : RowAt w ow t e size s n xs) {g : Nat} (hg : s.g = some g) : ∃ cur, w.heap[g]? = some (.cells cur e (0, 0)) ∧ n ≤ s.c ∧ s.c ≤ maxLen ∧ cur.size = s.c * size ∧ cur.toList.take (n * size) = xs := by
  have h1 := h.1
  rw [SlV.val_some hg] at h1
  rcases h1.2 with ⟨h0, _⟩ | ⟨g', cap, cur, hv, _, hc, h3, h4, h5, h6⟩
  · simp at h0
  · simp only [Value.slice.injEq, Option.some.injEq, Addr.mk.injEq, and_true, true_and] at hv
    obtain ⟨rfl, rfl⟩ := hv
    exact ⟨cur, hc, h3, h4, h5, h6⟩
theorem RowAt.row (h : RowAt w ow t e size s n xs) {g : Nat} (hg : s.g = some g) : Row w g := by
  obtain ⟨cur, hc, _⟩ := h.raw hg
  exact ⟨cur, _, hc⟩
theorem RowAt.le (h : RowAt w ow t e size s n xs) : n ≤ maxLen := by
  rcases h.1.2 with ⟨_, h0⟩ | ⟨g, cap, cur, hv, _, _, h3, h4, _⟩ <;> omega
theorem RowAt.set (h : RowAt w ow t e size s n xs) {g : Nat} (hg : s.g = some g) {j : Nat} (hj : j < n * size) (u : Value) : RowAt (w.setCell ⟨g, j, none⟩ u) ow t e size s n (xs.set j u) := by
  obtain ⟨cur, hc, h3, h4, h5, h6⟩ := h.raw hg
  refine ⟨⟨by rw [List.length_set]; exact h.1.1, Or.inr ⟨g, s.c, cur.setIfInBounds j u, SlV.val_some hg, Nat.zero_le _, ?_, h3, h4, by simpa using h5, ?_⟩⟩, h.2⟩
  · simp [World.setCell, Array.getElem?_modify, hc]
  · rw [Array.toList_setIfInBounds, ← h6, List.take_set]
theorem RowAt.cut (h : RowAt w ow t e size s n xs) {g k : Nat} (hg : s.g = some g) (hk : k ≤ n) : RowAt w ow t e size s k (xs.take (k * size)) := by
  obtain ⟨cur, hc, h3, h4, h5, h6⟩ := h.raw hg
  have hm := Nat.mul_le_mul_right size hk
  refine ⟨⟨by rw [List.length_take, h.1.1, Nat.min_eq_left hm], Or.inr ⟨g, s.c, cur, SlV.val_some hg, Nat.zero_le _, hc, by omega, h4, h5, ?_⟩⟩, h.2⟩
  rw [← h6, List.take_take, Nat.min_eq_left hm]
theorem RowAt.nil : RowAt w ow t e size default 0 [] := ⟨World.ownsRow_nil _ _ _ _, fun g hg => by cases hg⟩
end
theorem mkC_length : ∀ l : List Mk, (mkC l).length = l.length * 3
  | [] => rfl
  | m :: r => by simp only [mkC, List.length_cons, mkC_length r]; omega
theorem wsC_length : ∀ (v : List SlV) (l : List (List Int)), v.length = l.length → (wsC v l).length = l.length
  | [], [], _ => rfl
  | v :: vs, c :: cs, h => by simp only [wsC, List.length_cons, wsC_length vs cs (by simpa using h)]
theorem mkC_app : ∀ a b : List Mk, mkC (a ++ b) = mkC a ++ mkC b
  | [], b => rfl
  | m :: r, b => by simp only [List.cons_append, mkC, mkC_app r b]
theorem laC_app : ∀ a b : List (Int × Int), laC (a ++ b) = laC a ++ laC b
  | [], b => rfl
  | m :: r, b => by simp only [List.cons_append, laC, laC_app r b]
theorem clC_app : ∀ (v v' : List SlV) (l l' : List CL), v.length = l.length → clC (v ++ v') (l ++ l') = clC v l ++ clC v' l'
  | [], v', [], l', _ => rfl
  | v :: vs, v', c :: cs, l', h => by simp only [List.cons_append, clC, clC_app vs v' cs l' (by simpa using h)]
theorem mkC_at : ∀ (l : List Mk) (i : Nat), i < l.length → (mkC l)[i * 3]? = some (.int .i64 (l.getD i default).l) ∧ (mkC l)[i * 3 + 1]? = some (.int .i64 (l.getD i default).v) ∧ (mkC l)[i * 3 + 2]? = some (.int .i64 (l.getD i default).r)
  | m :: r, 0, _ => ⟨rfl, rfl, rfl⟩
  | m :: r, i + 1, h => by
    obtain ⟨h1, h2, h3⟩ := mkC_at r i (by simpa using h)
    rw [show (i + 1) * 3 = i * 3 + 1 + 1 + 1 by omega]
    simp only [mkC, List.getElem?_cons_succ, List.getD_cons_succ]
    exact ⟨h1, h2, h3⟩
theorem clC_at : ∀ (v : List SlV) (l : List CL) (i : Nat), v.length = l.length → i < l.length → (clC v l)[i * 6]? = some ((v.getD i default).val (l.getD i default).lits.length) ∧ (clC v l)[i * 6 + 1]? = some (.int .i64 (l.getD i default).b0) ∧ (clC v l)[i * 6 + 2]? = some (.int .i64 (l.getD i default).b1) ∧ (clC v l)[i * 6 + 3]? = some (.int .i64 (l.getD i default).a0) ∧ (clC v l)[i * 6 + 4]? = some (.int .i64 (l.getD i default).a1) ∧ (clC v l)[i * 6 + 5]? = some (.int .i64 (l.getD i default).nx)
  | v :: vs, c :: cs, 0, _, _ => ⟨rfl, rfl, rfl, rfl, rfl, rfl⟩
  | [], c :: cs, i, hl, h => by simp at hl
  | v :: vs, c :: cs, i + 1, hl, h => by
    obtain ⟨h1, h2, h3, h4, h5, h6⟩ := clC_at vs cs i (by simpa using hl) (by simpa using h)
    rw [show (i + 1) * 6 = i * 6 + 1 + 1 + 1 + 1 + 1 + 1 by omega]
    simp only [clC, List.getElem?_cons_succ, List.getD_cons_succ]
    exact ⟨h1, h2, h3, h4, h5, h6⟩
theorem wsC_at : ∀ (v : List SlV) (l : List (List Int)) (i : Nat), v.length = l.length → i < l.length → (wsC v l)[i]? = some ((v.getD i default).val (l.getD i default).length)
  | v :: vs, c :: cs, 0, _, _ => rfl
  | [], c :: cs, i, hl, h => by simp at hl
  | v :: vs, c :: cs, i + 1, hl, h => by
    simp only [wsC, List.getElem?_cons_succ, List.getD_cons_succ]
    exact wsC_at vs cs i (by simpa using hl) (by simpa using h)
theorem wsC_set : ∀ (v : List SlV) (l : List (List Int)) (i : Nat) (s : SlV) (x : List Int), v.length = l.length → (wsC v l).set i (s.val x.length) = wsC (v.set i s) (l.set i x)
  | [], [], i, s, x, _ => by simp [wsC]
  | v :: vs, c :: cs, 0, s, x, _ => rfl
  | v :: vs, c :: cs, i + 1, s, x, hl => by simp only [wsC, List.set_cons_succ, wsC_set vs cs i s x (by simpa using hl)]
/-- what the store has in blocks of one sort -/
def Part (w : World) (ow : Nat → Tg) (b : Nat) (V : SV) (u : US) : Tg → Prop
  | .oth => True
  | .st => ow b = .st ∧ Row w b ∧ w.cell? ⟨b, 0, none⟩ = some (V.tr.val u.tr.length) ∧ w.cell? ⟨b, 1, none⟩ = some (V.mks.val u.mks.length) ∧ w.cell? ⟨b, 2, none⟩ = some (V.cl.val u.cl.length) ∧ w.cell? ⟨b, 3, none⟩ = some (V.ws.val u.ws.length) ∧ w.cell? ⟨b, 4, none⟩ = some (.int .i64 u.fo) ∧ w.cell? ⟨b, 5, none⟩ = some (V.fr.val u.fr.length) ∧ w.cell? ⟨b, 6, none⟩ = some (V.la.val u.la.length)
  | .tr => RowAt w ow .tr 3 1 V.tr u.tr.length (iv u.tr)
  | .mk => RowAt w ow .mk 61 3 V.mks u.mks.length (mkC u.mks)
  | .cl => RowAt w ow .cl 89 6 V.cl u.cl.length (clC V.lv u.cl)
  | .ws => RowAt w ow .ws 40 1 V.ws u.ws.length (wsC V.wv u.ws)
  | .fr => RowAt w ow .fr 3 1 V.fr u.fr.length (iv u.fr)
  | .la => RowAt w ow .la 96 2 V.la u.la.length (laC u.la)
  | .row i => i < u.ws.length → RowAt w ow (.row i) 3 1 (V.wv.getD i default) (u.ws.getD i []).length (iv (u.ws.getD i []))
  | .lit n => n < u.cl.length → RowAt w ow (.lit n) 3 1 (V.lv.getD n default) (u.cl.getD n default).lits.length (iv (u.cl.getD n default).lits)
theorem cell_keep {w w' : World} {b o : Nat} (h : w'.heap[b]? = w.heap[b]?) : w'.cell? ⟨b, o, none⟩ = w.cell? ⟨b, o, none⟩ := World.cell?_of_block (a := ⟨b, o, none⟩) h
theorem Part.keep {w w' : World} {ow ow' : Nat → Tg} {b : Nat} {V : SV} {u : US} {t : Tg} (h : Part w ow b V u t) (hk : ∀ x, x < w.heap.size → ow x = t → w'.heap[x]? = w.heap[x]?) (ho : ∀ x, x < w.heap.size → ow' x = ow x) : Part w' ow' b V u t := by
  have rk : ∀ {e size s n xs}, RowAt w ow t e size s n xs → RowAt w' ow' t e size s n xs := fun {e size s n xs} (h : RowAt w ow t e size s n xs) =>
    h.keep (fun g hg => hk g (h.lt hg) (h.2 g hg)) (fun g hg => ho g (h.lt hg))
  cases t with
  | oth => trivial
  | st =>
    obtain ⟨h0, hr, c0, c1, c2, c3, c4, c5, c6⟩ := h
    have e := hk b hr.lt h0
    refine ⟨(ho b hr.lt).trans h0, ?_, ?_, ?_, ?_, ?_, ?_, ?_, ?_⟩
    · obtain ⟨cur, t, hc⟩ := hr
      exact ⟨cur, t, e.trans hc⟩
    all_goals (rw [cell_keep e]; assumption)
  | row i => exact fun hi => rk (h hi)
  | lit n => exact fun hi => rk (h hi)
  | _ => exact rk h
/-- A STORE IN MEMORY -/
structure UM (w : World) (ow : Nat → Tg) (b : Nat) (V : SV) (u : US) : Prop where
  hi : ∀ x, w.heap.size ≤ x → ow x = .oth
  nlv : V.lv.length = u.cl.length
  nwv : V.wv.length = u.ws.length
  part : ∀ t, Part w ow b V u t
/-- what is not the store's stays -/
structure Chg (ow : Nat → Tg) (w w' : World) : Prop where
  os : w'.os = w.os
  tape : w'.tape = w.tape
  output : w'.output = w.output
  size : w.heap.size ≤ w'.heap.size
  block : ∀ x, x < w.heap.size → ow x = .oth → w'.heap[x]? = w.heap[x]?
theorem Chg.of_below {ow : Nat → Tg} {w w' : World} (h : Below w.heap.size w w') : Chg ow w w' := ⟨h.os, h.tape, h.output, h.size, fun x hx _ => h.block x hx⟩
theorem Chg.refl (ow : Nat → Tg) (w : World) : Chg ow w w := Chg.of_below (Below.refl _ _)
theorem Chg.trans {ow ow' : Nat → Tg} {w w1 w2 : World} (h : Chg ow w w1) (k : Chg ow' w1 w2) (ho : ∀ x, x < w.heap.size → ow' x = ow x) : Chg ow w w2 :=
  ⟨k.os.trans h.os, k.tape.trans h.tape, k.output.trans h.output, Nat.le_trans h.size k.size, fun x hx e => (k.block x (Nat.lt_of_lt_of_le hx h.size) ((ho x hx).trans e)).trans (h.block x hx e)⟩
theorem UM.keep {w w' : World} {ow : Nat → Tg} {b : Nat} {V : SV} {u : US} (h : UM w ow b V u) (hs : w.heap.size ≤ w'.heap.size) (hk : ∀ x, x < w.heap.size → ow x ≠ .oth → w'.heap[x]? = w.heap[x]?) : UM w' ow b V u :=
  ⟨fun x hx => h.hi x (by omega), h.nlv, h.nwv, fun t => by
    cases t with
    | oth => trivial
    | _ => exact (h.part _).keep (fun x hx e => hk x hx (by rw [e]; simp)) (fun _ _ => rfl)⟩
theorem UM.later {w w' : World} {ow : Nat → Tg} {b : Nat} {V : SV} {u : US} (h : UM w ow b V u) (hb : Below w.heap.size w w') : UM w' ow b V u := h.keep hb.size fun x hx _ => hb.block x hx
/-- the store's own cells -/
theorem UM.cells {w : World} {ow : Nat → Tg} {b : Nat} {V : SV} {u : US} (h : UM w ow b V u) : ow b = .st ∧ Row w b ∧ w.cell? ⟨b, 0, none⟩ = some (V.tr.val u.tr.length) ∧ w.cell? ⟨b, 1, none⟩ = some (V.mks.val u.mks.length) ∧ w.cell? ⟨b, 2, none⟩ = some (V.cl.val u.cl.length) ∧ w.cell? ⟨b, 3, none⟩ = some (V.ws.val u.ws.length) ∧ w.cell? ⟨b, 4, none⟩ = some (.int .i64 u.fo) ∧ w.cell? ⟨b, 5, none⟩ = some (V.fr.val u.fr.length) ∧ w.cell? ⟨b, 6, none⟩ = some (V.la.val u.la.length) := h.part .st
theorem UM.rtr {w : World} {ow : Nat → Tg} {b : Nat} {V : SV} {u : US} (h : UM w ow b V u) : RowAt w ow .tr 3 1 V.tr u.tr.length (iv u.tr) := h.part .tr
theorem UM.rmk {w : World} {ow : Nat → Tg} {b : Nat} {V : SV} {u : US} (h : UM w ow b V u) : RowAt w ow .mk 61 3 V.mks u.mks.length (mkC u.mks) := h.part .mk
theorem UM.rcl {w : World} {ow : Nat → Tg} {b : Nat} {V : SV} {u : US} (h : UM w ow b V u) : RowAt w ow .cl 89 6 V.cl u.cl.length (clC V.lv u.cl) := h.part .cl
theorem UM.rws {w : World} {ow : Nat → Tg} {b : Nat} {V : SV} {u : US} (h : UM w ow b V u) : RowAt w ow .ws 40 1 V.ws u.ws.length (wsC V.wv u.ws) := h.part .ws
theorem UM.rfr {w : World} {ow : Nat → Tg} {b : Nat} {V : SV} {u : US} (h : UM w ow b V u) : RowAt w ow .fr 3 1 V.fr u.fr.length (iv u.fr) := h.part .fr
theorem UM.rla {w : World} {ow : Nat → Tg} {b : Nat} {V : SV} {u : US} (h : UM w ow b V u) : RowAt w ow .la 96 2 V.la u.la.length (laC u.la) := h.part .la
theorem UM.rrow {w : World} {ow : Nat → Tg} {b : Nat} {V : SV} {u : US} (h : UM w ow b V u) {i : Nat} (hi : i < u.ws.length) : RowAt w ow (.row i) 3 1 (V.wv.getD i default) (u.ws.getD i []).length (iv (u.ws.getD i [])) := h.part (.row i) hi
theorem UM.rlit {w : World} {ow : Nat → Tg} {b : Nat} {V : SV} {u : US} (h : UM w ow b V u) {n : Nat} (hn : n < u.cl.length) : RowAt w ow (.lit n) 3 1 (V.lv.getD n default) (u.cl.getD n default).lits.length (iv (u.cl.getD n default).lits) := h.part (.lit n) hn
end Go.Proofs.Ytfodejhipnmgnaa
