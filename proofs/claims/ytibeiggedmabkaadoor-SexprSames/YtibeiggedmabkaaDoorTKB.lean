/-
  Blocks of cells and drawn regions, for seats without numbers.
-/
import Derived.Test.YtibeiggedmabkaaDoorTK0
import Derived.Deep.RegionHeld3
namespace Go.Proofs.YtibeiggedmabkaaDoor
open Go.RowKit
set_option linter.unusedVariables false
set_option linter.unusedSimpArgs false

theorem take' {P : Program} {ops : Array Oper} {Q : Exit → Act → World → Prop} {md : Region.Mode} {S : World → Prop} (i : Nat) {d : Option Tmp} {op : Op} {ty : TypeId} {pos : String} {af : Array Edge} {g : Option (Nat × Bool)} {v : Value} {n : Nat} {L : Array Bool} {a : Act} {w : World}
    (hi : ops[i]? = some ⟨d, op, ty, pos, af, g⟩) (hs : Region.noSelect ops = true) (hf : Region.free md ops L i = true) (hr : (Region.ready md ops L).contains i = true)
    (hQ : ∀ c a w, Q (.panic c) (a.put d v) w → Q (.panic c) a w) (hy : YieldsIf P ops S ⟨d, op, ty, pos, af, g⟩ v a) (hS : S w) (h : wpAnyH P md ops Q S n (L.setIfInBounds i true) (a.put d v) w) : wpAnyH P md ops Q S (n + 1) L a w :=
  wpAnyH_take hi hs hf hr hQ hy hS h
theorem cons' {P : Program} {ops : Array Oper} {Q : Exit → Act → World → Prop} {md : Region.Mode} {S : World → Prop} {n : Nat} {L : Array Bool} {a : Act} {w : World} {i : Nat} {d : Option Tmp} {op : Op} {ty : TypeId} {pos : String} {af : Array Edge} {g : Option (Nat × Bool)}
    (ho : ops[i]? = some ⟨d, op, ty, pos, af, g⟩) (h : ∀ K' : Act → World → Prop, Shut (∀ a w, S w → (S w → wpAnyH P md ops Q S n (L.setIfInBounds i true) a w) → K' a w) → if Region.wanted ⟨d, op, ty, pos, af, g⟩ (yielded ops a.tmps) = true then Oper.wp P ⟨d, op, ty, pos, af, g⟩ a w K' Q else K' (a.put d undef) w) :
    AllReadyH P md ops Q S n L a w [i] := AllReadyH.cons ho h AllReadyH.nil
theorem below_at {B : Nat} {w w' : World} (h : Below B w w') {p : Addr} {v : Value} (hp : p.block < B) (hc : w.cell? p = some v) : w'.cell? p = some v := by
  rw [h.cell hp]; exact hc
theorem below_cell {w w' : World} (h : Below w.heap.size w w') {p : Addr} {v : Value} (hc : w.cell? p = some v) : w'.cell? p = some v :=
  below_at h (World.block_lt_of_cell? w p hc) hc
theorem below_alloc {w : World} (o : Obj) : Below w.heap.size w (w.alloc o) := (Below.refl _ _).alloc (Nat.le_refl _) _
theorem results_c {fn : Func} {p : Tmp} {ty : TypeId} (h : fn.results = #[.cell p ty]) (tmps : Array Value) (P : Program) (w : World) :
    (results fn tmps).run P w = ((asAddr (tmps.getD p undef)).run P w).andThen fun a w1 => (loadVar ty a).run P w1 := by
  simp only [results, h]
  simp [Sem.run_bind]
theorem results_ttB {fn : Func} {p u : Tmp} (h : fn.results = #[.tmp p, .tmp u]) (tmps : Array Value) (P : Program) (w : World) :
    (results fn tmps).run P w = .ok (.tuple #[tmps.getD p undef, tmps.getD u undef]) w := by
  simp only [results, h]
  simp
/-- w' is w but for one block -/
structure Ch (c : Nat) (W W' : World) : Prop where
  os : W'.os = W.os
  tape : W'.tape = W.tape
  output : W'.output = W.output
  size : W'.heap.size = W.heap.size
  other : ∀ k, k ≠ c → W'.heap[k]? = W.heap[k]?
theorem Ch.set {c o : Nat} {W : World} (u : Value) : Ch c W (W.setCell ⟨c, o, none⟩ u) := ⟨rfl, rfl, rfl, by simp [World.setCell], fun k hk => Below.heap_setCell _ _ _ _ hk⟩
theorem Ch.trans {c : Nat} {W W1 W2 : World} (h : Ch c W W1) (k : Ch c W1 W2) : Ch c W W2 :=
  ⟨k.os.trans h.os, k.tape.trans h.tape, k.output.trans h.output, k.size.trans h.size, fun i hi => (k.other i hi).trans (h.other i hi)⟩
theorem Ch.below {c B : Nat} {W W' : World} (h : Ch c W W') (hB : B ≤ c) : Below B W W' := ⟨h.os, h.tape, h.output, Nat.le_of_eq h.size.symm, fun k hk => h.other k (by omega)⟩
theorem Ch.cell {c b o : Nat} {W W' : World} {v : Value} (k : Ch c W W') (hne : b ≠ c) (h : W.cell? ⟨b, o, none⟩ = some v) : W'.cell? ⟨b, o, none⟩ = some v := by
  rw [World.cell?_of_block (w := W) (a := ⟨b, o, none⟩) (k.other b hne)]; exact h
/-- a block of cells that can be stored into -/
def Blk (W : World) (c : Nat) (cur : Array Value) (t : TypeId) : Prop := W.heap[c]? = some (.cells cur t (0, 0))
theorem Blk.lt {W : World} {c : Nat} {cur : Array Value} {t : TypeId} (h : Blk W c cur t) : c < W.heap.size := (Array.getElem?_eq_some_iff.1 h).1
theorem Blk.later {W W' : World} {c : Nat} {cur : Array Value} {t : TypeId} (h : Blk W c cur t) (hb : Below W.heap.size W W') : Blk W' c cur t := (hb.block c h.lt).trans h
theorem Blk.cell {W : World} {c : Nat} {cur : Array Value} {t : TypeId} (h : Blk W c cur t) (o : Nat) : W.cell? ⟨c, o, none⟩ = cur[o]? := by simp [World.cell?, show W.heap[c]? = _ from h]
theorem Blk.frozen {W : World} {c : Nat} {cur : Array Value} {t : TypeId} (h : Blk W c cur t) (o : Nat) : W.frozen? ⟨c, o, none⟩ = false := frozen_of_row W c o cur t h
theorem Blk.new (W : World) (cur : Array Value) (t : TypeId) : Blk (W.alloc (.cells cur t)) W.heap.size cur t := heap_alloc_new W _
theorem Blk.ch {c d : Nat} {W W' : World} {cur : Array Value} {t : TypeId} (h : Blk W d cur t) (k : Ch c W W') (hne : d ≠ c) : Blk W' d cur t := (k.other d hne).trans h
theorem Blk.set {c o : Nat} {W : World} {cur : Array Value} {t : TypeId} (h : Blk W c cur t) (v : Value) : Ch c W (W.setCell ⟨c, o, none⟩ v) ∧ Blk (W.setCell ⟨c, o, none⟩ v) c (cur.setIfInBounds o v) t := by
  refine ⟨Ch.set v, ?_⟩
  simp [Blk, World.setCell, Array.getElem?_modify, show W.heap[c]? = _ from h]
/-- six cells stored one behind the other -/
def set6 (W : World) (c : Nat) (v0 v1 v2 v3 v4 v5 : Value) : World :=
  (((((W.setCell ⟨c, 0, none⟩ v0).setCell ⟨c, 1, none⟩ v1).setCell ⟨c, 2, none⟩ v2).setCell ⟨c, 3, none⟩ v3).setCell ⟨c, 4, none⟩ v4).setCell ⟨c, 5, none⟩ v5
theorem Blk.set6 {c : Nat} {W : World} {u0 u1 u2 u3 u4 u5 : Value} {t : TypeId} (h : Blk W c #[u0, u1, u2, u3, u4, u5] t) (v0 v1 v2 v3 v4 v5 : Value) :
    Ch c W (YtibeiggedmabkaaDoor.set6 W c v0 v1 v2 v3 v4 v5) ∧ Blk (YtibeiggedmabkaaDoor.set6 W c v0 v1 v2 v3 v4 v5) c #[v0, v1, v2, v3, v4, v5] t := by
  refine ⟨(((((Ch.set v0).trans (Ch.set v1)).trans (Ch.set v2)).trans (Ch.set v3)).trans (Ch.set v4)).trans (Ch.set v5), ?_⟩
  simp [YtibeiggedmabkaaDoor.set6, Blk, World.setCell, Array.getElem?_modify, show W.heap[c]? = _ from h]
end Go.Proofs.YtibeiggedmabkaaDoor
