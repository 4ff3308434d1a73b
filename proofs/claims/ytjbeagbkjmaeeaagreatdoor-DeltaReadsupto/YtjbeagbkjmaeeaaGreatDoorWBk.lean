/-
  A block of cells that is stored into (Blk), and what stays beside it (Ch).
-/
import Derived.Test.YtjbeagbkjmaeeaaGreatDoorMem
import Derived.RangeFuncRecord
namespace Go.Proofs.YtjbeagbkjmaeeaaGreatDoor
open Go.RowKit
set_option linter.unusedVariables false
set_option linter.unusedSimpArgs false

/-- w' is w but for one block that is the iterator's own -/
structure Ch (c : Nat) (W W' : World) : Prop where
  os : W'.os = W.os
  tape : W'.tape = W.tape
  output : W'.output = W.output
  size : W'.heap.size = W.heap.size
  other : ∀ k, k ≠ c → W'.heap[k]? = W.heap[k]?
theorem Ch.set {c o : Nat} {W : World} (u : Value) : Ch c W (W.setCell ⟨c, o, none⟩ u) := ⟨rfl, rfl, rfl, by simp [World.setCell], fun k hk => Below.heap_setCell _ _ _ _ hk⟩
theorem Ch.trans {c : Nat} {W W1 W2 : World} (h : Ch c W W1) (k : Ch c W1 W2) : Ch c W W2 :=
  ⟨k.os.trans h.os, k.tape.trans h.tape, k.output.trans h.output, k.size.trans h.size, fun i hi => (k.other i hi).trans (h.other i hi)⟩
theorem Ch.below {c B : Nat} {W W' : World} (h : Ch c W W') (hB : B ≤ c) : Below B W W' := ⟨h.os, h.tape, h.output, Nat.le_of_eq h.size.symm, fun k hk => h.other k (by omega)⟩
/-- a block of cells that can be stored into -/
def Blk (W : World) (c : Nat) (cur : Array Value) (t : TypeId) : Prop := W.heap[c]? = some (.cells cur t (0, 0))
theorem Blk.lt {W : World} {c : Nat} {cur : Array Value} {t : TypeId} (h : Blk W c cur t) : c < W.heap.size := (Array.getElem?_eq_some_iff.1 h).1
theorem Blk.later {W W' : World} {c : Nat} {cur : Array Value} {t : TypeId} (h : Blk W c cur t) (hb : Below W.heap.size W W') : Blk W' c cur t := (hb.block c h.lt).trans h
theorem Blk.cell {W : World} {c : Nat} {cur : Array Value} {t : TypeId} (h : Blk W c cur t) (o : Nat) : W.cell? ⟨c, o, none⟩ = cur[o]? := by simp [World.cell?, show W.heap[c]? = _ from h]
theorem Blk.frozen {W : World} {c : Nat} {cur : Array Value} {t : TypeId} (h : Blk W c cur t) (o : Nat) : W.frozen? ⟨c, o, none⟩ = false := frozen_of_row W c o cur t h
theorem Blk.new (W : World) (cur : Array Value) (t : TypeId) : Blk (W.alloc (.cells cur t)) W.heap.size cur t := World.alloc_heap_new W _
theorem Seg.ch {c : Nat} {W W' : World} {ao : Option Addr} {X n : Nat} (h : Seg W ao X n) (k : Ch c W W') (hno : ∀ o i, W.cell? ⟨c, o, none⟩ ≠ some (.int .u32 i)) : Seg W' ao X n := by
  refine ⟨h.1, fun hn => ?_⟩
  obtain ⟨b, off, e, hl, hc⟩ := h.2 hn
  refine ⟨b, off, e, by rw [k.size]; exact hl, fun i hi => ?_⟩
  have h1 := hc i hi
  rw [World.cell?_of_block (w := W) (a := ⟨b, off + i, none⟩) (k.other b fun e => hno (off + i) _ (by rw [← e]; exact h1))]
  exact h1
theorem Blk.ch {c d : Nat} {W W' : World} {cur : Array Value} {t : TypeId} (h : Blk W d cur t) (k : Ch c W W') (hne : d ≠ c) : Blk W' d cur t := (k.other d hne).trans h
/-- all cells are what a whole number's cells are -/
theorem Blk.no {W : World} {c : Nat} {cur : Array Value} {t : TypeId} (h : Blk W c cur t) (hc : ∀ u ∈ cur.toList, ∀ i, u ≠ .int .u32 i) : ∀ o i, W.cell? ⟨c, o, none⟩ ≠ some (.int .u32 i) := fun o i e => by
  rw [h.cell o] at e
  obtain ⟨hl, he⟩ := Array.getElem?_eq_some_iff.1 e
  exact hc _ (by rw [← he]; simp) i rfl
theorem Blk.set3 {c : Nat} {W : World} {u0 u1 u2 : Value} {t : TypeId} (h : Blk W c #[u0, u1, u2] t) (v0 v1 v2 : Value) :
    Ch c W (((W.setCell ⟨c, 0, none⟩ v0).setCell ⟨c, 1, none⟩ v1).setCell ⟨c, 2, none⟩ v2) ∧ Blk (((W.setCell ⟨c, 0, none⟩ v0).setCell ⟨c, 1, none⟩ v1).setCell ⟨c, 2, none⟩ v2) c #[v0, v1, v2] t := by
  refine ⟨((Ch.set v0).trans (Ch.set v1)).trans (Ch.set v2), ?_⟩
  simp [Blk, World.setCell, Array.getElem?_modify, show W.heap[c]? = _ from h]
end Go.Proofs.YtjbeagbkjmaeeaaGreatDoor
