/-
  Nodes in nodes, in memory; the reference's Alike and the law's alike.
-/
import Derived.Test.YtpfmamimhhnbiaaGreatDoorSXN
import Derived.Test.YtpfmamimhhnbiaaGreatDoorTKB
import Derived.Deep.Cut
namespace Go.Proofs.YtpfmamimhhnbiaaGreatDoor
open Go.RowKit
set_option linter.unusedVariables false
set_option linter.unusedSimpArgs false

/-- a list of nodes in memory, and all that stands in them; P holds of the blocks in which they lie -/
inductive NdIn (w : World) (P : Nat → Prop) : Value → List Nd → Prop
  | nil (a : Option Addr) (c : Nat) : NdIn w P (.slice a 0 c) []
  | row (g off c : Nat) (kids : List Nd) (vs : Nat → Value) (hn : 0 < kids.length) (hb : kids.length ≤ 1099511627776) (hP : P g)
      (hc : ∀ i (h : i < kids.length) j, j < 6 → w.cell? ⟨g, off + i * 7 + j, none⟩ = (kids[i].t).cells[j]?)
      (hv : ∀ i, i < kids.length → w.cell? ⟨g, off + i * 7 + 6, none⟩ = some (vs i))
      (hk : ∀ i (h : i < kids.length), NdIn w P (vs i) (kids[i].kids)) : NdIn w P (.slice (some ⟨g, off, none⟩) kids.length c) kids
theorem NdIn.sl {w : World} {P : Nat → Prop} {v : Value} {l : List Nd} (h : NdIn w P v l) : ∃ a c, v = .slice a l.length c := by
  cases h with
  | nil a c => exact ⟨a, c, rfl⟩
  | row g off c => exact ⟨_, c, rfl⟩
/-- it stays where only other blocks change -/
theorem NdIn.kept {w w' : World} {P Q : Nat → Prop} {v : Value} {l : List Nd} (h : NdIn w P v l) (hk : ∀ g, P g → g < w.heap.size → w'.heap[g]? = w.heap[g]?) (hQ : ∀ g, P g → Q g) : NdIn w' Q v l := by
  induction h with
  | nil a c => exact .nil a c
  | row g off c kids vs hn hb hP hc hv _ ih =>
    have hlt : g < w.heap.size := World.block_lt_of_cell? w _ (hv 0 hn)
    have e : ∀ o, w'.cell? ⟨g, o, none⟩ = w.cell? ⟨g, o, none⟩ := fun o => World.cell?_of_block (w := w) (a := ⟨g, o, none⟩) (hk g hP hlt)
    exact .row g off c kids vs hn hb (hQ g hP) (fun i h j hj => by rw [e]; exact hc i h j hj) (fun i h => by rw [e]; exact hv i h) ih
theorem NdIn.on {w w' : World} {P : Nat → Prop} {v : Value} {l : List Nd} (h : NdIn w P v l) (hb : Below w.heap.size w w') : NdIn w' P v l := h.kept (fun g _ hg => hb.block g hg) (fun _ c => c)
end Go.Proofs.YtpfmamimhhnbiaaGreatDoor
