/-
  Layer 3: Mul.
-/
import Derived.Test.YtjbeagbkjmaeeaaGreatDoorWBk
import Derived.Test.YtjbeagbkjmaeeaaGreatDoorWI1
import Derived.Test.YtjbeagbkjmaeeaaGreatDoorWQ3
namespace Go.Proofs.YtjbeagbkjmaeeaaGreatDoor
open Go.RowKit
set_option linter.unusedVariables false
/-- a new block of noughts, made since base -/
def Vb (base : Nat) (zs : Array Value) (t : TypeId) (W : World) (c : Nat) : Prop := Blk W c zs t ∧ base ≤ c
theorem Vb.later {base : Nat} {zs : Array Value} {t : TypeId} {W W' : World} {c : Nat} (h : Vb base zs t W c) (hb : Below W.heap.size W W') : Vb base zs t W' c := ⟨h.1.later hb, h.2⟩
theorem Vb.new {base : Nat} {w W : World} (zs : Array Value) (t : TypeId) (h : Below base w W) (hb : base ≤ w.heap.size) : Vb base zs t (W.alloc (.cells zs t)) W.heap.size := ⟨Blk.new W zs t, Nat.le_trans hb h.size⟩
end Go.Proofs.YtjbeagbkjmaeeaaGreatDoor

namespace Go.Proofs.YtjbeagbkjmaeeaaGreatDoor
open Go.RowKit
set_option linter.unusedVariables false
set_option linter.unusedSimpArgs false

theorem rd_lt {Y n : Nat} (h : Y < BB ^ n) : rd Y < BB ^ (n + 1) := by
  unfold rd
  split
  · have h1 : BB ^ 1 ≤ BB ^ (n + 1) := pow_mono (by omega)
    have h2 : 1 < BB ^ 1 := by rw [Nat.pow_one, BB_eq]; omega
    exact Nat.lt_of_lt_of_le h2 h1
  · exact Nat.lt_of_lt_of_le h (pow_mono (by omega))
theorem consT {P : Program} {ops : Array Oper} {Q : Exit → Act → World → Prop} {md : Region.Mode} {S : World → Prop} {n : Nat} {L : Array Bool} {a : Act} {w : World} {i : Nat} {rs : List Nat} {d : Option Tmp} {op : Op} {ty : TypeId} {pos : String} {af : Array Edge} {g : Option (Nat × Bool)}
    (ho : ops[i]? = some ⟨d, op, ty, pos, af, g⟩) (h : ∀ K' : Act → World → Prop, Shut (∀ a w, S w → (S w → wpAnyH P md ops Q S n (L.setIfInBounds i true) a w) → K' a w) → if Region.wanted ⟨d, op, ty, pos, af, g⟩ (yielded ops a.tmps) = true then Oper.wp P ⟨d, op, ty, pos, af, g⟩ a w K' Q else K' (a.put d undef) w)
    (h2 : AllReadyH P md ops Q S n L a w rs) : AllReadyH P md ops Q S n L a w (i :: rs) := AllReadyH.cons ho h h2
/-- a store into a cell that holds no number leaves the numbers -/
theorem Seg.setB {w : World} {p : Option Addr} {X n c o : Nat} {u z : Value} (h : Seg w p X n) (hc : w.cell? ⟨c, o, none⟩ = some z) (hz : ∀ k i, z ≠ .int k i) : Seg (w.setCell ⟨c, o, none⟩ u) p X n := by
  refine ⟨h.1, fun hn => ?_⟩
  obtain ⟨b, off, rfl, hb, hcell⟩ := h.2 hn
  refine ⟨b, off, rfl, by simpa [World.setCell] using hb, fun i hi => ?_⟩
  have h1 := hcell i hi
  rw [World.cell?_setCell_other _ _ _ _ (fun e => ?_)]
  · exact h1
  · rw [← e, hc] at h1
    simp only [Option.some.injEq] at h1
    exact hz _ _ h1
end Go.Proofs.YtjbeagbkjmaeeaaGreatDoor
