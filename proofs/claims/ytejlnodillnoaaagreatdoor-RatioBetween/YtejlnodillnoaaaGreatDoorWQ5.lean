import Derived.Test.YtejlnodillnoaaaGreatDoorWQ3
import Derived.Test.YtejlnodillnoaaaGreatDoorRegS
set_option linter.unusedSimpArgs false
namespace Go.Proofs.YtejlnodillnoaaaGreatDoor
open Go.RowKit
set_option linter.unusedVariables false
theorem bsetW {W w' : World} {c o : Nat} {u : Value} (h : Below W.heap.size W w') (hc : W.heap.size ≤ c) : Below W.heap.size W (w'.setCell ⟨c, o, none⟩ u) := h.setCell hc _
theorem rd_lt {Y n : Nat} (h : Y < BB ^ n) : rd Y < BB ^ (n + 1) := by
  unfold rd
  split
  · have h1 : BB ^ 1 ≤ BB ^ (n + 1) := pow_mono (by omega)
    have h2 : 1 < BB ^ 1 := by rw [Nat.pow_one, BB_eq]; omega
    exact Nat.lt_of_lt_of_le h2 h1
  · exact Nat.lt_of_lt_of_le h (pow_mono (by omega))
theorem consT {P : Program} {ops : Array Oper} {Q : Exit → Act → World → Prop} {md : Region.Mode} {S : World → Prop} {n : Nat} {L : Array Bool} {a : Act} {w : World} {i : Nat} {rs : List Nat} {d : Option Tmp} {op : Op} {ty : TypeId} {pos : String} {af : Array Edge} {g : Option (Nat × Bool)}
    (ho : ops[i]? = some ⟨d, op, ty, pos, af, g⟩) (h : ∀ K' : Act → World → Prop, Shut (∀ a w, S w → (S w → wpAnyH P md ops Q S n (L.setIfInBounds i true) a w) → K' a w) → if Region.wanted ⟨d, op, ty, pos, af, g⟩ (yielded ops a.tmps) = true then Oper.wp P ⟨d, op, ty, pos, af, g⟩ a w K' Q else K' (a.put d undef) w)
    (h2 : AllReadyH P md ops Q S n L a w rs) : AllReadyH P md ops Q S n L a w (i :: rs) := AllReadyH.cons ho h h2
theorem Seg.setB {w : World} {p : Option Addr} {X n c o : Nat} {u z : Value} (h : Seg w p X n) (hc : w.cell? ⟨c, o, none⟩ = some z) (hz : ∀ k i, z ≠ .int k i) : Seg (w.setCell ⟨c, o, none⟩ u) p X n := by
  refine ⟨h.1, fun hn => ?_⟩
  obtain ⟨b, off, rfl, hb, hcell⟩ := h.2 hn
  refine ⟨b, off, rfl, by simpa [World.setCell] using hb, fun i hi => ?_⟩
  have h1 := hcell i hi
  rw [World.cell?_setCell_other _ _ _ _ (fun e => ?_)]
  · exact h1
  · rw [← e, hc] at h1
    simp only [Option.some.injEq] at h1
    exact hz _ _ h1
theorem Seg.set4 {w : World} {p : Option Addr} {X n c : Nat} {u0 u1 u2 u3 : Value} {z0 z2 : Bool} {a1 a3 : Option Addr} {n1 n3 k1 k3 : Nat} (h : Seg w p X n) (h0 : w.cell? ⟨c, 0, none⟩ = some (.bool z0)) (h1 : w.cell? ⟨c, 1, none⟩ = some (.slice a1 n1 k1)) (h2 : w.cell? ⟨c, 2, none⟩ = some (.bool z2)) (h3 : w.cell? ⟨c, 3, none⟩ = some (.slice a3 n3 k3)) :
    Seg ((((w.setCell ⟨c, 0, none⟩ u0).setCell ⟨c, 1, none⟩ u1).setCell ⟨c, 2, none⟩ u2).setCell ⟨c, 3, none⟩ u3) p X n := by
  refine (((h.setB h0 (by simp)).setB (z := .slice a1 n1 k1) ?_ (by simp)).setB (z := .bool z2) ?_ (by simp)).setB (z := .slice a3 n3 k3) ?_ (by simp)
  · rw [World.cell?_setCell_other _ _ _ _ (fun e => by simp at e)]; exact h1
  · rw [World.cell?_setCell_other _ _ _ _ (fun e => by simp at e), World.cell?_setCell_other _ _ _ _ (fun e => by simp at e)]; exact h2
  · rw [World.cell?_setCell_other _ _ _ _ (fun e => by simp at e), World.cell?_setCell_other _ _ _ _ (fun e => by simp at e), World.cell?_setCell_other _ _ _ _ (fun e => by simp at e)]; exact h3
end Go.Proofs.YtejlnodillnoaaaGreatDoor
