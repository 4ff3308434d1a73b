/-
  Layer 3: Mul.
-/
import Derived.Test.YtkfdgpidhghhdaaGreatDoorWQ3
namespace Go.Proofs.YtkfdgpidhghhdaaGreatDoor
open Go.RowKit
set_option linter.unusedVariables false

theorem bsetW {W w' : World} {c o : Nat} {u : Value} (h : Below W.heap.size W w') (hc : W.heap.size ≤ c) : Below W.heap.size W (w'.setCell ⟨c, o, none⟩ u) := h.setCell hc _
theorem ballW {W w' : World} {o : Obj} (h : Below W.heap.size W w') : Below W.heap.size W (w'.alloc o) := h.trans ((below_alloc o).mono h.size)
theorem bdrewW {W w' : World} (h : Below W.heap.size W w') : Below W.heap.size W w'.drew := h.drew
theorem rd_lt {Y n : Nat} (h : Y < BB ^ n) : rd Y < BB ^ (n + 1) := by
  unfold rd
  split
  · have h1 : BB ^ 1 ≤ BB ^ (n + 1) := pow_mono (by omega)
    have h2 : 1 < BB ^ 1 := by rw [Nat.pow_one, BB_eq]; omega
    exact Nat.lt_of_lt_of_le h2 h1
  · exact Nat.lt_of_lt_of_le h (pow_mono (by omega))
theorem consT {P : Program} {ops : Array Oper} {Q : Exit → Act → World → Prop} {md : Region.Mode} {S : World → Prop} {n : Nat} {L : Array Bool} {a : Act} {w : World} {i : Nat} {rs : List Nat} {d : Option Tmp} {op : Op} {ty : TypeId} {pos : String} {af : Array Edge} {g : Option (Nat × Bool)}
    (ho : ops[i]? = some ⟨d, op, ty, pos, af, g⟩) (h : ∀ K' : Act → World → Prop, Shut (∀ a w, S w → (S w → wpAnyH P md ops Q S n (L.setIfInBounds i true) a w) → K' a w) → if Region.wanted ⟨d, op, ty, pos, af, g⟩ (yielded ops a.tmps) = true then Oper.wp P ⟨d, op, ty, pos, af, g⟩ a w K' Q else K' (a.put d undef) w)
    (h2 : AllReadyH P md ops Q S n L a w rs) : AllReadyH P md ops Q S n L a w (i :: rs) := AllReadyH.cons ho h h2
/-- a store into a cell that holds no number leaves the numbers -/
theorem Seg.setB {w : World} {p : Option Addr} {X n c o : Nat} {u z : Value} (h : Seg w p X n) (hc : w.cell? ⟨c, o, none⟩ = some z) (hz : ∀ k i, z ≠ .int k i) : Seg (w.setCell ⟨c, o, none⟩ u) p X n := by
  refine ⟨h.1, fun hn => ?_⟩
  obtain ⟨b, off, rfl, hb, hcell⟩ := h.2 hn
  refine ⟨b, off, rfl, by simpa [World.setCell] using hb, fun i hi => ?_⟩
  have h1 := hcell i hi
  rw [World.cell?_setCell_other _ _ _ _ (fun e => ?_)]
  · exact h1
  · rw [← e, hc] at h1
    simp only [Option.some.injEq] at h1
    exact hz _ _ h1
theorem Seg.set4 {w : World} {p : Option Addr} {X n c : Nat} {u0 u1 u2 u3 : Value} {z0 z2 : Bool} {a1 a3 : Option Addr} {n1 n3 k1 k3 : Nat} (h : Seg w p X n) (h0 : w.cell? ⟨c, 0, none⟩ = some (.bool z0)) (h1 : w.cell? ⟨c, 1, none⟩ = some (.slice a1 n1 k1)) (h2 : w.cell? ⟨c, 2, none⟩ = some (.bool z2)) (h3 : w.cell? ⟨c, 3, none⟩ = some (.slice a3 n3 k3)) :
    Seg ((((w.setCell ⟨c, 0, none⟩ u0).setCell ⟨c, 1, none⟩ u1).setCell ⟨c, 2, none⟩ u2).setCell ⟨c, 3, none⟩ u3) p X n := by
  refine (((h.setB h0 (by simp)).setB (z := .slice a1 n1 k1) ?_ (by simp)).setB (z := .bool z2) ?_ (by simp)).setB (z := .slice a3 n3 k3) ?_ (by simp)
  · rw [World.cell?_setCell_other _ _ _ _ (fun e => by simp at e)]; exact h1
  · rw [World.cell?_setCell_other _ _ _ _ (fun e => by simp at e), World.cell?_setCell_other _ _ _ _ (fun e => by simp at e)]; exact h2
  · rw [World.cell?_setCell_other _ _ _ _ (fun e => by simp at e), World.cell?_setCell_other _ _ _ _ (fun e => by simp at e), World.cell?_setCell_other _ _ _ _ (fun e => by simp at e)]; exact h3
/-- what is known behind the store of a fraction into the block c -/
theorem stored4 {w W : World} {c d r : Nat} {u0 u1 u2 u3 v0 v1 v2 v3 : Value} {z0 z2 : Bool} {a1 a3 : Option Addr} {n1 n3 k1 k3 : Nat} {p1 p2 p3 p4 : Option Addr} {X1 X2 X3 X4 l1 l2 l3 l4 : Nat}
    (h0 : w.cell? ⟨c, 0, none⟩ = some (.bool z0)) (h1 : w.cell? ⟨c, 1, none⟩ = some (.slice a1 n1 k1)) (h2 : w.cell? ⟨c, 2, none⟩ = some (.bool z2)) (h3 : w.cell? ⟨c, 3, none⟩ = some (.slice a3 n3 k3))
    (g0 : w.cell? ⟨d, 0, none⟩ = some v0) (g1 : w.cell? ⟨d, 1, none⟩ = some v1) (g2 : w.cell? ⟨d, 2, none⟩ = some v2) (g3 : w.cell? ⟨d, 3, none⟩ = some v3) (gR : Row w r)
    (hBW : Below W.heap.size W w) (ge : W.heap.size ≤ c) (ne : c ≠ d) (s1 : Seg w p1 X1 l1) (s2 : Seg w p2 X2 l2) (s3 : Seg w p3 X3 l3) (s4 : Seg w p4 X4 l4) :
    ((((w.setCell ⟨c, 0, none⟩ u0).setCell ⟨c, 1, none⟩ u1).setCell ⟨c, 2, none⟩ u2).setCell ⟨c, 3, none⟩ u3).cell? ⟨c, 0, none⟩ = some u0 ∧ ((((w.setCell ⟨c, 0, none⟩ u0).setCell ⟨c, 1, none⟩ u1).setCell ⟨c, 2, none⟩ u2).setCell ⟨c, 3, none⟩ u3).cell? ⟨c, 1, none⟩ = some u1 ∧
    ((((w.setCell ⟨c, 0, none⟩ u0).setCell ⟨c, 1, none⟩ u1).setCell ⟨c, 2, none⟩ u2).setCell ⟨c, 3, none⟩ u3).cell? ⟨c, 2, none⟩ = some u2 ∧ ((((w.setCell ⟨c, 0, none⟩ u0).setCell ⟨c, 1, none⟩ u1).setCell ⟨c, 2, none⟩ u2).setCell ⟨c, 3, none⟩ u3).cell? ⟨c, 3, none⟩ = some u3 ∧
    ((((w.setCell ⟨c, 0, none⟩ u0).setCell ⟨c, 1, none⟩ u1).setCell ⟨c, 2, none⟩ u2).setCell ⟨c, 3, none⟩ u3).cell? ⟨d, 0, none⟩ = some v0 ∧ ((((w.setCell ⟨c, 0, none⟩ u0).setCell ⟨c, 1, none⟩ u1).setCell ⟨c, 2, none⟩ u2).setCell ⟨c, 3, none⟩ u3).cell? ⟨d, 1, none⟩ = some v1 ∧
    ((((w.setCell ⟨c, 0, none⟩ u0).setCell ⟨c, 1, none⟩ u1).setCell ⟨c, 2, none⟩ u2).setCell ⟨c, 3, none⟩ u3).cell? ⟨d, 2, none⟩ = some v2 ∧ ((((w.setCell ⟨c, 0, none⟩ u0).setCell ⟨c, 1, none⟩ u1).setCell ⟨c, 2, none⟩ u2).setCell ⟨c, 3, none⟩ u3).cell? ⟨d, 3, none⟩ = some v3 ∧
    Row ((((w.setCell ⟨c, 0, none⟩ u0).setCell ⟨c, 1, none⟩ u1).setCell ⟨c, 2, none⟩ u2).setCell ⟨c, 3, none⟩ u3) r ∧ Below W.heap.size W ((((w.setCell ⟨c, 0, none⟩ u0).setCell ⟨c, 1, none⟩ u1).setCell ⟨c, 2, none⟩ u2).setCell ⟨c, 3, none⟩ u3) ∧
    Seg ((((w.setCell ⟨c, 0, none⟩ u0).setCell ⟨c, 1, none⟩ u1).setCell ⟨c, 2, none⟩ u2).setCell ⟨c, 3, none⟩ u3) p1 X1 l1 ∧ Seg ((((w.setCell ⟨c, 0, none⟩ u0).setCell ⟨c, 1, none⟩ u1).setCell ⟨c, 2, none⟩ u2).setCell ⟨c, 3, none⟩ u3) p2 X2 l2 ∧
    Seg ((((w.setCell ⟨c, 0, none⟩ u0).setCell ⟨c, 1, none⟩ u1).setCell ⟨c, 2, none⟩ u2).setCell ⟨c, 3, none⟩ u3) p3 X3 l3 ∧ Seg ((((w.setCell ⟨c, 0, none⟩ u0).setCell ⟨c, 1, none⟩ u1).setCell ⟨c, 2, none⟩ u2).setCell ⟨c, 3, none⟩ u3) p4 X4 l4 := by
  have e := set4_same (u0 := u0) (u1 := u1) (u2 := u2) (u3 := u3) h0 h1 h2 h3
  exact ⟨e.1, e.2.1, e.2.2.1, e.2.2.2, (set4_far ne).trans g0, (set4_far ne).trans g1, (set4_far ne).trans g2, (set4_far ne).trans g3,
    (((gR.setCell _ _).setCell _ _).setCell _ _).setCell _ _, bsetW (bsetW (bsetW (bsetW hBW ge) ge) ge) ge, s1.set4 h0 h1 h2 h3, s2.set4 h0 h1 h2 h3, s3.set4 h0 h1 h2 h3, s4.set4 h0 h1 h2 h3⟩

end Go.Proofs.YtkfdgpidhghhdaaGreatDoor
