/-
  The reference of layer 3: Neg, Sign, Abs, Add.
-/
import Derived.Test.YticpdbnlbckbiaaGreatDoorWQ2
import Derived.Deep.CutRange
import Derived.Test.YticpdbnlbckbiaaGreatDoorWQ6
import Derived.Test.YticpdbnlbckbiaaGreatDoorW13
namespace Go.Proofs.YticpdbnlbckbiaaGreatDoor
open Go.RowKit
set_option linter.unusedVariables false

theorem lt_al {w w1 : World} {o : Obj} {n : Nat} (h : n ≤ w.heap.size) (b : Below (w.alloc o).heap.size (w.alloc o) w1) : w.heap.size < (w.alloc o).heap.size := by rw [World.size_alloc]; omega
theorem un_drew {X w1 : World} {o : Obj} (b : Below (X.alloc o).drew.heap.size (X.alloc o).drew w1) : Below (X.drew.alloc o).heap.size (X.drew.alloc o) w1 := b
theorem row_ne {w : World} {a : Nat} (h : Row w a) : a ≠ w.heap.size ∧ w.heap.size ≠ a ∧ a ≠ w.heap.size + 1 ∧ w.heap.size + 1 ≠ a := by have := h.lt; omega
theorem rows_ne {w : World} {a b : Nat} (ha : Row w a) (hb : Row w b) (h : a < b ∨ b < a) : a ≠ b ∧ b ≠ a := by omega
theorem size_drew (w : World) : w.drew.heap.size = w.heap.size := rfl
theorem New.seg2 {w1 w3 : World} {p : Option Addr} {Z n c : Nat} (h : New w1 w3 p Z n) (hc : c < w1.heap.size) (u v : Value) : Seg ((w3.setCell ⟨c, 0, none⟩ u).setCell ⟨c, 1, none⟩ v) p Z n :=
  (h.fre.mid (((Mid.refl 0 w1.heap.size w3).set c 0 (Nat.zero_le _) hc u).set c 1 (Nat.zero_le _) hc v)).seg

end Go.Proofs.YticpdbnlbckbiaaGreatDoor

namespace Go.Proofs.YticpdbnlbckbiaaGreatDoor
open Go.RowKit
set_option linter.unusedVariables false

theorem bsetW {W w' : World} {c o : Nat} {u : Value} (h : Below W.heap.size W w') (hc : W.heap.size ≤ c) : Below W.heap.size W (w'.setCell ⟨c, o, none⟩ u) := h.setCell hc _
theorem ballW {W w' : World} {o : Obj} (h : Below W.heap.size W w') : Below W.heap.size W (w'.alloc o) := h.trans ((below_alloc o).mono h.size)
theorem bdrewW {W w' : World} (h : Below W.heap.size W w') : Below W.heap.size W w'.drew := h.drew
theorem rd_lt {Y n : Nat} (h : Y < BB ^ n) : rd Y < BB ^ (n + 1) := by
  unfold rd
  split
  · have h1 : BB ^ 1 ≤ BB ^ (n + 1) := pow_mono (by omega)
    have h2 : 1 < BB ^ 1 := by rw [Nat.pow_one, BB_eq]; omega
    exact Nat.lt_of_lt_of_le h2 h1
  · exact Nat.lt_of_lt_of_le h (pow_mono (by omega))
theorem consT {P : Program} {ops : Array Oper} {Q : Exit → Act → World → Prop} {md : Region.Mode} {S : World → Prop} {n : Nat} {L : Array Bool} {a : Act} {w : World} {i : Nat} {rs : List Nat} {d : Option Tmp} {op : Op} {ty : TypeId} {pos : String} {af : Array Edge} {g : Option (Nat × Bool)}
    (ho : ops[i]? = some ⟨d, op, ty, pos, af, g⟩) (h : ∀ K' : Act → World → Prop, Shut (∀ a w, S w → (S w → wpAnyH P md ops Q S n (L.setIfInBounds i true) a w) → K' a w) → if Region.wanted ⟨d, op, ty, pos, af, g⟩ (yielded ops a.tmps) = true then Oper.wp P ⟨d, op, ty, pos, af, g⟩ a w K' Q else K' (a.put d undef) w)
    (h2 : AllReadyH P md ops Q S n L a w rs) : AllReadyH P md ops Q S n L a w (i :: rs) := AllReadyH.cons ho h h2
/-- a store into a cell that holds no number leaves the numbers -/
theorem Seg.setB {w : World} {p : Option Addr} {X n c o : Nat} {u z : Value} (h : Seg w p X n) (hc : w.cell? ⟨c, o, none⟩ = some z) (hz : ∀ k i, z ≠ .int k i) : Seg (w.setCell ⟨c, o, none⟩ u) p X n := by
  refine ⟨h.1, fun hn => ?_⟩
  obtain ⟨b, off, rfl, hb, hcell⟩ := h.2 hn
  refine ⟨b, off, rfl, by simpa [World.setCell] using hb, fun i hi => ?_⟩
  have h1 := hcell i hi
  rw [World.cell?_setCell_other _ _ _ _ (fun e => ?_)]
  · exact h1
  · rw [← e, hc] at h1
    simp only [Option.some.injEq] at h1
    exact hz _ _ h1
theorem Seg.set4 {w : World} {p : Option Addr} {X n c : Nat} {u0 u1 u2 u3 : Value} {z0 z2 : Bool} {a1 a3 : Option Addr} {n1 n3 k1 k3 : Nat} (h : Seg w p X n) (h0 : w.cell? ⟨c, 0, none⟩ = some (.bool z0)) (h1 : w.cell? ⟨c, 1, none⟩ = some (.slice a1 n1 k1)) (h2 : w.cell? ⟨c, 2, none⟩ = some (.bool z2)) (h3 : w.cell? ⟨c, 3, none⟩ = some (.slice a3 n3 k3)) :
    Seg ((((w.setCell ⟨c, 0, none⟩ u0).setCell ⟨c, 1, none⟩ u1).setCell ⟨c, 2, none⟩ u2).setCell ⟨c, 3, none⟩ u3) p X n := by
  refine (((h.setB h0 (by simp)).setB (z := .slice a1 n1 k1) ?_ (by simp)).setB (z := .bool z2) ?_ (by simp)).setB (z := .slice a3 n3 k3) ?_ (by simp)
  · rw [World.cell?_setCell_other _ _ _ _ (fun e => by simp at e)]; exact h1
  · rw [World.cell?_setCell_other _ _ _ _ (fun e => by simp at e), World.cell?_setCell_other _ _ _ _ (fun e => by simp at e)]; exact h2
  · rw [World.cell?_setCell_other _ _ _ _ (fun e => by simp at e), World.cell?_setCell_other _ _ _ _ (fun e => by simp at e), World.cell?_setCell_other _ _ _ _ (fun e => by simp at e)]; exact h3
/-- what is known behind the store of a fraction into the block c -/
theorem stored4 {w W : World} {c d r : Nat} {u0 u1 u2 u3 v0 v1 v2 v3 : Value} {z0 z2 : Bool} {a1 a3 : Option Addr} {n1 n3 k1 k3 : Nat} {p1 p2 p3 p4 : Option Addr} {X1 X2 X3 X4 l1 l2 l3 l4 : Nat}
    (h0 : w.cell? ⟨c, 0, none⟩ = some (.bool z0)) (h1 : w.cell? ⟨c, 1, none⟩ = some (.slice a1 n1 k1)) (h2 : w.cell? ⟨c, 2, none⟩ = some (.bool z2)) (h3 : w.cell? ⟨c, 3, none⟩ = some (.slice a3 n3 k3))
    (g0 : w.cell? ⟨d, 0, none⟩ = some v0) (g1 : w.cell? ⟨d, 1, none⟩ = some v1) (g2 : w.cell? ⟨d, 2, none⟩ = some v2) (g3 : w.cell? ⟨d, 3, none⟩ = some v3) (gR : Row w r)
    (hBW : Below W.heap.size W w) (ge : W.heap.size ≤ c) (ne : c ≠ d) (s1 : Seg w p1 X1 l1) (s2 : Seg w p2 X2 l2) (s3 : Seg w p3 X3 l3) (s4 : Seg w p4 X4 l4) :
    ((((w.setCell ⟨c, 0, none⟩ u0).setCell ⟨c, 1, none⟩ u1).setCell ⟨c, 2, none⟩ u2).setCell ⟨c, 3, none⟩ u3).cell? ⟨c, 0, none⟩ = some u0 ∧ ((((w.setCell ⟨c, 0, none⟩ u0).setCell ⟨c, 1, none⟩ u1).setCell ⟨c, 2, none⟩ u2).setCell ⟨c, 3, none⟩ u3).cell? ⟨c, 1, none⟩ = some u1 ∧
    ((((w.setCell ⟨c, 0, none⟩ u0).setCell ⟨c, 1, none⟩ u1).setCell ⟨c, 2, none⟩ u2).setCell ⟨c, 3, none⟩ u3).cell? ⟨c, 2, none⟩ = some u2 ∧ ((((w.setCell ⟨c, 0, none⟩ u0).setCell ⟨c, 1, none⟩ u1).setCell ⟨c, 2, none⟩ u2).setCell ⟨c, 3, none⟩ u3).cell? ⟨c, 3, none⟩ = some u3 ∧
    ((((w.setCell ⟨c, 0, none⟩ u0).setCell ⟨c, 1, none⟩ u1).setCell ⟨c, 2, none⟩ u2).setCell ⟨c, 3, none⟩ u3).cell? ⟨d, 0, none⟩ = some v0 ∧ ((((w.setCell ⟨c, 0, none⟩ u0).setCell ⟨c, 1, none⟩ u1).setCell ⟨c, 2, none⟩ u2).setCell ⟨c, 3, none⟩ u3).cell? ⟨d, 1, none⟩ = some v1 ∧
    ((((w.setCell ⟨c, 0, none⟩ u0).setCell ⟨c, 1, none⟩ u1).setCell ⟨c, 2, none⟩ u2).setCell ⟨c, 3, none⟩ u3).cell? ⟨d, 2, none⟩ = some v2 ∧ ((((w.setCell ⟨c, 0, none⟩ u0).setCell ⟨c, 1, none⟩ u1).setCell ⟨c, 2, none⟩ u2).setCell ⟨c, 3, none⟩ u3).cell? ⟨d, 3, none⟩ = some v3 ∧
    Row ((((w.setCell ⟨c, 0, none⟩ u0).setCell ⟨c, 1, none⟩ u1).setCell ⟨c, 2, none⟩ u2).setCell ⟨c, 3, none⟩ u3) r ∧ Below W.heap.size W ((((w.setCell ⟨c, 0, none⟩ u0).setCell ⟨c, 1, none⟩ u1).setCell ⟨c, 2, none⟩ u2).setCell ⟨c, 3, none⟩ u3) ∧
    Seg ((((w.setCell ⟨c, 0, none⟩ u0).setCell ⟨c, 1, none⟩ u1).setCell ⟨c, 2, none⟩ u2).setCell ⟨c, 3, none⟩ u3) p1 X1 l1 ∧ Seg ((((w.setCell ⟨c, 0, none⟩ u0).setCell ⟨c, 1, none⟩ u1).setCell ⟨c, 2, none⟩ u2).setCell ⟨c, 3, none⟩ u3) p2 X2 l2 ∧
    Seg ((((w.setCell ⟨c, 0, none⟩ u0).setCell ⟨c, 1, none⟩ u1).setCell ⟨c, 2, none⟩ u2).setCell ⟨c, 3, none⟩ u3) p3 X3 l3 ∧ Seg ((((w.setCell ⟨c, 0, none⟩ u0).setCell ⟨c, 1, none⟩ u1).setCell ⟨c, 2, none⟩ u2).setCell ⟨c, 3, none⟩ u3) p4 X4 l4 := by
  have e := set4_same (u0 := u0) (u1 := u1) (u2 := u2) (u3 := u3) h0 h1 h2 h3
  exact ⟨e.1, e.2.1, e.2.2.1, e.2.2.2, (set4_far ne).trans g0, (set4_far ne).trans g1, (set4_far ne).trans g2, (set4_far ne).trans g3,
    (((gR.setCell _ _).setCell _ _).setCell _ _).setCell _ _, bsetW (bsetW (bsetW (bsetW hBW ge) ge) ge) ge, s1.set4 h0 h1 h2 h3, s2.set4 h0 h1 h2 h3, s3.set4 h0 h1 h2 h3, s4.set4 h0 h1 h2 h3⟩

end Go.Proofs.YticpdbnlbckbiaaGreatDoor

namespace Go.Proofs.YticpdbnlbckbiaaGreatDoor
open Go.RowKit
set_option linter.unusedVariables false

theorem Low.nf {N Z : Int} {V1 V : Nat} (h : Low N (V1 : Int) Z V) (h1 : 0 < V1) : Low (rn (ng N) (am N) V1) ((rd V1 : Nat) : Int) Z V := by rw [rn_nf h1, rd_nf h1]; exact h
theorem low_ln {s : Bool} {X Y n m : Nat} {Z : Int} {V : Nat} (hX : X < BB ^ n) (hY : Y < BB ^ m) (h : Low (rn s X Y) ((rd Y : Nat) : Int) Z V) : ln (am Z) ≤ n ∧ ln V ≤ m + 1 := by
  have h1 := h.le
  rw [am_nat] at h1
  exact ⟨ln_le_of_lt (Nat.lt_of_le_of_lt (Nat.le_trans h1.1 (rn_am s X Y)) hX), ln_le_of_lt (Nat.lt_of_le_of_lt h1.2 (rd_lt hY))⟩
theorem Low.neg {A D Z : Int} {V : Nat} (h : Low A D Z V) : Low (-A) D (-Z) V := ⟨h.ne, h.pos, by have := h.eq; rw [Int.neg_mul, Int.neg_mul, this], by rw [am_neg]; exact h.cop⟩

theorem run_field0 (v0 v1 v2 : Value) (w : World) : (Instr.field 27 (.agg #[v0, v1, v2]) 0).run Tryz.prog w = .ok (.agg #[v0, v1]) w := by kernel_rfl


end Go.Proofs.YticpdbnlbckbiaaGreatDoor
