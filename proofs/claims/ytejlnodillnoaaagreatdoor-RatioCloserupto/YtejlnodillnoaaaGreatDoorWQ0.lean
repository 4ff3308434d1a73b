import Derived.Test.YtejlnodillnoaaaGreatDoorNumQ
import Derived.Test.YtejlnodillnoaaaGreatDoorWI7
import Derived.Test.YtejlnodillnoaaaGreatDoorW17
set_option linter.unusedSimpArgs false
namespace Go.Proofs.YtejlnodillnoaaaGreatDoor
open Go.RowKit
set_option linter.unusedVariables false
theorem Seg.later {w1 w' : World} {a : Option Addr} {Z n : Nat} (h : Seg w1 a Z n) (hb : Below w1.heap.size w1 w') : Seg w' a Z n := h.below hb (Nat.le_refl _)
theorem bset {w w' : World} {c o : Nat} {u : Value} (h : Below w.heap.size w w') (hc : w.heap.size ≤ c) : Below w.heap.size w (w'.setCell ⟨c, o, none⟩ u) := h.setCell hc _
theorem results_ct {fn : Func} {p u : Tmp} {ty : TypeId} (h : fn.results = #[.cell p ty, .tmp u]) (tmps : Array Value) (P : Program) (w : World) :
    (results fn tmps).run P w = ((asAddr (tmps.getD p undef)).run P w).andThen fun a w1 => ((loadVar ty a).run P w1).andThen fun v w2 => .ok (.tuple #[v, tmps.getD u undef]) w2 := by
  simp only [results, h]
  simp [Sem.run_bind]
theorem kp3 {w W W' : World} {p0 p1 p2 : Addr} {v0 v1 v2 : Value} (hb : Below W.heap.size W W') (h : W.cell? p0 = some v0 ∧ W.cell? p1 = some v1 ∧ W.cell? p2 = some v2 ∧ Below w.heap.size w W) : W'.cell? p0 = some v0 ∧ W'.cell? p1 = some v1 ∧ W'.cell? p2 = some v2 ∧ Below w.heap.size w W' :=
  ⟨below_cell hb h.1, below_cell hb h.2.1, below_cell hb h.2.2.1, h.2.2.2.trans (hb.mono h.2.2.2.size)⟩
theorem kpT2_2 {w W : World} {b0 o0 b1 o1 c : Nat} {v0 v1 u0 u1 : Value} (h : W.cell? ⟨b0, o0, none⟩ = some v0 ∧ W.cell? ⟨b1, o1, none⟩ = some v1 ∧ Below w.heap.size w W) (hne0 : c ≠ b0) (hne1 : c ≠ b1) (hc : w.heap.size ≤ c) :
    ((W.setCell ⟨c, 0, none⟩ u0).setCell ⟨c, 1, none⟩ u1).cell? ⟨b0, o0, none⟩ = some v0 ∧ ((W.setCell ⟨c, 0, none⟩ u0).setCell ⟨c, 1, none⟩ u1).cell? ⟨b1, o1, none⟩ = some v1 ∧ Below w.heap.size w ((W.setCell ⟨c, 0, none⟩ u0).setCell ⟨c, 1, none⟩ u1) :=
  ⟨by rw [World.cell?_setCell_far _ _ _ _ (by exact hne0), World.cell?_setCell_far _ _ _ _ (by exact hne0)]; exact h.1, by rw [World.cell?_setCell_far _ _ _ _ (by exact hne1), World.cell?_setCell_far _ _ _ _ (by exact hne1)]; exact h.2.1, ((h.2.2.setCell hc _).setCell hc _)⟩
theorem kpT3_3 {w W : World} {b0 o0 b1 o1 b2 o2 c : Nat} {v0 v1 v2 u0 u1 u2 : Value} (h : W.cell? ⟨b0, o0, none⟩ = some v0 ∧ W.cell? ⟨b1, o1, none⟩ = some v1 ∧ W.cell? ⟨b2, o2, none⟩ = some v2 ∧ Below w.heap.size w W) (hne0 : c ≠ b0) (hne1 : c ≠ b1) (hne2 : c ≠ b2) (hc : w.heap.size ≤ c) :
    (((W.setCell ⟨c, 0, none⟩ u0).setCell ⟨c, 1, none⟩ u1).setCell ⟨c, 2, none⟩ u2).cell? ⟨b0, o0, none⟩ = some v0 ∧ (((W.setCell ⟨c, 0, none⟩ u0).setCell ⟨c, 1, none⟩ u1).setCell ⟨c, 2, none⟩ u2).cell? ⟨b1, o1, none⟩ = some v1 ∧ (((W.setCell ⟨c, 0, none⟩ u0).setCell ⟨c, 1, none⟩ u1).setCell ⟨c, 2, none⟩ u2).cell? ⟨b2, o2, none⟩ = some v2 ∧ Below w.heap.size w (((W.setCell ⟨c, 0, none⟩ u0).setCell ⟨c, 1, none⟩ u1).setCell ⟨c, 2, none⟩ u2) :=
  ⟨by rw [World.cell?_setCell_far _ _ _ _ (by exact hne0), World.cell?_setCell_far _ _ _ _ (by exact hne0), World.cell?_setCell_far _ _ _ _ (by exact hne0)]; exact h.1, by rw [World.cell?_setCell_far _ _ _ _ (by exact hne1), World.cell?_setCell_far _ _ _ _ (by exact hne1), World.cell?_setCell_far _ _ _ _ (by exact hne1)]; exact h.2.1, by rw [World.cell?_setCell_far _ _ _ _ (by exact hne2), World.cell?_setCell_far _ _ _ _ (by exact hne2), World.cell?_setCell_far _ _ _ _ (by exact hne2)]; exact h.2.2.1, (((h.2.2.2.setCell hc _).setCell hc _).setCell hc _)⟩
theorem kpT4_3 {w W : World} {b0 o0 b1 o1 b2 o2 b3 o3 c : Nat} {v0 v1 v2 v3 u0 u1 u2 : Value} (h : W.cell? ⟨b0, o0, none⟩ = some v0 ∧ W.cell? ⟨b1, o1, none⟩ = some v1 ∧ W.cell? ⟨b2, o2, none⟩ = some v2 ∧ W.cell? ⟨b3, o3, none⟩ = some v3 ∧ Below w.heap.size w W) (hne0 : c ≠ b0) (hne1 : c ≠ b1) (hne2 : c ≠ b2) (hne3 : c ≠ b3) (hc : w.heap.size ≤ c) :
    (((W.setCell ⟨c, 0, none⟩ u0).setCell ⟨c, 1, none⟩ u1).setCell ⟨c, 2, none⟩ u2).cell? ⟨b0, o0, none⟩ = some v0 ∧ (((W.setCell ⟨c, 0, none⟩ u0).setCell ⟨c, 1, none⟩ u1).setCell ⟨c, 2, none⟩ u2).cell? ⟨b1, o1, none⟩ = some v1 ∧ (((W.setCell ⟨c, 0, none⟩ u0).setCell ⟨c, 1, none⟩ u1).setCell ⟨c, 2, none⟩ u2).cell? ⟨b2, o2, none⟩ = some v2 ∧ (((W.setCell ⟨c, 0, none⟩ u0).setCell ⟨c, 1, none⟩ u1).setCell ⟨c, 2, none⟩ u2).cell? ⟨b3, o3, none⟩ = some v3 ∧ Below w.heap.size w (((W.setCell ⟨c, 0, none⟩ u0).setCell ⟨c, 1, none⟩ u1).setCell ⟨c, 2, none⟩ u2) :=
  ⟨by rw [World.cell?_setCell_far _ _ _ _ (by exact hne0), World.cell?_setCell_far _ _ _ _ (by exact hne0), World.cell?_setCell_far _ _ _ _ (by exact hne0)]; exact h.1, by rw [World.cell?_setCell_far _ _ _ _ (by exact hne1), World.cell?_setCell_far _ _ _ _ (by exact hne1), World.cell?_setCell_far _ _ _ _ (by exact hne1)]; exact h.2.1, by rw [World.cell?_setCell_far _ _ _ _ (by exact hne2), World.cell?_setCell_far _ _ _ _ (by exact hne2), World.cell?_setCell_far _ _ _ _ (by exact hne2)]; exact h.2.2.1, by rw [World.cell?_setCell_far _ _ _ _ (by exact hne3), World.cell?_setCell_far _ _ _ _ (by exact hne3), World.cell?_setCell_far _ _ _ _ (by exact hne3)]; exact h.2.2.2.1, (((h.2.2.2.2.setCell hc _).setCell hc _).setCell hc _)⟩
theorem kpT6_3 {w W : World} {b0 o0 b1 o1 b2 o2 b3 o3 b4 o4 b5 o5 c : Nat} {v0 v1 v2 v3 v4 v5 u0 u1 u2 : Value} (h : W.cell? ⟨b0, o0, none⟩ = some v0 ∧ W.cell? ⟨b1, o1, none⟩ = some v1 ∧ W.cell? ⟨b2, o2, none⟩ = some v2 ∧ W.cell? ⟨b3, o3, none⟩ = some v3 ∧ W.cell? ⟨b4, o4, none⟩ = some v4 ∧ W.cell? ⟨b5, o5, none⟩ = some v5 ∧ Below w.heap.size w W) (hne0 : c ≠ b0) (hne1 : c ≠ b1) (hne2 : c ≠ b2) (hne3 : c ≠ b3) (hne4 : c ≠ b4) (hne5 : c ≠ b5) (hc : w.heap.size ≤ c) :
    (((W.setCell ⟨c, 0, none⟩ u0).setCell ⟨c, 1, none⟩ u1).setCell ⟨c, 2, none⟩ u2).cell? ⟨b0, o0, none⟩ = some v0 ∧ (((W.setCell ⟨c, 0, none⟩ u0).setCell ⟨c, 1, none⟩ u1).setCell ⟨c, 2, none⟩ u2).cell? ⟨b1, o1, none⟩ = some v1 ∧ (((W.setCell ⟨c, 0, none⟩ u0).setCell ⟨c, 1, none⟩ u1).setCell ⟨c, 2, none⟩ u2).cell? ⟨b2, o2, none⟩ = some v2 ∧ (((W.setCell ⟨c, 0, none⟩ u0).setCell ⟨c, 1, none⟩ u1).setCell ⟨c, 2, none⟩ u2).cell? ⟨b3, o3, none⟩ = some v3 ∧ (((W.setCell ⟨c, 0, none⟩ u0).setCell ⟨c, 1, none⟩ u1).setCell ⟨c, 2, none⟩ u2).cell? ⟨b4, o4, none⟩ = some v4 ∧ (((W.setCell ⟨c, 0, none⟩ u0).setCell ⟨c, 1, none⟩ u1).setCell ⟨c, 2, none⟩ u2).cell? ⟨b5, o5, none⟩ = some v5 ∧ Below w.heap.size w (((W.setCell ⟨c, 0, none⟩ u0).setCell ⟨c, 1, none⟩ u1).setCell ⟨c, 2, none⟩ u2) :=
  ⟨by rw [World.cell?_setCell_far _ _ _ _ (by exact hne0), World.cell?_setCell_far _ _ _ _ (by exact hne0), World.cell?_setCell_far _ _ _ _ (by exact hne0)]; exact h.1, by rw [World.cell?_setCell_far _ _ _ _ (by exact hne1), World.cell?_setCell_far _ _ _ _ (by exact hne1), World.cell?_setCell_far _ _ _ _ (by exact hne1)]; exact h.2.1, by rw [World.cell?_setCell_far _ _ _ _ (by exact hne2), World.cell?_setCell_far _ _ _ _ (by exact hne2), World.cell?_setCell_far _ _ _ _ (by exact hne2)]; exact h.2.2.1, by rw [World.cell?_setCell_far _ _ _ _ (by exact hne3), World.cell?_setCell_far _ _ _ _ (by exact hne3), World.cell?_setCell_far _ _ _ _ (by exact hne3)]; exact h.2.2.2.1, by rw [World.cell?_setCell_far _ _ _ _ (by exact hne4), World.cell?_setCell_far _ _ _ _ (by exact hne4), World.cell?_setCell_far _ _ _ _ (by exact hne4)]; exact h.2.2.2.2.1, by rw [World.cell?_setCell_far _ _ _ _ (by exact hne5), World.cell?_setCell_far _ _ _ _ (by exact hne5), World.cell?_setCell_far _ _ _ _ (by exact hne5)]; exact h.2.2.2.2.2.1, (((h.2.2.2.2.2.2.setCell hc _).setCell hc _).setCell hc _)⟩
theorem kpT8_2 {w W : World} {b0 o0 b1 o1 b2 o2 b3 o3 b4 o4 b5 o5 b6 o6 b7 o7 c : Nat} {v0 v1 v2 v3 v4 v5 v6 v7 u0 u1 : Value} (h : W.cell? ⟨b0, o0, none⟩ = some v0 ∧ W.cell? ⟨b1, o1, none⟩ = some v1 ∧ W.cell? ⟨b2, o2, none⟩ = some v2 ∧ W.cell? ⟨b3, o3, none⟩ = some v3 ∧ W.cell? ⟨b4, o4, none⟩ = some v4 ∧ W.cell? ⟨b5, o5, none⟩ = some v5 ∧ W.cell? ⟨b6, o6, none⟩ = some v6 ∧ W.cell? ⟨b7, o7, none⟩ = some v7 ∧ Below w.heap.size w W) (hne0 : c ≠ b0) (hne1 : c ≠ b1) (hne2 : c ≠ b2) (hne3 : c ≠ b3) (hne4 : c ≠ b4) (hne5 : c ≠ b5) (hne6 : c ≠ b6) (hne7 : c ≠ b7) (hc : w.heap.size ≤ c) :
    ((W.setCell ⟨c, 0, none⟩ u0).setCell ⟨c, 1, none⟩ u1).cell? ⟨b0, o0, none⟩ = some v0 ∧ ((W.setCell ⟨c, 0, none⟩ u0).setCell ⟨c, 1, none⟩ u1).cell? ⟨b1, o1, none⟩ = some v1 ∧ ((W.setCell ⟨c, 0, none⟩ u0).setCell ⟨c, 1, none⟩ u1).cell? ⟨b2, o2, none⟩ = some v2 ∧ ((W.setCell ⟨c, 0, none⟩ u0).setCell ⟨c, 1, none⟩ u1).cell? ⟨b3, o3, none⟩ = some v3 ∧ ((W.setCell ⟨c, 0, none⟩ u0).setCell ⟨c, 1, none⟩ u1).cell? ⟨b4, o4, none⟩ = some v4 ∧ ((W.setCell ⟨c, 0, none⟩ u0).setCell ⟨c, 1, none⟩ u1).cell? ⟨b5, o5, none⟩ = some v5 ∧ ((W.setCell ⟨c, 0, none⟩ u0).setCell ⟨c, 1, none⟩ u1).cell? ⟨b6, o6, none⟩ = some v6 ∧ ((W.setCell ⟨c, 0, none⟩ u0).setCell ⟨c, 1, none⟩ u1).cell? ⟨b7, o7, none⟩ = some v7 ∧ Below w.heap.size w ((W.setCell ⟨c, 0, none⟩ u0).setCell ⟨c, 1, none⟩ u1) :=
  ⟨by rw [World.cell?_setCell_far _ _ _ _ (by exact hne0), World.cell?_setCell_far _ _ _ _ (by exact hne0)]; exact h.1, by rw [World.cell?_setCell_far _ _ _ _ (by exact hne1), World.cell?_setCell_far _ _ _ _ (by exact hne1)]; exact h.2.1, by rw [World.cell?_setCell_far _ _ _ _ (by exact hne2), World.cell?_setCell_far _ _ _ _ (by exact hne2)]; exact h.2.2.1, by rw [World.cell?_setCell_far _ _ _ _ (by exact hne3), World.cell?_setCell_far _ _ _ _ (by exact hne3)]; exact h.2.2.2.1, by rw [World.cell?_setCell_far _ _ _ _ (by exact hne4), World.cell?_setCell_far _ _ _ _ (by exact hne4)]; exact h.2.2.2.2.1, by rw [World.cell?_setCell_far _ _ _ _ (by exact hne5), World.cell?_setCell_far _ _ _ _ (by exact hne5)]; exact h.2.2.2.2.2.1, by rw [World.cell?_setCell_far _ _ _ _ (by exact hne6), World.cell?_setCell_far _ _ _ _ (by exact hne6)]; exact h.2.2.2.2.2.2.1, by rw [World.cell?_setCell_far _ _ _ _ (by exact hne7), World.cell?_setCell_far _ _ _ _ (by exact hne7)]; exact h.2.2.2.2.2.2.2.1, ((h.2.2.2.2.2.2.2.2.setCell hc _).setCell hc _)⟩
theorem kpT10_3 {w W : World} {b0 o0 b1 o1 b2 o2 b3 o3 b4 o4 b5 o5 b6 o6 b7 o7 b8 o8 b9 o9 c : Nat} {v0 v1 v2 v3 v4 v5 v6 v7 v8 v9 u0 u1 u2 : Value} (h : W.cell? ⟨b0, o0, none⟩ = some v0 ∧ W.cell? ⟨b1, o1, none⟩ = some v1 ∧ W.cell? ⟨b2, o2, none⟩ = some v2 ∧ W.cell? ⟨b3, o3, none⟩ = some v3 ∧ W.cell? ⟨b4, o4, none⟩ = some v4 ∧ W.cell? ⟨b5, o5, none⟩ = some v5 ∧ W.cell? ⟨b6, o6, none⟩ = some v6 ∧ W.cell? ⟨b7, o7, none⟩ = some v7 ∧ W.cell? ⟨b8, o8, none⟩ = some v8 ∧ W.cell? ⟨b9, o9, none⟩ = some v9 ∧ Below w.heap.size w W) (hne0 : c ≠ b0) (hne1 : c ≠ b1) (hne2 : c ≠ b2) (hne3 : c ≠ b3) (hne4 : c ≠ b4) (hne5 : c ≠ b5) (hne6 : c ≠ b6) (hne7 : c ≠ b7) (hne8 : c ≠ b8) (hne9 : c ≠ b9) (hc : w.heap.size ≤ c) :
    (((W.setCell ⟨c, 0, none⟩ u0).setCell ⟨c, 1, none⟩ u1).setCell ⟨c, 2, none⟩ u2).cell? ⟨b0, o0, none⟩ = some v0 ∧ (((W.setCell ⟨c, 0, none⟩ u0).setCell ⟨c, 1, none⟩ u1).setCell ⟨c, 2, none⟩ u2).cell? ⟨b1, o1, none⟩ = some v1 ∧ (((W.setCell ⟨c, 0, none⟩ u0).setCell ⟨c, 1, none⟩ u1).setCell ⟨c, 2, none⟩ u2).cell? ⟨b2, o2, none⟩ = some v2 ∧ (((W.setCell ⟨c, 0, none⟩ u0).setCell ⟨c, 1, none⟩ u1).setCell ⟨c, 2, none⟩ u2).cell? ⟨b3, o3, none⟩ = some v3 ∧ (((W.setCell ⟨c, 0, none⟩ u0).setCell ⟨c, 1, none⟩ u1).setCell ⟨c, 2, none⟩ u2).cell? ⟨b4, o4, none⟩ = some v4 ∧ (((W.setCell ⟨c, 0, none⟩ u0).setCell ⟨c, 1, none⟩ u1).setCell ⟨c, 2, none⟩ u2).cell? ⟨b5, o5, none⟩ = some v5 ∧ (((W.setCell ⟨c, 0, none⟩ u0).setCell ⟨c, 1, none⟩ u1).setCell ⟨c, 2, none⟩ u2).cell? ⟨b6, o6, none⟩ = some v6 ∧ (((W.setCell ⟨c, 0, none⟩ u0).setCell ⟨c, 1, none⟩ u1).setCell ⟨c, 2, none⟩ u2).cell? ⟨b7, o7, none⟩ = some v7 ∧ (((W.setCell ⟨c, 0, none⟩ u0).setCell ⟨c, 1, none⟩ u1).setCell ⟨c, 2, none⟩ u2).cell? ⟨b8, o8, none⟩ = some v8 ∧ (((W.setCell ⟨c, 0, none⟩ u0).setCell ⟨c, 1, none⟩ u1).setCell ⟨c, 2, none⟩ u2).cell? ⟨b9, o9, none⟩ = some v9 ∧ Below w.heap.size w (((W.setCell ⟨c, 0, none⟩ u0).setCell ⟨c, 1, none⟩ u1).setCell ⟨c, 2, none⟩ u2) :=
  ⟨by rw [World.cell?_setCell_far _ _ _ _ (by exact hne0), World.cell?_setCell_far _ _ _ _ (by exact hne0), World.cell?_setCell_far _ _ _ _ (by exact hne0)]; exact h.1, by rw [World.cell?_setCell_far _ _ _ _ (by exact hne1), World.cell?_setCell_far _ _ _ _ (by exact hne1), World.cell?_setCell_far _ _ _ _ (by exact hne1)]; exact h.2.1, by rw [World.cell?_setCell_far _ _ _ _ (by exact hne2), World.cell?_setCell_far _ _ _ _ (by exact hne2), World.cell?_setCell_far _ _ _ _ (by exact hne2)]; exact h.2.2.1, by rw [World.cell?_setCell_far _ _ _ _ (by exact hne3), World.cell?_setCell_far _ _ _ _ (by exact hne3), World.cell?_setCell_far _ _ _ _ (by exact hne3)]; exact h.2.2.2.1, by rw [World.cell?_setCell_far _ _ _ _ (by exact hne4), World.cell?_setCell_far _ _ _ _ (by exact hne4), World.cell?_setCell_far _ _ _ _ (by exact hne4)]; exact h.2.2.2.2.1, by rw [World.cell?_setCell_far _ _ _ _ (by exact hne5), World.cell?_setCell_far _ _ _ _ (by exact hne5), World.cell?_setCell_far _ _ _ _ (by exact hne5)]; exact h.2.2.2.2.2.1, by rw [World.cell?_setCell_far _ _ _ _ (by exact hne6), World.cell?_setCell_far _ _ _ _ (by exact hne6), World.cell?_setCell_far _ _ _ _ (by exact hne6)]; exact h.2.2.2.2.2.2.1, by rw [World.cell?_setCell_far _ _ _ _ (by exact hne7), World.cell?_setCell_far _ _ _ _ (by exact hne7), World.cell?_setCell_far _ _ _ _ (by exact hne7)]; exact h.2.2.2.2.2.2.2.1, by rw [World.cell?_setCell_far _ _ _ _ (by exact hne8), World.cell?_setCell_far _ _ _ _ (by exact hne8), World.cell?_setCell_far _ _ _ _ (by exact hne8)]; exact h.2.2.2.2.2.2.2.2.1, by rw [World.cell?_setCell_far _ _ _ _ (by exact hne9), World.cell?_setCell_far _ _ _ _ (by exact hne9), World.cell?_setCell_far _ _ _ _ (by exact hne9)]; exact h.2.2.2.2.2.2.2.2.2.1, (((h.2.2.2.2.2.2.2.2.2.2.setCell hc _).setCell hc _).setCell hc _)⟩
theorem kpT6_2 {w W : World} {b0 o0 b1 o1 b2 o2 b3 o3 b4 o4 b5 o5 c : Nat} {v0 v1 v2 v3 v4 v5 u0 u1 : Value} (h : W.cell? ⟨b0, o0, none⟩ = some v0 ∧ W.cell? ⟨b1, o1, none⟩ = some v1 ∧ W.cell? ⟨b2, o2, none⟩ = some v2 ∧ W.cell? ⟨b3, o3, none⟩ = some v3 ∧ W.cell? ⟨b4, o4, none⟩ = some v4 ∧ W.cell? ⟨b5, o5, none⟩ = some v5 ∧ Below w.heap.size w W) (hne0 : c ≠ b0) (hne1 : c ≠ b1) (hne2 : c ≠ b2) (hne3 : c ≠ b3) (hne4 : c ≠ b4) (hne5 : c ≠ b5) (hc : w.heap.size ≤ c) :
    ((W.setCell ⟨c, 0, none⟩ u0).setCell ⟨c, 1, none⟩ u1).cell? ⟨b0, o0, none⟩ = some v0 ∧ ((W.setCell ⟨c, 0, none⟩ u0).setCell ⟨c, 1, none⟩ u1).cell? ⟨b1, o1, none⟩ = some v1 ∧ ((W.setCell ⟨c, 0, none⟩ u0).setCell ⟨c, 1, none⟩ u1).cell? ⟨b2, o2, none⟩ = some v2 ∧ ((W.setCell ⟨c, 0, none⟩ u0).setCell ⟨c, 1, none⟩ u1).cell? ⟨b3, o3, none⟩ = some v3 ∧ ((W.setCell ⟨c, 0, none⟩ u0).setCell ⟨c, 1, none⟩ u1).cell? ⟨b4, o4, none⟩ = some v4 ∧ ((W.setCell ⟨c, 0, none⟩ u0).setCell ⟨c, 1, none⟩ u1).cell? ⟨b5, o5, none⟩ = some v5 ∧ Below w.heap.size w ((W.setCell ⟨c, 0, none⟩ u0).setCell ⟨c, 1, none⟩ u1) :=
  ⟨by rw [World.cell?_setCell_far _ _ _ _ (by exact hne0), World.cell?_setCell_far _ _ _ _ (by exact hne0)]; exact h.1, by rw [World.cell?_setCell_far _ _ _ _ (by exact hne1), World.cell?_setCell_far _ _ _ _ (by exact hne1)]; exact h.2.1, by rw [World.cell?_setCell_far _ _ _ _ (by exact hne2), World.cell?_setCell_far _ _ _ _ (by exact hne2)]; exact h.2.2.1, by rw [World.cell?_setCell_far _ _ _ _ (by exact hne3), World.cell?_setCell_far _ _ _ _ (by exact hne3)]; exact h.2.2.2.1, by rw [World.cell?_setCell_far _ _ _ _ (by exact hne4), World.cell?_setCell_far _ _ _ _ (by exact hne4)]; exact h.2.2.2.2.1, by rw [World.cell?_setCell_far _ _ _ _ (by exact hne5), World.cell?_setCell_far _ _ _ _ (by exact hne5)]; exact h.2.2.2.2.2.1, ((h.2.2.2.2.2.2.setCell hc _).setCell hc _)⟩
theorem al2 {X w1 : World} {u0 u1 : Value} {t : TypeId} (b : Below (X.alloc (.cells #[u0, u1] t)).heap.size (X.alloc (.cells #[u0, u1] t)) w1) : w1.cell? ⟨X.heap.size, 0, none⟩ = some u0 ∧ w1.cell? ⟨X.heap.size, 1, none⟩ = some u1 ∧ Row w1 X.heap.size :=
  ⟨below_cell b (by go_simp), below_cell b (by go_simp), below_row b (row_new X _ t)⟩
set_option maxHeartbeats 1000000 in
theorem wGcd_is (s : Bool) (ao : Option Addr) (n cap X : Nat) (t : Bool) (ao2 : Option Addr) (m cap2 Y G : Nat) (w : World) (hc : n ≤ cap) (hm : n ≤ 70368744177663) (hS : Seg w ao X n) (hc2 : m ≤ cap2) (hm2 : m ≤ 70368744177663) (hS2 : Seg w ao2 Y m) (h : Nat.gcd X Y = G) :
    Calls Tryz.prog 96 #[.agg #[.bool s, .slice ao n cap], .agg #[.bool t, .slice ao2 m cap2]] w fun e w' => ∃ ag, e = .returned (.slice ag (ln G) (ln G)) ∧ New w w' ag G (ln G) := by
  have HG := hide' (fun w' k1 k2 => Gcd_is ao ao2 n cap X m cap2 Y G w' hc hm k1 hc2 hm2 k2 h)
  clear h
  go_enter Tryz.func96, Tryz.ntmps96
  go_wp2_with fail
  obtain ⟨W, hW⟩ : ∃ W, ((w.alloc (.cells #[.bool s, .slice ao n cap] 25)).alloc (.cells #[.bool t, .slice ao2 m cap2] 25)) = W := ⟨_, rfl⟩
  have q00 : W.cell? ⟨w.heap.size, 0, none⟩ = some (.bool s) := by subst hW; go_simp
  have q01 : W.cell? ⟨w.heap.size, 1, none⟩ = some (.slice ao n cap) := by subst hW; go_simp
  have q10 : W.cell? ⟨w.heap.size + 1, 0, none⟩ = some (.bool t) := by subst hW; go_simp
  have q11 : W.cell? ⟨w.heap.size + 1, 1, none⟩ = some (.slice ao2 m cap2) := by subst hW; go_simp
  have hB : Below w.heap.size w W := by subst hW; exact (((Below.refl _ _).alloc (by (try simp only [World.size_alloc]); omega) _).alloc (by (try simp only [World.size_alloc]); omega) _)
  have hz : W.heap.size = w.heap.size + 1 + 1 := by subst hW; simp only [World.size_alloc]
  rw [hW]
  clear hW
  have hBW : Below W.heap.size W W := Below.refl _ _
  refine (HG.out _ (sb hS hB hBW) (sb hS2 hB hBW)).mono ?_
  rintro e w1 ⟨a1, rfl, hn⟩
  have b1 := hn.below
  replace hn := hn.back hBW
  replace hBW := hBW.trans (b1.mono hBW.size)
  replace q00 := below_cell b1 q00
  replace q01 := below_cell b1 q01
  replace q10 := below_cell b1 q10
  replace q11 := below_cell b1 q11
  go_wp2
  go_ret
  exact ⟨a1, rfl, hn.back hB⟩
set_option maxHeartbeats 1000000 in
theorem read_nz (s : Bool) (ao : Option Addr) (n cap : Nat) (ao2 : Option Addr) (m cap2 Y : Nat) (w : World) (hc2 : m ≤ cap2) (hm2 : m ≤ 70368744177664) (hS2 : Seg w ao2 Y m) (hY : Y ≠ 0) :
    Calls Tryz.prog 22 #[.agg #[.bool s, .slice ao n cap, .slice ao2 m cap2]] w fun e w' => e = .returned (.agg #[.bool s, .slice ao n cap, .bool false, .slice ao2 m cap2]) ∧ Below w.heap.size w w' := by
  obtain ⟨Z, hZ⟩ : ∃ Z, sg false Y = Z := ⟨_, rfl⟩
  have hx : (sgn Z == 0) = false := by rw [← hZ, sgn_sg hY]; rfl
  have HZ := hide' hZ
  clear hZ
  go_enter Tryz.func22, Tryz.ntmps22
  go_wp2_with fail
  obtain ⟨W, hW⟩ : ∃ W, (((w.alloc (.cells #[.bool s, .slice ao n cap, .slice ao2 m cap2] 27)).alloc (.cells #[.bool false, .slice none 0 0, .bool false, .slice none 0 0] 43)).alloc (.cells #[.bool false, .slice ao2 m cap2] 25)) = W := ⟨_, rfl⟩
  have q00 : W.cell? ⟨w.heap.size, 0, none⟩ = some (.bool s) := by subst hW; go_simp
  have q01 : W.cell? ⟨w.heap.size, 1, none⟩ = some (.slice ao n cap) := by subst hW; go_simp
  have q02 : W.cell? ⟨w.heap.size, 2, none⟩ = some (.slice ao2 m cap2) := by subst hW; go_simp
  have r00 : W.cell? ⟨w.heap.size + 1, 0, none⟩ = some (.bool false) := by subst hW; go_simp
  have r01 : W.cell? ⟨w.heap.size + 1, 1, none⟩ = some (.slice none 0 0) := by subst hW; go_simp
  have r02 : W.cell? ⟨w.heap.size + 1, 2, none⟩ = some (.bool false) := by subst hW; go_simp
  have r03 : W.cell? ⟨w.heap.size + 1, 3, none⟩ = some (.slice none 0 0) := by subst hW; go_simp
  have r10 : W.cell? ⟨w.heap.size + 1 + 1, 0, none⟩ = some (.bool false) := by subst hW; go_simp
  have r11 : W.cell? ⟨w.heap.size + 1 + 1, 1, none⟩ = some (.slice ao2 m cap2) := by subst hW; go_simp
  have hB : Below w.heap.size w W := by subst hW; exact ((((Below.refl _ _).alloc (by (try simp only [World.size_alloc]); omega) _).alloc (by (try simp only [World.size_alloc]); omega) _).alloc (by (try simp only [World.size_alloc]); omega) _)
  have hR0 : Row W (w.heap.size + 1) := by
    have := row_new ((w.alloc (.cells #[.bool s, .slice ao n cap, .slice ao2 m cap2] 27))) #[.bool false, .slice none 0 0, .bool false, .slice none 0 0] 43
    try simp only [World.size_alloc] at this
    subst hW; exact (this.alloc _)
  have hR1 : Row W (w.heap.size + 1 + 1) := by
    have := row_new (((w.alloc (.cells #[.bool s, .slice ao n cap, .slice ao2 m cap2] 27)).alloc (.cells #[.bool false, .slice none 0 0, .bool false, .slice none 0 0] 43))) #[.bool false, .slice ao2 m cap2] 25
    try simp only [World.size_alloc] at this
    subst hW; exact this
  have hz : W.heap.size = w.heap.size + 1 + 1 + 1 := by subst hW; simp only [World.size_alloc]
  rw [hW]
  clear hW
  have hBW : Below W.heap.size W W := Below.refl _ _
  refine (wSign_is false ao2 m cap2 Y Z _ hc2 hm2 (sb hS2 hB hBW) HZ.out).mono ?_
  rintro e w1 ⟨rfl, b1⟩
  replace hBW := hBW.trans (b1.mono hBW.size)
  replace q00 := below_cell b1 q00
  replace q01 := below_cell b1 q01
  replace q02 := below_cell b1 q02
  replace r00 := below_cell b1 r00
  replace r01 := below_cell b1 r01
  replace r02 := below_cell b1 r02
  replace r03 := below_cell b1 r03
  replace r10 := below_cell b1 r10
  replace r11 := below_cell b1 r11
  replace hR0 := below_row b1 hR0
  replace hR1 := below_row b1 hR1
  have fz0 := fun o => hR0.frozen o
  have fz1 := fun o => hR1.frozen o
  go_wp2
  all_goals refine bodyPost_ret (v := .agg #[.bool s, .slice ao n cap, .bool false, .slice ao2 m cap2]) (by rw [results_cell rfl]; go_simp) rfl ?_
  all_goals exact ⟨rfl, ((bset (bset (bset (bset (hB.trans (hBW.mono hB.size)) (by omega)) (by omega)) (by omega)) (by omega)))⟩
set_option maxHeartbeats 1000000 in
set_option maxRecDepth 30000 in
theorem read_z (s : Bool) (ao : Option Addr) (n cap : Nat) (ao2 : Option Addr) (m cap2 : Nat) (w : World) (hc2 : m ≤ cap2) (hm2 : m ≤ 70368744177664) (hS2 : Seg w ao2 0 m) :
    Calls Tryz.prog 22 #[.agg #[.bool s, .slice ao n cap, .slice ao2 m cap2]] w fun e w' => ∃ p q, e = .returned (.agg #[.bool (ng 0), .slice p (ln (am 0)) (ln (am 0)), .bool (ng 1), .slice q (ln (am 1)) (ln (am 1))]) ∧ New w w' p (am 0) (ln (am 0)) ∧ New w w' q (am 1) (ln (am 1)) := by
  obtain ⟨Z0, hZ0⟩ : ∃ Z0 : Int, 0 = Z0 := ⟨_, rfl⟩
  obtain ⟨Z1, hZ1⟩ : ∃ Z1 : Int, 1 = Z1 := ⟨_, rfl⟩
  have H0 : ∀ w', Calls Tryz.prog 62 #[.int .i64 0] w' fun e w'' => ∃ ao', e = .returned (.agg #[.bool (ng Z0), .slice ao' (ln (am Z0)) (ln (am Z0))]) ∧ New w' w'' ao' (am Z0) (ln (am Z0)) := fun w' => hZ0 ▸ wOf_is 0 w' (by omega) (by omega)
  have H1 : ∀ w', Calls Tryz.prog 62 #[.int .i64 1] w' fun e w'' => ∃ ao', e = .returned (.agg #[.bool (ng Z1), .slice ao' (ln (am Z1)) (ln (am Z1))]) ∧ New w' w'' ao' (am Z1) (ln (am Z1)) := fun w' => hZ1 ▸ wOf_is 1 w' (by omega) (by omega)
  rw [show am 0 = am Z0 from congrArg am hZ0, show am 1 = am Z1 from congrArg am hZ1, show ng 0 = ng Z0 from congrArg ng hZ0, show ng 1 = ng Z1 from congrArg ng hZ1]
  have G0 := hide' H0
  have G1 := hide' H1
  clear H0 H1 hZ0 hZ1
  go_enter Tryz.func22, Tryz.ntmps22
  go_wp2_with fail
  obtain ⟨W, hW⟩ : ∃ W, (((w.alloc (.cells #[.bool s, .slice ao n cap, .slice ao2 m cap2] 27)).alloc (.cells #[.bool false, .slice none 0 0, .bool false, .slice none 0 0] 43)).alloc (.cells #[.bool false, .slice ao2 m cap2] 25)) = W := ⟨_, rfl⟩
  have q00 : W.cell? ⟨w.heap.size, 0, none⟩ = some (.bool s) := by subst hW; go_simp
  have q01 : W.cell? ⟨w.heap.size, 1, none⟩ = some (.slice ao n cap) := by subst hW; go_simp
  have q02 : W.cell? ⟨w.heap.size, 2, none⟩ = some (.slice ao2 m cap2) := by subst hW; go_simp
  have r00 : W.cell? ⟨w.heap.size + 1, 0, none⟩ = some (.bool false) := by subst hW; go_simp
  have r01 : W.cell? ⟨w.heap.size + 1, 1, none⟩ = some (.slice none 0 0) := by subst hW; go_simp
  have r02 : W.cell? ⟨w.heap.size + 1, 2, none⟩ = some (.bool false) := by subst hW; go_simp
  have r03 : W.cell? ⟨w.heap.size + 1, 3, none⟩ = some (.slice none 0 0) := by subst hW; go_simp
  have r10 : W.cell? ⟨w.heap.size + 1 + 1, 0, none⟩ = some (.bool false) := by subst hW; go_simp
  have r11 : W.cell? ⟨w.heap.size + 1 + 1, 1, none⟩ = some (.slice ao2 m cap2) := by subst hW; go_simp
  have hB : Below w.heap.size w W := by subst hW; exact ((((Below.refl _ _).alloc (by (try simp only [World.size_alloc]); omega) _).alloc (by (try simp only [World.size_alloc]); omega) _).alloc (by (try simp only [World.size_alloc]); omega) _)
  have hR0 : Row W (w.heap.size + 1) := by
    have := row_new ((w.alloc (.cells #[.bool s, .slice ao n cap, .slice ao2 m cap2] 27))) #[.bool false, .slice none 0 0, .bool false, .slice none 0 0] 43
    try simp only [World.size_alloc] at this
    subst hW; exact (this.alloc _)
  have hR1 : Row W (w.heap.size + 1 + 1) := by
    have := row_new (((w.alloc (.cells #[.bool s, .slice ao n cap, .slice ao2 m cap2] 27)).alloc (.cells #[.bool false, .slice none 0 0, .bool false, .slice none 0 0] 43))) #[.bool false, .slice ao2 m cap2] 25
    try simp only [World.size_alloc] at this
    subst hW; exact this
  have hz : W.heap.size = w.heap.size + 1 + 1 + 1 := by subst hW; simp only [World.size_alloc]
  rw [hW]
  clear hW
  have hBW : Below W.heap.size W W := Below.refl _ _
  refine (wSign_is false ao2 m cap2 0 0 _ hc2 hm2 (sb hS2 hB hBW) rfl).mono ?_
  rintro e w1 ⟨rfl, b1⟩
  replace hBW := hBW.trans (b1.mono hBW.size)
  replace q00 := below_cell b1 q00
  replace q01 := below_cell b1 q01
  replace q02 := below_cell b1 q02
  replace r00 := below_cell b1 r00
  replace r01 := below_cell b1 r01
  replace r02 := below_cell b1 r02
  replace r03 := below_cell b1 r03
  replace r10 := below_cell b1 r10
  replace r11 := below_cell b1 r11
  replace hR0 := below_row b1 hR0
  replace hR1 := below_row b1 hR1
  rw [sgn_zero]
  go_wp2_with fail
  refine (G0.out _).mono ?_
  rintro e w2 ⟨a2, rfl, hn⟩
  have b2 := hn.below
  replace hn := hn.back hBW
  replace hBW := hBW.trans (b2.mono hBW.size)
  replace q00 := below_cell b2 q00
  replace q01 := below_cell b2 q01
  replace q02 := below_cell b2 q02
  replace r00 := below_cell b2 r00
  replace r01 := below_cell b2 r01
  replace r02 := below_cell b2 r02
  replace r03 := below_cell b2 r03
  replace r10 := below_cell b2 r10
  replace r11 := below_cell b2 r11
  replace hR0 := below_row b2 hR0
  replace hR1 := below_row b2 hR1
  go_wp2_with fail
  refine (G1.out _).mono ?_
  rintro e w3 ⟨a3, rfl, hk⟩
  have b3 := hk.below
  replace hk := hk.back hBW
  replace hBW := hBW.trans (b3.mono hBW.size)
  replace q00 := below_cell b3 q00
  replace q01 := below_cell b3 q01
  replace q02 := below_cell b3 q02
  replace r00 := below_cell b3 r00
  replace r01 := below_cell b3 r01
  replace r02 := below_cell b3 r02
  replace r03 := below_cell b3 r03
  replace r10 := below_cell b3 r10
  replace r11 := below_cell b3 r11
  replace hR0 := below_row b3 hR0
  replace hR1 := below_row b3 hR1
  replace hn := hn.later b3
  have fz0 := fun o => hR0.frozen o
  have fz1 := fun o => hR1.frozen o
  go_wp2
  all_goals refine bodyPost_ret (v := .agg #[.bool (ng Z0), .slice a2 (ln (am Z0)) (ln (am Z0)), .bool (ng Z1), .slice a3 (ln (am Z1)) (ln (am Z1))]) (by rw [results_cell rfl]; go_simp) rfl ?_
  all_goals exact ⟨a2, a3, rfl, hn.mid hB ((((((Mid.refl _ _ _).set _ _ (by omega) (by omega) _).set _ _ (by omega) (by omega) _).set _ _ (by omega) (by omega) _).set _ _ (by omega) (by omega) _)), hk.mid hB ((((((Mid.refl _ _ _).set _ _ (by omega) (by omega) _).set _ _ (by omega) (by omega) _).set _ _ (by omega) (by omega) _).set _ _ (by omega) (by omega) _))⟩
end Go.Proofs.YtejlnodillnoaaaGreatDoor
