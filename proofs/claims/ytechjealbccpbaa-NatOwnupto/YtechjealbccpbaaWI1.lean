/-
  Layer 2's small functions: side, signed, Norm, Neg, Abs, Of, Sign, Small; the reference's; SameNat, SameInt, same.
-/
import Derived.Test.YtechjealbccpbaaNumI
import Derived.Test.YtechjealbccpbaaW5
import Derived.Deep.RegionHeld3
import Derived.Test.YtechjealbccpbaaW4
namespace Go.Proofs.Ytechjealbccpbaa
open Go.RowKit
set_option linter.unusedVariables false


/-- whether an odd number of signs is below 0 -/
def xr (g : Nat → Bool) : Nat → Bool
  | 0 => false
  | k + 1 => (xr g k != g k)
theorem sd_mul (a b : Bool) : sd a * sd b = sd (a != b) := by cases a <;> cases b <;> rfl
theorem sd_wrap (a : Bool) : wrap64 (sd a) = sd a := by unfold wrap64; have := sd_range a; omega
theorem sd_lt (a : Bool) : decide (sd a < 0) = a := by cases a <;> rfl

theorem take' {P : Program} {ops : Array Oper} {Q : Exit → Act → World → Prop} {md : Region.Mode} {S : World → Prop} (i : Nat) {d : Option Tmp} {op : Op} {ty : TypeId} {pos : String} {af : Array Edge} {g : Option (Nat × Bool)} {v : Value} {n : Nat} {L : Array Bool} {a : Act} {w : World}
    (hi : ops[i]? = some ⟨d, op, ty, pos, af, g⟩) (hs : Region.noSelect ops = true) (hf : Region.free md ops L i = true) (hr : (Region.ready md ops L).contains i = true)
    (hQ : ∀ c a w, Q (.panic c) (a.put d v) w → Q (.panic c) a w) (hy : YieldsIf P ops S ⟨d, op, ty, pos, af, g⟩ v a) (hS : S w) (h : wpAnyH P md ops Q S n (L.setIfInBounds i true) (a.put d v) w) : wpAnyH P md ops Q S (n + 1) L a w :=
  wpAnyH_take hi hs hf hr hQ hy hS h
theorem cons' {P : Program} {ops : Array Oper} {Q : Exit → Act → World → Prop} {md : Region.Mode} {S : World → Prop} {n : Nat} {L : Array Bool} {a : Act} {w : World} {i : Nat} {d : Option Tmp} {op : Op} {ty : TypeId} {pos : String} {af : Array Edge} {g : Option (Nat × Bool)}
    (ho : ops[i]? = some ⟨d, op, ty, pos, af, g⟩) (h : ∀ K' : Act → World → Prop, Shut (∀ a w, S w → (S w → wpAnyH P md ops Q S n (L.setIfInBounds i true) a w) → K' a w) → if Region.wanted ⟨d, op, ty, pos, af, g⟩ (yielded ops a.tmps) = true then Oper.wp P ⟨d, op, ty, pos, af, g⟩ a w K' Q else K' (a.put d undef) w) :
    AllReadyH P md ops Q S n L a w [i] := AllReadyH.cons ho h AllReadyH.nil
theorem below_at {B : Nat} {w w' : World} (h : Below B w w') {p : Addr} {v : Value} (hp : p.block < B) (hc : w.cell? p = some v) : w'.cell? p = some v := by
  rw [h.cell hp]; exact hc
theorem below_cell {w w' : World} (h : Below w.heap.size w w') {p : Addr} {v : Value} (hc : w.cell? p = some v) : w'.cell? p = some v :=
  below_at h (World.block_lt_of_cell? w p hc) hc
theorem below_row {w w' : World} (h : Below w.heap.size w w') {b : Nat} (hr : Row w b) : Row w' b := hr.below h hr.lt
theorem below_alloc {w : World} (o : Obj) : Below w.heap.size w (w.alloc o) := (Below.refl _ _).alloc (Nat.le_refl _) _
theorem below_al {w w' : World} {o : Obj} (h : Below (w.alloc o).heap.size (w.alloc o) w') : Below w.heap.size w w' := (below_alloc o).trans (h.mono (below_alloc o).size)
theorem sb {w W W' : World} {a : Option Addr} {X n : Nat} (h : Seg w a X n) (hB : Below w.heap.size w W) (k : Below W.heap.size W W') : Seg W' a X n :=
  h.below (hB.trans (k.mono hB.size)) (Nat.le_refl _)
/-- the cells of a parameter, and what was before -/
theorem kp2 {w W W' : World} {p0 p1 : Addr} {v0 v1 : Value} (hb : Below W.heap.size W W') (h : W.cell? p0 = some v0 ∧ W.cell? p1 = some v1 ∧ Below w.heap.size w W) : W'.cell? p0 = some v0 ∧ W'.cell? p1 = some v1 ∧ Below w.heap.size w W' :=
  ⟨below_cell hb h.1, below_cell hb h.2.1, h.2.2.trans (hb.mono h.2.2.size)⟩
theorem kpS2 {w W : World} {b c o : Nat} {v0 v1 u : Value} (h : W.cell? ⟨b, 0, none⟩ = some v0 ∧ W.cell? ⟨b, 1, none⟩ = some v1 ∧ Below w.heap.size w W) (hne : c ≠ b) (hc : w.heap.size ≤ c) :
    (W.setCell ⟨c, o, none⟩ u).cell? ⟨b, 0, none⟩ = some v0 ∧ (W.setCell ⟨c, o, none⟩ u).cell? ⟨b, 1, none⟩ = some v1 ∧ Below w.heap.size w (W.setCell ⟨c, o, none⟩ u) :=
  ⟨by rw [World.cell?_setCell_far _ _ _ _ (by exact hne)]; exact h.1, by rw [World.cell?_setCell_far _ _ _ _ (by exact hne)]; exact h.2.1, h.2.2.setCell hc _⟩
theorem kp4 {w W W' : World} {p0 p1 p2 p3 : Addr} {v0 v1 v2 v3 : Value} (hb : Below W.heap.size W W') (h : W.cell? p0 = some v0 ∧ W.cell? p1 = some v1 ∧ W.cell? p2 = some v2 ∧ W.cell? p3 = some v3 ∧ Below w.heap.size w W) :
    W'.cell? p0 = some v0 ∧ W'.cell? p1 = some v1 ∧ W'.cell? p2 = some v2 ∧ W'.cell? p3 = some v3 ∧ Below w.heap.size w W' :=
  ⟨below_cell hb h.1, below_cell hb h.2.1, below_cell hb h.2.2.1, below_cell hb h.2.2.2.1, h.2.2.2.2.trans (hb.mono h.2.2.2.2.size)⟩
theorem kpS4 {w W : World} {b d c o : Nat} {v0 v1 v2 v3 u : Value} (h : W.cell? ⟨b, 0, none⟩ = some v0 ∧ W.cell? ⟨b, 1, none⟩ = some v1 ∧ W.cell? ⟨d, 0, none⟩ = some v2 ∧ W.cell? ⟨d, 1, none⟩ = some v3 ∧ Below w.heap.size w W) (hne : c ≠ b) (hne2 : c ≠ d) (hc : w.heap.size ≤ c) :
    (W.setCell ⟨c, o, none⟩ u).cell? ⟨b, 0, none⟩ = some v0 ∧ (W.setCell ⟨c, o, none⟩ u).cell? ⟨b, 1, none⟩ = some v1 ∧ (W.setCell ⟨c, o, none⟩ u).cell? ⟨d, 0, none⟩ = some v2 ∧ (W.setCell ⟨c, o, none⟩ u).cell? ⟨d, 1, none⟩ = some v3 ∧ Below w.heap.size w (W.setCell ⟨c, o, none⟩ u) :=
  ⟨by rw [World.cell?_setCell_far _ _ _ _ (by exact hne)]; exact h.1, by rw [World.cell?_setCell_far _ _ _ _ (by exact hne)]; exact h.2.1, by rw [World.cell?_setCell_far _ _ _ _ (by exact hne2)]; exact h.2.2.1,
    by rw [World.cell?_setCell_far _ _ _ _ (by exact hne2)]; exact h.2.2.2.1, h.2.2.2.2.setCell hc _⟩

theorem kp6 {w W W' : World} {p0 p1 p2 p3 p4 p5 : Addr} {v0 v1 v2 v3 v4 v5 : Value} (hb : Below W.heap.size W W') (h : W.cell? p0 = some v0 ∧ W.cell? p1 = some v1 ∧ W.cell? p2 = some v2 ∧ W.cell? p3 = some v3 ∧ W.cell? p4 = some v4 ∧ W.cell? p5 = some v5 ∧ Below w.heap.size w W) : W'.cell? p0 = some v0 ∧ W'.cell? p1 = some v1 ∧ W'.cell? p2 = some v2 ∧ W'.cell? p3 = some v3 ∧ W'.cell? p4 = some v4 ∧ W'.cell? p5 = some v5 ∧ Below w.heap.size w W' :=
  ⟨below_cell hb h.1, below_cell hb h.2.1, below_cell hb h.2.2.1, below_cell hb h.2.2.2.1, below_cell hb h.2.2.2.2.1, below_cell hb h.2.2.2.2.2.1, h.2.2.2.2.2.2.trans (hb.mono h.2.2.2.2.2.2.size)⟩
theorem kp8 {w W W' : World} {p0 p1 p2 p3 p4 p5 p6 p7 : Addr} {v0 v1 v2 v3 v4 v5 v6 v7 : Value} (hb : Below W.heap.size W W') (h : W.cell? p0 = some v0 ∧ W.cell? p1 = some v1 ∧ W.cell? p2 = some v2 ∧ W.cell? p3 = some v3 ∧ W.cell? p4 = some v4 ∧ W.cell? p5 = some v5 ∧ W.cell? p6 = some v6 ∧ W.cell? p7 = some v7 ∧ Below w.heap.size w W) : W'.cell? p0 = some v0 ∧ W'.cell? p1 = some v1 ∧ W'.cell? p2 = some v2 ∧ W'.cell? p3 = some v3 ∧ W'.cell? p4 = some v4 ∧ W'.cell? p5 = some v5 ∧ W'.cell? p6 = some v6 ∧ W'.cell? p7 = some v7 ∧ Below w.heap.size w W' :=
  ⟨below_cell hb h.1, below_cell hb h.2.1, below_cell hb h.2.2.1, below_cell hb h.2.2.2.1, below_cell hb h.2.2.2.2.1, below_cell hb h.2.2.2.2.2.1, below_cell hb h.2.2.2.2.2.2.1, below_cell hb h.2.2.2.2.2.2.2.1, h.2.2.2.2.2.2.2.2.trans (hb.mono h.2.2.2.2.2.2.2.2.size)⟩
theorem kp10 {w W W' : World} {p0 p1 p2 p3 p4 p5 p6 p7 p8 p9 : Addr} {v0 v1 v2 v3 v4 v5 v6 v7 v8 v9 : Value} (hb : Below W.heap.size W W') (h : W.cell? p0 = some v0 ∧ W.cell? p1 = some v1 ∧ W.cell? p2 = some v2 ∧ W.cell? p3 = some v3 ∧ W.cell? p4 = some v4 ∧ W.cell? p5 = some v5 ∧ W.cell? p6 = some v6 ∧ W.cell? p7 = some v7 ∧ W.cell? p8 = some v8 ∧ W.cell? p9 = some v9 ∧ Below w.heap.size w W) : W'.cell? p0 = some v0 ∧ W'.cell? p1 = some v1 ∧ W'.cell? p2 = some v2 ∧ W'.cell? p3 = some v3 ∧ W'.cell? p4 = some v4 ∧ W'.cell? p5 = some v5 ∧ W'.cell? p6 = some v6 ∧ W'.cell? p7 = some v7 ∧ W'.cell? p8 = some v8 ∧ W'.cell? p9 = some v9 ∧ Below w.heap.size w W' :=
  ⟨below_cell hb h.1, below_cell hb h.2.1, below_cell hb h.2.2.1, below_cell hb h.2.2.2.1, below_cell hb h.2.2.2.2.1, below_cell hb h.2.2.2.2.2.1, below_cell hb h.2.2.2.2.2.2.1, below_cell hb h.2.2.2.2.2.2.2.1, below_cell hb h.2.2.2.2.2.2.2.2.1, below_cell hb h.2.2.2.2.2.2.2.2.2.1, h.2.2.2.2.2.2.2.2.2.2.trans (hb.mono h.2.2.2.2.2.2.2.2.2.2.size)⟩
theorem kp12 {w W W' : World} {p0 p1 p2 p3 p4 p5 p6 p7 p8 p9 p10 p11 : Addr} {v0 v1 v2 v3 v4 v5 v6 v7 v8 v9 v10 v11 : Value} (hb : Below W.heap.size W W') (h : W.cell? p0 = some v0 ∧ W.cell? p1 = some v1 ∧ W.cell? p2 = some v2 ∧ W.cell? p3 = some v3 ∧ W.cell? p4 = some v4 ∧ W.cell? p5 = some v5 ∧ W.cell? p6 = some v6 ∧ W.cell? p7 = some v7 ∧ W.cell? p8 = some v8 ∧ W.cell? p9 = some v9 ∧ W.cell? p10 = some v10 ∧ W.cell? p11 = some v11 ∧ Below w.heap.size w W) : W'.cell? p0 = some v0 ∧ W'.cell? p1 = some v1 ∧ W'.cell? p2 = some v2 ∧ W'.cell? p3 = some v3 ∧ W'.cell? p4 = some v4 ∧ W'.cell? p5 = some v5 ∧ W'.cell? p6 = some v6 ∧ W'.cell? p7 = some v7 ∧ W'.cell? p8 = some v8 ∧ W'.cell? p9 = some v9 ∧ W'.cell? p10 = some v10 ∧ W'.cell? p11 = some v11 ∧ Below w.heap.size w W' :=
  ⟨below_cell hb h.1, below_cell hb h.2.1, below_cell hb h.2.2.1, below_cell hb h.2.2.2.1, below_cell hb h.2.2.2.2.1, below_cell hb h.2.2.2.2.2.1, below_cell hb h.2.2.2.2.2.2.1, below_cell hb h.2.2.2.2.2.2.2.1, below_cell hb h.2.2.2.2.2.2.2.2.1, below_cell hb h.2.2.2.2.2.2.2.2.2.1, below_cell hb h.2.2.2.2.2.2.2.2.2.2.1, below_cell hb h.2.2.2.2.2.2.2.2.2.2.2.1, h.2.2.2.2.2.2.2.2.2.2.2.2.trans (hb.mono h.2.2.2.2.2.2.2.2.2.2.2.2.size)⟩
theorem kp14 {w W W' : World} {p0 p1 p2 p3 p4 p5 p6 p7 p8 p9 p10 p11 p12 p13 : Addr} {v0 v1 v2 v3 v4 v5 v6 v7 v8 v9 v10 v11 v12 v13 : Value} (hb : Below W.heap.size W W') (h : W.cell? p0 = some v0 ∧ W.cell? p1 = some v1 ∧ W.cell? p2 = some v2 ∧ W.cell? p3 = some v3 ∧ W.cell? p4 = some v4 ∧ W.cell? p5 = some v5 ∧ W.cell? p6 = some v6 ∧ W.cell? p7 = some v7 ∧ W.cell? p8 = some v8 ∧ W.cell? p9 = some v9 ∧ W.cell? p10 = some v10 ∧ W.cell? p11 = some v11 ∧ W.cell? p12 = some v12 ∧ W.cell? p13 = some v13 ∧ Below w.heap.size w W) : W'.cell? p0 = some v0 ∧ W'.cell? p1 = some v1 ∧ W'.cell? p2 = some v2 ∧ W'.cell? p3 = some v3 ∧ W'.cell? p4 = some v4 ∧ W'.cell? p5 = some v5 ∧ W'.cell? p6 = some v6 ∧ W'.cell? p7 = some v7 ∧ W'.cell? p8 = some v8 ∧ W'.cell? p9 = some v9 ∧ W'.cell? p10 = some v10 ∧ W'.cell? p11 = some v11 ∧ W'.cell? p12 = some v12 ∧ W'.cell? p13 = some v13 ∧ Below w.heap.size w W' :=
  ⟨below_cell hb h.1, below_cell hb h.2.1, below_cell hb h.2.2.1, below_cell hb h.2.2.2.1, below_cell hb h.2.2.2.2.1, below_cell hb h.2.2.2.2.2.1, below_cell hb h.2.2.2.2.2.2.1, below_cell hb h.2.2.2.2.2.2.2.1, below_cell hb h.2.2.2.2.2.2.2.2.1, below_cell hb h.2.2.2.2.2.2.2.2.2.1, below_cell hb h.2.2.2.2.2.2.2.2.2.2.1, below_cell hb h.2.2.2.2.2.2.2.2.2.2.2.1, below_cell hb h.2.2.2.2.2.2.2.2.2.2.2.2.1, below_cell hb h.2.2.2.2.2.2.2.2.2.2.2.2.2.1, h.2.2.2.2.2.2.2.2.2.2.2.2.2.2.trans (hb.mono h.2.2.2.2.2.2.2.2.2.2.2.2.2.2.size)⟩
theorem kp16 {w W W' : World} {p0 p1 p2 p3 p4 p5 p6 p7 p8 p9 p10 p11 p12 p13 p14 p15 : Addr} {v0 v1 v2 v3 v4 v5 v6 v7 v8 v9 v10 v11 v12 v13 v14 v15 : Value} (hb : Below W.heap.size W W') (h : W.cell? p0 = some v0 ∧ W.cell? p1 = some v1 ∧ W.cell? p2 = some v2 ∧ W.cell? p3 = some v3 ∧ W.cell? p4 = some v4 ∧ W.cell? p5 = some v5 ∧ W.cell? p6 = some v6 ∧ W.cell? p7 = some v7 ∧ W.cell? p8 = some v8 ∧ W.cell? p9 = some v9 ∧ W.cell? p10 = some v10 ∧ W.cell? p11 = some v11 ∧ W.cell? p12 = some v12 ∧ W.cell? p13 = some v13 ∧ W.cell? p14 = some v14 ∧ W.cell? p15 = some v15 ∧ Below w.heap.size w W) : W'.cell? p0 = some v0 ∧ W'.cell? p1 = some v1 ∧ W'.cell? p2 = some v2 ∧ W'.cell? p3 = some v3 ∧ W'.cell? p4 = some v4 ∧ W'.cell? p5 = some v5 ∧ W'.cell? p6 = some v6 ∧ W'.cell? p7 = some v7 ∧ W'.cell? p8 = some v8 ∧ W'.cell? p9 = some v9 ∧ W'.cell? p10 = some v10 ∧ W'.cell? p11 = some v11 ∧ W'.cell? p12 = some v12 ∧ W'.cell? p13 = some v13 ∧ W'.cell? p14 = some v14 ∧ W'.cell? p15 = some v15 ∧ Below w.heap.size w W' :=
  ⟨below_cell hb h.1, below_cell hb h.2.1, below_cell hb h.2.2.1, below_cell hb h.2.2.2.1, below_cell hb h.2.2.2.2.1, below_cell hb h.2.2.2.2.2.1, below_cell hb h.2.2.2.2.2.2.1, below_cell hb h.2.2.2.2.2.2.2.1, below_cell hb h.2.2.2.2.2.2.2.2.1, below_cell hb h.2.2.2.2.2.2.2.2.2.1, below_cell hb h.2.2.2.2.2.2.2.2.2.2.1, below_cell hb h.2.2.2.2.2.2.2.2.2.2.2.1, below_cell hb h.2.2.2.2.2.2.2.2.2.2.2.2.1, below_cell hb h.2.2.2.2.2.2.2.2.2.2.2.2.2.1, below_cell hb h.2.2.2.2.2.2.2.2.2.2.2.2.2.2.1, below_cell hb h.2.2.2.2.2.2.2.2.2.2.2.2.2.2.2.1, h.2.2.2.2.2.2.2.2.2.2.2.2.2.2.2.2.trans (hb.mono h.2.2.2.2.2.2.2.2.2.2.2.2.2.2.2.2.size)⟩
theorem kp18 {w W W' : World} {p0 p1 p2 p3 p4 p5 p6 p7 p8 p9 p10 p11 p12 p13 p14 p15 p16 p17 : Addr} {v0 v1 v2 v3 v4 v5 v6 v7 v8 v9 v10 v11 v12 v13 v14 v15 v16 v17 : Value} (hb : Below W.heap.size W W') (h : W.cell? p0 = some v0 ∧ W.cell? p1 = some v1 ∧ W.cell? p2 = some v2 ∧ W.cell? p3 = some v3 ∧ W.cell? p4 = some v4 ∧ W.cell? p5 = some v5 ∧ W.cell? p6 = some v6 ∧ W.cell? p7 = some v7 ∧ W.cell? p8 = some v8 ∧ W.cell? p9 = some v9 ∧ W.cell? p10 = some v10 ∧ W.cell? p11 = some v11 ∧ W.cell? p12 = some v12 ∧ W.cell? p13 = some v13 ∧ W.cell? p14 = some v14 ∧ W.cell? p15 = some v15 ∧ W.cell? p16 = some v16 ∧ W.cell? p17 = some v17 ∧ Below w.heap.size w W) : W'.cell? p0 = some v0 ∧ W'.cell? p1 = some v1 ∧ W'.cell? p2 = some v2 ∧ W'.cell? p3 = some v3 ∧ W'.cell? p4 = some v4 ∧ W'.cell? p5 = some v5 ∧ W'.cell? p6 = some v6 ∧ W'.cell? p7 = some v7 ∧ W'.cell? p8 = some v8 ∧ W'.cell? p9 = some v9 ∧ W'.cell? p10 = some v10 ∧ W'.cell? p11 = some v11 ∧ W'.cell? p12 = some v12 ∧ W'.cell? p13 = some v13 ∧ W'.cell? p14 = some v14 ∧ W'.cell? p15 = some v15 ∧ W'.cell? p16 = some v16 ∧ W'.cell? p17 = some v17 ∧ Below w.heap.size w W' :=
  ⟨below_cell hb h.1, below_cell hb h.2.1, below_cell hb h.2.2.1, below_cell hb h.2.2.2.1, below_cell hb h.2.2.2.2.1, below_cell hb h.2.2.2.2.2.1, below_cell hb h.2.2.2.2.2.2.1, below_cell hb h.2.2.2.2.2.2.2.1, below_cell hb h.2.2.2.2.2.2.2.2.1, below_cell hb h.2.2.2.2.2.2.2.2.2.1, below_cell hb h.2.2.2.2.2.2.2.2.2.2.1, below_cell hb h.2.2.2.2.2.2.2.2.2.2.2.1, below_cell hb h.2.2.2.2.2.2.2.2.2.2.2.2.1, below_cell hb h.2.2.2.2.2.2.2.2.2.2.2.2.2.1, below_cell hb h.2.2.2.2.2.2.2.2.2.2.2.2.2.2.1, below_cell hb h.2.2.2.2.2.2.2.2.2.2.2.2.2.2.2.1, below_cell hb h.2.2.2.2.2.2.2.2.2.2.2.2.2.2.2.2.1, below_cell hb h.2.2.2.2.2.2.2.2.2.2.2.2.2.2.2.2.2.1, h.2.2.2.2.2.2.2.2.2.2.2.2.2.2.2.2.2.2.trans (hb.mono h.2.2.2.2.2.2.2.2.2.2.2.2.2.2.2.2.2.2.size)⟩

/-- a new slice, behind the store of a result -/
theorem New.ret {w W w3 : World} {a : Option Addr} {Z n c : Nat} (h : New W w3 a Z n) (hB : Below w.heap.size w W) (hc : w.heap.size ≤ c) (hcW : c < W.heap.size) (u v : Value) :
    New w ((w3.setCell ⟨c, 0, none⟩ u).setCell ⟨c, 1, none⟩ v) a Z n := by
  have hk : Wr c 0 2 w3 ((w3.setCell ⟨c, 0, none⟩ u).setCell ⟨c, 1, none⟩ v) := ((Wr.refl _ _ _ _).setCell 0 (by omega) (by omega) u).setCell 1 (by omega) (by omega) v
  refine ⟨?_, (hB.trans (h.below.mono hB.size)).trans (hk.below hc (Nat.le_trans hB.size h.below.size)), fun hn => ?_⟩
  · by_cases hn : 0 < n
    · obtain ⟨b, off, rfl, hb, hr⟩ := h.fresh hn
      refine h.seg.wr hk fun o e => ?_
      simp only [Option.some.injEq, Addr.mk.injEq] at e
      omega
    · exact ⟨h.seg.1, fun h => absurd h hn⟩
  · obtain ⟨b, off, e, hb, hr⟩ := h.fresh hn
    exact ⟨b, off, e, Nat.le_trans hB.size hb, (hr.setCell _ _).setCell _ _⟩
/-- a store into a result alone -/
theorem below_ret {w W w3 : World} {c : Nat} (h : Below W.heap.size W w3) (hB : Below w.heap.size w W) (hc : w.heap.size ≤ c) (u v : Value) : Below w.heap.size w ((w3.setCell ⟨c, 0, none⟩ u).setCell ⟨c, 1, none⟩ v) :=
  ((hB.trans (h.mono hB.size)).setCell hc _).setCell hc _
theorem xr1 (s : Bool) : xr (fun _ => s) 1 = s := by simp [xr]
theorem xr2 (s t : Bool) : xr (fun i => if i = 0 then s else t) 2 = (s != t) := by simp [xr]
/-- the answer's own number -/
theorem NewI {w w' : World} {s : Bool} {a : Option Addr} {X : Nat} {Z : Int} (h : New w w' a X (ln X)) (hz : sg s X = Z) : New w w' a (am Z) (ln (am Z)) := by
  subst hz; rw [am_sg]; exact h
theorem res_eq {s : Bool} {a : Option Addr} {X : Nat} {Z : Int} (hz : sg s X = Z) : Ending.returned (.agg #[.bool (s && decide (0 < ln X)), .slice a (ln X) (ln X)]) = .returned (.agg #[.bool (ng Z), .slice a (ln (am Z)) (ln (am Z))]) := by
  subst hz; rw [am_sg, ng_sg]
/-- the cells of a row of signs -/
theorem signs1 (w : World) (s : Bool) (t : TypeId) : 0 < 1 → ∃ b off, (some ⟨w.heap.size, 0, none⟩ : Option Addr) = some ⟨b, off, none⟩ ∧ b < (w.alloc (.cells #[.int .i64 (sd s)] t)).heap.size ∧ ∀ i, i < 1 → (w.alloc (.cells #[.int .i64 (sd s)] t)).cell? ⟨b, off + i, none⟩ = some (.int .i64 (sd ((fun _ => s) i))) :=
  fun _ => ⟨_, 0, rfl, by rw [World.size_alloc]; omega, fun i hi => by obtain rfl : i = 0 := (by omega); go_simp⟩
theorem signs2 (w : World) (s s' : Bool) (t : TypeId) : 0 < 2 → ∃ b off, (some ⟨w.heap.size, 0, none⟩ : Option Addr) = some ⟨b, off, none⟩ ∧ b < (w.alloc (.cells #[.int .i64 (sd s), .int .i64 (sd s')] t)).heap.size ∧ ∀ i, i < 2 → (w.alloc (.cells #[.int .i64 (sd s), .int .i64 (sd s')] t)).cell? ⟨b, off + i, none⟩ = some (.int .i64 (sd ((fun i => if i = 0 then s else s') i))) :=
  fun _ => ⟨_, 0, rfl, by rw [World.size_alloc]; omega, fun i hi => by
    by_cases h : i = 0
    · subst h; go_simp
    · obtain rfl : i = 1 := (by omega)
      go_simp⟩





theorem bl_beq {X : Nat} : (((bl X : Nat) : Int) == 0) = decide (X = 0) := by
  by_cases h : X = 0
  · subst h; rw [bl_zero]; rfl
  · have := bl_pos h
    rw [decide_eq_false h]
    rw [beq_eq_false_iff_ne]; omega
end Go.Proofs.Ytechjealbccpbaa
