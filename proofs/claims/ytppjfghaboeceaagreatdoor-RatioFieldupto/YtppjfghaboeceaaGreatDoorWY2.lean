/-
  A block of three cells that is stored into: what stays.
-/
import Derived.Test.YtppjfghaboeceaaGreatDoorWY1
namespace Go.Proofs.YtppjfghaboeceaaGreatDoor
open Go.RowKit
set_option linter.unusedVariables false
set_option linter.unusedSimpArgs false

/-- the world with three cells of a block stored -/
def st3 (w : World) (c : Nat) (u0 u1 u2 : Value) : World := ((w.setCell ⟨c, 0, none⟩ u0).setCell ⟨c, 1, none⟩ u1).setCell ⟨c, 2, none⟩ u2
theorem set_farY {w : World} {c o b q : Nat} {u x : Value} (h : w.cell? ⟨b, q, none⟩ = some x) (hne : c ≠ b) : (w.setCell ⟨c, o, none⟩ u).cell? ⟨b, q, none⟩ = some x := by
  rw [World.cell?_setCell_far _ _ _ _ (by exact hne)]; exact h
theorem set_byY {w : World} {c o q : Nat} {u x : Value} (h : w.cell? ⟨c, q, none⟩ = some x) (hne : o ≠ q) : (w.setCell ⟨c, o, none⟩ u).cell? ⟨c, q, none⟩ = some x := by
  rw [World.cell?_setCell_other]
  · exact h
  · intro e; exact hne (by injection e)
theorem set_atY {w : World} {c o : Nat} {u x : Value} (h : w.cell? ⟨c, o, none⟩ = some x) : (w.setCell ⟨c, o, none⟩ u).cell? ⟨c, o, none⟩ = some u := World.cell?_setCell_same _ _ _ h
theorem st3_far {w : World} {c b q : Nat} {u0 u1 u2 x : Value} (h : w.cell? ⟨b, q, none⟩ = some x) (hne : c ≠ b) : (st3 w c u0 u1 u2).cell? ⟨b, q, none⟩ = some x := set_farY (set_farY (set_farY h hne) hne) hne
theorem st3_at {w : World} {c : Nat} {x0 x1 x2 u0 u1 u2 : Value} (h0 : w.cell? ⟨c, 0, none⟩ = some x0) (h1 : w.cell? ⟨c, 1, none⟩ = some x1) (h2 : w.cell? ⟨c, 2, none⟩ = some x2) :
    (st3 w c u0 u1 u2).cell? ⟨c, 0, none⟩ = some u0 ∧ (st3 w c u0 u1 u2).cell? ⟨c, 1, none⟩ = some u1 ∧ (st3 w c u0 u1 u2).cell? ⟨c, 2, none⟩ = some u2 :=
  ⟨set_byY (set_byY (set_atY h0) (by omega)) (by omega), set_byY (set_atY (set_byY h1 (by omega))) (by omega), set_atY (set_byY (set_byY h2 (by omega)) (by omega))⟩
theorem st3_bel {w w' : World} {B c : Nat} {u0 u1 u2 : Value} (h : Below B w w') (hc : B ≤ c) : Below B w (st3 w' c u0 u1 u2) := ((h.setCell hc _).setCell hc _).setCell hc _
theorem st3_seg {w : World} {c : Nat} {u0 u1 u2 : Value} {p : Option Addr} {X n : Nat} (h : Seg w p X n) (h0 : w.cell? ⟨c, 0, none⟩ = some (.bool false)) (h1 : w.cell? ⟨c, 1, none⟩ = some (.slice none 0 0)) (h2 : w.cell? ⟨c, 2, none⟩ = some (.slice none 0 0)) : Seg (st3 w c u0 u1 u2) p X n :=
  ((h.setB h0 (fun _ _ e => by cases e)).setB (set_byY h1 (by omega)) (fun _ _ e => by cases e)).setB (set_byY (set_byY h2 (by omega)) (by omega)) (fun _ _ e => by cases e)
theorem st3_ok {w : World} {c : Nat} {u0 u1 u2 : Value} {q : RatV} (h : q.ok w) (h0 : w.cell? ⟨c, 0, none⟩ = some (.bool false)) (h1 : w.cell? ⟨c, 1, none⟩ = some (.slice none 0 0)) (h2 : w.cell? ⟨c, 2, none⟩ = some (.slice none 0 0)) : q.ok (st3 w c u0 u1 u2) :=
  ⟨st3_seg h.1 h0 h1 h2, h.2.1, h.2.2.1, st3_seg h.2.2.2.1 h0 h1 h2, h.2.2.2.2.1, h.2.2.2.2.2⟩
end Go.Proofs.YtppjfghaboeceaaGreatDoor
