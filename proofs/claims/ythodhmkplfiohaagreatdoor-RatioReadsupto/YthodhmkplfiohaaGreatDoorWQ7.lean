/-
  The reference of layer 3: Neg, Sign, Abs, Add.
-/
import Derived.Test.YthodhmkplfiohaaGreatDoorWQ2
import Derived.Deep.CutRange
import Derived.Test.YthodhmkplfiohaaGreatDoorWQ6
import Derived.Test.YthodhmkplfiohaaGreatDoorW13
namespace Go.Proofs.YthodhmkplfiohaaGreatDoor
open Go.RowKit
set_option linter.unusedVariables false

theorem New.seg2 {w1 w3 : World} {p : Option Addr} {Z n c : Nat} (h : New w1 w3 p Z n) (hc : c < w1.heap.size) (u v : Value) : Seg ((w3.setCell ⟨c, 0, none⟩ u).setCell ⟨c, 1, none⟩ v) p Z n :=
  (h.fre.mid (((Mid.refl 0 w1.heap.size w3).set c 0 (Nat.zero_le _) hc u).set c 1 (Nat.zero_le _) hc v)).seg

end Go.Proofs.YthodhmkplfiohaaGreatDoor

namespace Go.Proofs.YthodhmkplfiohaaGreatDoor
open Go.RowKit
set_option linter.unusedVariables false

theorem consT {P : Program} {ops : Array Oper} {Q : Exit → Act → World → Prop} {md : Region.Mode} {S : World → Prop} {n : Nat} {L : Array Bool} {a : Act} {w : World} {i : Nat} {rs : List Nat} {d : Option Tmp} {op : Op} {ty : TypeId} {pos : String} {af : Array Edge} {g : Option (Nat × Bool)}
    (ho : ops[i]? = some ⟨d, op, ty, pos, af, g⟩) (h : ∀ K' : Act → World → Prop, Shut (∀ a w, S w → (S w → wpAnyH P md ops Q S n (L.setIfInBounds i true) a w) → K' a w) → if Region.wanted ⟨d, op, ty, pos, af, g⟩ (yielded ops a.tmps) = true then Oper.wp P ⟨d, op, ty, pos, af, g⟩ a w K' Q else K' (a.put d undef) w)
    (h2 : AllReadyH P md ops Q S n L a w rs) : AllReadyH P md ops Q S n L a w (i :: rs) := AllReadyH.cons ho h h2
/-- a store into a cell that holds no number leaves the numbers -/
theorem Seg.setB {w : World} {p : Option Addr} {X n c o : Nat} {u z : Value} (h : Seg w p X n) (hc : w.cell? ⟨c, o, none⟩ = some z) (hz : ∀ k i, z ≠ .int k i) : Seg (w.setCell ⟨c, o, none⟩ u) p X n := by
  refine ⟨h.1, fun hn => ?_⟩
  obtain ⟨b, off, rfl, hb, hcell⟩ := h.2 hn
  refine ⟨b, off, rfl, by simpa [World.setCell] using hb, fun i hi => ?_⟩
  have h1 := hcell i hi
  rw [World.cell?_setCell_other _ _ _ _ (fun e => ?_)]
  · exact h1
  · rw [← e, hc] at h1
    simp only [Option.some.injEq] at h1
    exact hz _ _ h1
end Go.Proofs.YthodhmkplfiohaaGreatDoor

namespace Go.Proofs.YthodhmkplfiohaaGreatDoor
open Go.RowKit
set_option linter.unusedVariables false

theorem Low.neg {A D Z : Int} {V : Nat} (h : Low A D Z V) : Low (-A) D (-Z) V := ⟨h.ne, h.pos, by have := h.eq; rw [Int.neg_mul, Int.neg_mul, this], by rw [am_neg]; exact h.cop⟩

end Go.Proofs.YthodhmkplfiohaaGreatDoor
