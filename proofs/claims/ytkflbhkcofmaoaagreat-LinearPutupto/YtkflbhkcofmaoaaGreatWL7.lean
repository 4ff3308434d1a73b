/-
  Layer 6: the program's Value.
-/
import Derived.Test.YtkflbhkcofmaoaaGreatWL6
import Derived.Test.YtkflbhkcofmaoaaGreatWQB
namespace Go.Proofs.YtkflbhkcofmaoaaGreat
open Go.RowKit
set_option linter.unusedVariables false

theorem lden_prods_pos (v : Nat → Int) (f g : Nat → RatV) (m : Nat) : ∀ k, 0 < lden (prods v f g m k)
  | 0 => Nat.one_pos
  | k + 1 => by
    simp only [prods]
    rw [lden_append]
    refine Nat.mul_pos (lden_prods_pos v f g m k) ?_
    split
    · exact Nat.mul_pos (Nat.mul_pos (rd_pos _) (rd_pos _)) Nat.one_pos
    · exact Nat.one_pos

theorem Seg.setR {w : World} {p : Option Addr} {X n c : Nat} {u0 u1 u2 : Value} {z0 : Bool} {a1 a2 : Option Addr} {n1 k1 n2 k2 : Nat} (h : Seg w p X n) (h0 : w.cell? ⟨c, 0, none⟩ = some (.bool z0)) (h1 : w.cell? ⟨c, 1, none⟩ = some (.slice a1 n1 k1)) (h2 : w.cell? ⟨c, 2, none⟩ = some (.slice a2 n2 k2)) :
    Seg (((w.setCell ⟨c, 0, none⟩ u0).setCell ⟨c, 1, none⟩ u1).setCell ⟨c, 2, none⟩ u2) p X n := by
  refine (h.set2 h0 h1).setB (z := .slice a2 n2 k2) ?_ (by simp)
  rw [World.cell?_setCell_other _ _ _ _ (fun e => by simp at e), World.cell?_setCell_other _ _ _ _ (fun e => by simp at e)]
  exact h2
theorem PrInv.below {w : World} {v : Nat → Int} {f g : Nat → RatV} {m N k : Nat} {vo : Value} {wr : World} (h : PrInv w v f g m N k vo wr) : Below w.heap.size w wr := by
  obtain ⟨j, q, hj, hO, hB, hE, hq⟩ := h
  exact hB
theorem PrInv.slice {w : World} {v : Nat → Int} {f g : Nat → RatV} {m N k : Nat} {vo : Value} {wr : World} (h : PrInv w v f g m N k vo wr) : ∃ a j cap, vo = .slice a j cap := by
  obtain ⟨j, q, hj, hO, hB, hE, hq⟩ := h
  obtain ⟨a, cap, e, _⟩ := own_rats hO
  exact ⟨a, j, cap, e⟩
theorem PrInv.open {w : World} {v : Nat → Int} {f g : Nat → RatV} {m N k : Nat} {a : Option Addr} {j cap : Nat} {wr : World} (h : PrInv w v f g m N k (.slice a j cap) wr) : ∃ q : Nat → RatV, j ≤ k ∧ j ≤ cap ∧ cap ≤ 9223372036854775807 ∧ RatsAt wr a j q ∧ (∀ i, i < j → (q i).ok wr ∧ (q i).low ∧ (q i).n + (q i).m + 1 ≤ N) ∧ Eqv (lq q j) (prods v f g m k) := by
  obtain ⟨j', q, hj, hO, hB, hE, hq⟩ := h
  obtain ⟨a', cap', e, h1, h2, h3⟩ := own_rats hO
  simp only [Value.slice.injEq] at e
  obtain ⟨rfl, rfl, rfl⟩ := e
  exact ⟨q, hj, h1, by simpa [maxLen] using h2, h3, fun i hi => ⟨(hq i hi).1, (hq i hi).2.1, (hq i hi).2.2.1⟩, hE.1⟩

theorem PrInv.openR {w : World} {v : Nat → Int} {f g : Nat → RatV} {m N k : Nat} {a : Option Addr} {j cap : Nat} {wr : World} (h : PrInv w v f g m N k (.slice a j cap) wr) : ∃ q : Nat → RatV, j ≤ k ∧ j ≤ cap ∧ cap ≤ 9223372036854775807 ∧ RatsAt wr a j q ∧ (∀ i, i < j → (q i).ok wr ∧ (q i).low ∧ (q i).n + (q i).m + 1 ≤ N) ∧ lv q j = prl v f g m k := by
  obtain ⟨j', q, hj, hO, hB, hE, hq⟩ := h
  obtain ⟨a', cap', e, h1, h2, h3⟩ := own_rats hO
  simp only [Value.slice.injEq] at e
  obtain ⟨rfl, rfl, rfl⟩ := e
  exact ⟨q, hj, h1, by simpa [maxLen] using h2, h3, fun i hi => ⟨(hq i hi).1, (hq i hi).2.1, (hq i hi).2.2.1⟩, hE.2⟩

end Go.Proofs.YtkflbhkcofmaoaaGreat
