/-
  Layer 6: the reference's zero; how long the sum of the products is.
-/
import Derived.Test.YtkflbhkcofmaoaaGreatWL6
import Derived.Test.YtkflbhkcofmaoaaGreatWQB
import Derived.Test.YtkflbhkcofmaoaaGreatWQE
namespace Go.Proofs.YtkflbhkcofmaoaaGreat
open Go.RowKit
set_option linter.unusedVariables false

theorem PrInv.below {w : World} {v : Nat → Int} {f g : Nat → RatV} {m N k : Nat} {vo : Value} {wr : World} (h : PrInv w v f g m N k vo wr) : Below w.heap.size w wr := by
  obtain ⟨j, q, hj, hO, hB, hE, hq⟩ := h
  exact hB
theorem PrInv.slice {w : World} {v : Nat → Int} {f g : Nat → RatV} {m N k : Nat} {vo : Value} {wr : World} (h : PrInv w v f g m N k vo wr) : ∃ a j cap, vo = .slice a j cap := by
  obtain ⟨j, q, hj, hO, hB, hE, hq⟩ := h
  obtain ⟨a, cap, e, _⟩ := own_rats hO
  exact ⟨a, j, cap, e⟩
theorem PrInv.open {w : World} {v : Nat → Int} {f g : Nat → RatV} {m N k : Nat} {a : Option Addr} {j cap : Nat} {wr : World} (h : PrInv w v f g m N k (.slice a j cap) wr) : ∃ q : Nat → RatV, j ≤ k ∧ j ≤ cap ∧ cap ≤ 9223372036854775807 ∧ RatsAt wr a j q ∧ (∀ i, i < j → (q i).ok wr ∧ (q i).low ∧ (q i).n + (q i).m + 1 ≤ N) ∧ Eqv (lq q j) (prods v f g m k) := by
  obtain ⟨j', q, hj, hO, hB, hE, hq⟩ := h
  obtain ⟨a', cap', e, h1, h2, h3⟩ := own_rats hO
  simp only [Value.slice.injEq] at e
  obtain ⟨rfl, rfl, rfl⟩ := e
  exact ⟨q, hj, h1, by simpa [maxLen] using h2, h3, fun i hi => ⟨(hq i hi).1, (hq i hi).2.1, (hq i hi).2.2.1⟩, hE.1⟩

end Go.Proofs.YtkflbhkcofmaoaaGreat

namespace Go.Proofs.YtkflbhkcofmaoaaGreat
open Go.RowKit
set_option linter.unusedVariables false

set_option maxHeartbeats 2000000 in
set_option maxRecDepth 100000 in
theorem vlzero_is (w : World) : Calls Tryz.prog 23 #[] w fun e w' => ∃ p q, e = .returned (.agg #[.bool false, .slice p 0 0, .slice q 1 1]) ∧ New w w' p 0 0 ∧ New w w' q 1 1 := by
  have G2' := fun w' => vqWhole_is 0 w' (by omega) (by omega)
  have z1 : ng 0 = false := rfl
  have z2 : ln (am 0) = 0 := ln_zero
  have z3 : am 0 = 0 := rfl
  rw [z1, z2, ln_one, z3] at G2'
  have G2 := hide' G2'
  clear G2' z1 z2 z3
  go_enter Tryz.func23, Tryz.ntmps23
  go_wp2_with fail
  obtain ⟨W, hW⟩ : ∃ W, (w.alloc (.cells #[.bool false, .slice none 0 0, .slice none 0 0] 31)) = W := ⟨_, rfl⟩
  have r00 : W.cell? ⟨w.heap.size, 0, none⟩ = some (.bool false) := by subst hW; go_simp
  have r01 : W.cell? ⟨w.heap.size, 1, none⟩ = some (.slice none 0 0) := by subst hW; go_simp
  have r02 : W.cell? ⟨w.heap.size, 2, none⟩ = some (.slice none 0 0) := by subst hW; go_simp
  have hB : Below w.heap.size w W := by subst hW; exact ((Below.refl _ _).alloc (by (try simp only [World.size_alloc]); omega) _)
  have hR0 : Row W (w.heap.size) := by
    have := row_new (w) #[.bool false, .slice none 0 0, .slice none 0 0] 31
    try simp only [World.size_alloc] at this
    subst hW; exact this
  have hz : W.heap.size = w.heap.size + 1 := by subst hW; simp only [World.size_alloc]
  rw [hW]
  clear hW
  have hBW : Below W.heap.size W W := Below.refl _ _
  refine (G2.out _).mono ?_
  rintro e w1 ⟨p1, q1, rfl, hp1, hq1⟩
  have b1 := hp1.below
  replace hp1 := hp1.back hBW
  replace hq1 := hq1.back hBW
  replace hBW := hBW.trans (b1.mono hBW.size)
  replace r00 := below_cell b1 r00
  replace r01 := below_cell b1 r01
  replace r02 := below_cell b1 r02
  replace hR0 := below_row b1 hR0
  have fz0 := fun o => hR0.frozen o
  go_wp2
  all_goals refine bodyPost_ret (v := Value.agg #[Value.bool false, Value.slice p1 0 0, Value.slice q1 1 1]) (by rw [results_cell rfl]; go_simp) rfl ?_
  all_goals exact ⟨p1, q1, rfl, hp1.mid hB (((((Mid.refl _ _ _).set _ _ (by omega) (by omega) _).set _ _ (by omega) (by omega) _).set _ _ (by omega) (by omega) _)), hq1.mid hB (((((Mid.refl _ _ _).set _ _ (by omega) (by omega) _).set _ _ (by omega) (by omega) _).set _ _ (by omega) (by omega) _))⟩

end Go.Proofs.YtkflbhkcofmaoaaGreat
