/-
  Layer 3: read, lowest, opposite, order, Cmp, Neg, Abs.
-/
import Derived.Test.YtapjaceahifihaaWQ0
import Derived.Test.YtapjaceahifihaaWI5
namespace Go.Proofs.Ytapjaceahifihaa
open Go.RowKit
set_option linter.unusedVariables false

theorem set3_far {w : World} {b c o : Nat} {u0 u1 u2 : Value} (hne : c ≠ b) : (((w.setCell ⟨c, 0, none⟩ u0).setCell ⟨c, 1, none⟩ u1).setCell ⟨c, 2, none⟩ u2).cell? ⟨b, o, none⟩ = w.cell? ⟨b, o, none⟩ := by
  rw [World.cell?_setCell_far _ _ _ _ (by exact hne), World.cell?_setCell_far _ _ _ _ (by exact hne), World.cell?_setCell_far _ _ _ _ (by exact hne)]
theorem set3_same {w : World} {c : Nat} {u0 u1 u2 z0 z1 z2 : Value} (h0 : w.cell? ⟨c, 0, none⟩ = some z0) (h1 : w.cell? ⟨c, 1, none⟩ = some z1) (h2 : w.cell? ⟨c, 2, none⟩ = some z2) : (((w.setCell ⟨c, 0, none⟩ u0).setCell ⟨c, 1, none⟩ u1).setCell ⟨c, 2, none⟩ u2).cell? ⟨c, 0, none⟩ = some u0 ∧ (((w.setCell ⟨c, 0, none⟩ u0).setCell ⟨c, 1, none⟩ u1).setCell ⟨c, 2, none⟩ u2).cell? ⟨c, 1, none⟩ = some u1 ∧ (((w.setCell ⟨c, 0, none⟩ u0).setCell ⟨c, 1, none⟩ u1).setCell ⟨c, 2, none⟩ u2).cell? ⟨c, 2, none⟩ = some u2 := by
  refine ⟨?_, ?_, ?_⟩
  · rw [World.cell?_setCell_other _ _ _ _ (fun e => by simp at e), World.cell?_setCell_other _ _ _ _ (fun e => by simp at e)]; exact World.cell?_setCell_same (u := z0) _ _ _ (by exact h0)
  · rw [World.cell?_setCell_other _ _ _ _ (fun e => by simp at e)]; exact World.cell?_setCell_same (u := z1) _ _ _ (by rw [World.cell?_setCell_other _ _ _ _ (fun e => by simp at e)]; exact h1)
  · exact World.cell?_setCell_same (u := z2) _ _ _ (by rw [World.cell?_setCell_other _ _ _ _ (fun e => by simp at e), World.cell?_setCell_other _ _ _ _ (fun e => by simp at e)]; exact h2)
theorem read_is (s : Bool) (ao : Option Addr) (n cap X : Nat) (ao2 : Option Addr) (m cap2 Y L : Nat) (w : World) (hc : n ≤ cap) (hm : n ≤ L) (hS : Seg w ao X n) (hc2 : m ≤ cap2) (hm2 : m ≤ L) (hS2 : Seg w ao2 Y m) (h1 : 1 ≤ L) (hL : L ≤ 70368744177664) :
    Calls Try.prog 17 #[.agg #[.bool s, .slice ao n cap, .slice ao2 m cap2]] w fun e w' => ∃ s' p n' c' X' q m' c2', e = .returned (.agg #[.bool s', .slice p n' c', .bool false, .slice q m' c2']) ∧ n' ≤ c' ∧ n' ≤ L ∧ m' ≤ c2' ∧ m' ≤ L ∧ Seg w' p X' n' ∧ Seg w' q (rd Y) m' ∧ sg s' X' = rn s X Y ∧ Below w.heap.size w w' := by
  by_cases hY : Y = 0
  · subst hY
    refine (read_z s ao n cap ao2 m cap2 w hc2 (by omega) hS2).mono ?_
    rintro e w' ⟨p, q, rfl, hp, hq⟩
    have h0 : ln (am 0) = 0 := ln_zero
    have h2 : ln (am 1) = 1 := by decide +kernel
    refine ⟨_, p, _, _, _, q, _, _, rfl, Nat.le_refl _, by rw [h0]; omega, Nat.le_refl _, by rw [h2]; omega, hp.seg, hq.seg, rfl, hp.below⟩
  · refine (read_nz s ao n cap ao2 m cap2 Y w hc2 (by omega) hS2 hY).mono ?_
    rintro e w' ⟨rfl, hb⟩
    exact ⟨s, ao, n, cap, X, ao2, m, cap2, rfl, hc, hm, hc2, hm2, hS.later hb, by rw [rd_of hY]; exact hS2.later hb, (rn_of hY).symm, hb⟩

end Go.Proofs.Ytapjaceahifihaa
