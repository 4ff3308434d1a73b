/-
  The reference of layer 3: Sub, Cmp, Mul.
-/
import Derived.Test.YtbglcihfambibaaWQ7
namespace Go.Proofs.Ytbglcihfambibaa
open Go.RowKit
set_option linter.unusedVariables false

theorem Seg.set3 {w : World} {p : Option Addr} {X n c : Nat} {u0 u1 u2 : Value} {z0 : Bool} {a1 a2 : Option Addr} {n1 n2 k1 k2 : Nat} (h : Seg w p X n) (h0 : w.cell? ⟨c, 0, none⟩ = some (.bool z0)) (h1 : w.cell? ⟨c, 1, none⟩ = some (.slice a1 n1 k1)) (h2 : w.cell? ⟨c, 2, none⟩ = some (.slice a2 n2 k2)) :
    Seg (((w.setCell ⟨c, 0, none⟩ u0).setCell ⟨c, 1, none⟩ u1).setCell ⟨c, 2, none⟩ u2) p X n := by
  refine ((h.setB h0 (by simp)).setB (z := .slice a1 n1 k1) ?_ (by simp)).setB (z := .slice a2 n2 k2) ?_ (by simp)
  · rw [World.cell?_setCell_other _ _ _ _ (fun e => by simp at e)]; exact h1
  · rw [World.cell?_setCell_other _ _ _ _ (fun e => by simp at e), World.cell?_setCell_other _ _ _ _ (fun e => by simp at e)]; exact h2

end Go.Proofs.Ytbglcihfambibaa

namespace Go.Proofs.Ytbglcihfambibaa
open Go.RowKit
set_option linter.unusedVariables false

theorem lt_prod {a b : Int} {i j : Nat} (ha : am a < BB ^ i) (hb : am b < BB ^ j) : am (a * b) < BB ^ (i + j) := by
  rw [am_mul, Nat.pow_add]
  exact Nat.mul_lt_mul'' ha hb
theorem lt_sum {a b : Int} {i j k : Nat} (ha : am a < BB ^ i) (hb : am b < BB ^ j) (hi : i + 1 ≤ k) (hj : j + 1 ≤ k) : am (a + b) < BB ^ k :=
  Nat.lt_of_lt_of_le (Nat.lt_of_le_of_lt (am_add a b) (ln_lt (am a + am b))) (pow_mono (ln_sum ha hb hi hj))
theorem ln1 {A D Z : Int} {V i j k : Nat} (h : Low A D Z V) (hA : am A < BB ^ i) (hD : am D < BB ^ j) (hi : i ≤ k) (hj : j ≤ k) : ln (am Z) ≤ k ∧ ln V ≤ k :=
  ⟨Nat.le_trans (ln_le_of_lt (Nat.lt_of_le_of_lt h.le.1 hA)) hi, Nat.le_trans (ln_le_of_lt (Nat.lt_of_le_of_lt h.le.2 hD)) hj⟩


end Go.Proofs.Ytbglcihfambibaa
