/-
  The reference's sums, products and order; layer 2's order.
-/
import Derived.Test.YtjbeagbkjmaeeaaGreatDoorWI1
import Derived.Test.YtjbeagbkjmaeeaaGreatDoorW8
import Derived.Test.YtjbeagbkjmaeeaaGreatDoorWI2
import Derived.Test.YtjbeagbkjmaeeaaGreatDoorW13
namespace Go.Proofs.YtjbeagbkjmaeeaaGreatDoor
open Go.RowKit
set_option linter.unusedVariables false

end Go.Proofs.YtjbeagbkjmaeeaaGreatDoor

namespace Go.Proofs.YtjbeagbkjmaeeaaGreatDoor
open Go.RowKit
set_option linter.unusedVariables false

set_option maxHeartbeats 1000000 in
theorem vSign_is (s : Bool) (ao : Option Addr) (n cap X : Nat) (Z : Int) (w : World) (hm : n ≤ 70368744177664) (hS : Seg w ao X n) (hZ : sg s X = Z) :
    Calls Tryz.prog 65 #[.agg #[.bool s, .slice ao n cap]] w fun e w' => e = .returned (.int .i64 (sgn Z)) ∧ Below w.heap.size w w' := by
  have hB := below_alloc (w := w) (.cells #[.bool s, .slice ao n cap] 25)
  have hpos : Z ≠ 0 → 0 < ln (am Z) := fun h => Nat.pos_of_ne_zero fun e => h (am_eq_zero.1 (ln_eq_zero.1 e))
  have hlz : ln (am Z) ≤ 70368744177664 := by rw [← hZ, am_sg]; have := ln_le_of_lt hS.1; omega
  rcases Int.lt_trichotomy Z 0 with h | h | h
  · have hg : ng Z = true := ng_true.2 h
    have hs := sgn_neg h
    clear h
    go_enter Tryz.func65, Tryz.ntmps65
    go_wp2_with fail
    refine (vNorm_is s ao n cap X Z _ hm (hS.below hB (Nat.le_refl _)) hZ).mono ?_
    rintro e w1 ⟨a1, rfl, hn⟩
    have hB1 := hB.trans (hn.below.mono hB.size)
    have hB2 := hB1.alloc hB1.size (.cells #[.bool (ng Z), .slice a1 (ln (am Z)) (ln (am Z))] 25)
    rw [hg] at hB2
    go_wp2
    go_ret
    exact ⟨by rw [hs]; rfl, hB2⟩
  · have hg : ng Z = false := by rw [h]; rfl
    have hs : sgn Z = 0 := by rw [h]; rfl
    have hl : ln (am Z) = 0 := by rw [h]; exact ln_zero
    clear h
    go_enter Tryz.func65, Tryz.ntmps65
    go_wp2_with fail
    refine (vNorm_is s ao n cap X Z _ hm (hS.below hB (Nat.le_refl _)) hZ).mono ?_
    rintro e w1 ⟨a1, rfl, hn⟩
    have hB1 := hB.trans (hn.below.mono hB.size)
    have hB2 := hB1.alloc hB1.size (.cells #[.bool (ng Z), .slice a1 (ln (am Z)) (ln (am Z))] 25)
    rw [hg, hl] at hB2
    go_wp2
    go_ret
    exact ⟨by rw [hs]; rfl, hB2⟩
  · have hg : ng Z = false := ng_false.2 (by omega)
    have hs := sgn_pos h
    have hl := hpos (by omega)
    clear h
    go_enter Tryz.func65, Tryz.ntmps65
    go_wp2_with fail
    refine (vNorm_is s ao n cap X Z _ hm (hS.below hB (Nat.le_refl _)) hZ).mono ?_
    rintro e w1 ⟨a1, rfl, hn⟩
    have hB1 := hB.trans (hn.below.mono hB.size)
    have hB2 := hB1.alloc hB1.size (.cells #[.bool (ng Z), .slice a1 (ln (am Z)) (ln (am Z))] 25)
    rw [hg] at hB2
    go_wp2
    go_ret
    exact ⟨by rw [hs]; rfl, hB2⟩




end Go.Proofs.YtjbeagbkjmaeeaaGreatDoor
