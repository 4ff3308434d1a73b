/-
  Layer 2: two normal numbers that are not the same; what is too long for a text.
-/
import Derived.Test.YtancpkegjgmlmaaDoorWI2
namespace Go.Proofs.YtancpkegjgmlmaaDoor
open Go.RowKit
set_option linter.unusedVariables false

set_option maxHeartbeats 1000000 in
theorem SameInt_ne (Z V : Int) (h : Z ≠ V) (ao ao2 : Option Addr) (cap cap2 : Nat) (w : World) (hm : ln (am Z) ≤ 70368744177664) (hm2 : ln (am V) ≤ 70368744177664) (hS : Seg w ao (am Z) (ln (am Z))) (hS2 : Seg w ao2 (am V) (ln (am V))) :
    Calls Tryd.prog 21 #[.agg #[.bool (ng Z), .slice ao (ln (am Z)) cap], .agg #[.bool (ng V), .slice ao2 (ln (am V)) cap2]] w fun e w' => e = .returned (.bool false) ∧ Below w.heap.size w w' := by
  have hB : Below w.heap.size w ((w.alloc (.cells #[.bool (ng Z), .slice ao (ln (am Z)) cap] 25)).alloc (.cells #[.bool (ng V), .slice ao2 (ln (am V)) cap2] 25)) := ((Below.refl _ _).alloc (Nat.le_refl _) _).alloc (by rw [World.size_alloc]; omega) _
  by_cases e : ng Z = ng V
  · have hbb : (ng Z == ng V) = true := by rw [e]; simp
    have hs : sameB (ln (am Z)) (ln (am V)) (am Z) (am V) = false := by
      unfold sameB
      rw [decide_eq_false]
      rintro ⟨_, h2⟩
      apply h
      rw [← sg_na Z, ← sg_na V, e, h2]
    clear e h
    go_enter Tryd.func21, Tryd.ntmps21
    go_wp2_with fail
    refine (SameNat_any ao ao2 _ _ (am Z) _ _ (am V) _ hm hm2 (hS.below hB (Nat.le_refl _)) (hS2.below hB (Nat.le_refl _))).mono ?_
    rintro e w1 ⟨rfl, hd⟩
    go_wp2
    go_ret
    exact ⟨rfl, hB.trans (hd.below _)⟩
  · have hbb : (ng Z == ng V) = false := by rw [beq_eq_false_iff_ne]; exact e
    go_enter Tryd.func21, Tryd.ntmps21
    go_wp2
    go_ret
    exact ⟨rfl, hB⟩

set_option maxHeartbeats 1000000 in
theorem sameI_ne (Z V : Int) (h : Z ≠ V) (ao ao2 : Option Addr) (cap cap2 : Nat) (w : World) (hm : ln (am Z) ≤ 70368744177664) (hm2 : ln (am V) ≤ 70368744177664) (hS : Seg w ao (am Z) (ln (am Z))) (hS2 : Seg w ao2 (am V) (ln (am V))) :
    Calls Tryd.prog 9 #[.agg #[.bool (ng Z), .slice ao (ln (am Z)) cap], .agg #[.bool (ng V), .slice ao2 (ln (am V)) cap2]] w fun e w' => e = .returned (.bool false) ∧ Below w.heap.size w w' := by
  have hB : Below w.heap.size w ((w.alloc (.cells #[.bool (ng Z), .slice ao (ln (am Z)) cap] 25)).alloc (.cells #[.bool (ng V), .slice ao2 (ln (am V)) cap2] 25)) := ((Below.refl _ _).alloc (Nat.le_refl _) _).alloc (by rw [World.size_alloc]; omega) _
  go_enter Tryd.func9, Tryd.ntmps9
  go_wp2_with fail
  refine (SameInt_ne Z V h ao ao2 _ _ _ hm hm2 (hS.below hB (Nat.le_refl _)) (hS2.below hB (Nat.le_refl _))).mono ?_
  rintro e w1 ⟨rfl, hd⟩
  go_wp2
  go_ret
  exact ⟨rfl, hB.trans (hd.mono hB.size)⟩

set_option maxHeartbeats 1000000 in
theorem endless_is (s : Bool) (a : Option Addr) (n cap : Nat) (w : World) (hm : n ≤ 70368744177664) :
    Calls Tryd.prog 6 #[.agg #[.bool s, .slice a n cap]] w fun e w' => e = .returned (.bool (decide (223000000 < n))) ∧ Below w.heap.size w w' := by
  have e : decide ((223000000 : Int) < (n : Int)) = decide (223000000 < n) := decide_eq_decide.2 (by omega)
  go_enter Tryd.func6, Tryd.ntmps6
  go_wp2
  go_ret
  exact ⟨by first | rfl | simp [e], below_alloc _⟩
end Go.Proofs.YtancpkegjgmlmaaDoor
