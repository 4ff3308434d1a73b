/-
  clauses: byAtom, hasBoth; the law's same; the reference's Has, ahead.
-/
import Derived.Test.YtnjidhoceacenaaCLN
import Derived.Test.YtnjidhoceacenaaCL2
import Derived.Deep.RegionHeld3
namespace Go.Proofs.Ytnjidhoceacenaa
open Go.RowKit
set_option linter.unusedVariables false
set_option linter.unusedSimpArgs false
set_option maxHeartbeats 2000000 in
set_option maxRecDepth 100000 in
theorem compare_is (x y : Int) (w : World) :
    Calls Try.prog 43 #[.int .i64 x, .int .i64 y] w fun e w' => e = .returned (.int .i64 (if x < y then -1 else if y < x then 1 else 0)) ∧ w' = w := by
  go_enter Try.func43, Try.ntmps43
  by_cases h1 : x < y
  · go_wp2; go_ret; exact ⟨by simp [h1], rfl⟩
  by_cases h2 : y < x
  · have h3 : x > y := h2
    go_wp2; go_ret; exact ⟨by simp [h1, h2], rfl⟩
  have h3 : ¬ x > y := h2
  go_wp2
  go_ret
  exact ⟨by simp [h1, h2], rfl⟩
set_option maxHeartbeats 2000000 in
set_option maxRecDepth 100000 in
theorem or_is (x y : Int) (b : Nat) (w : World) (h0 : w.cell? ⟨b, 0, none⟩ = some (.int .i64 x)) (h1 : w.cell? ⟨b, 1, none⟩ = some (.int .i64 y)) :
    Calls Try.prog 42 #[.slice (some ⟨b, 0, none⟩) 2 2] w fun e w' => e = .returned (.int .i64 (if x = 0 then y else x)) ∧ w' = w := by
  go_enter Try.func42, Try.ntmps42
  go_wp2
  refine wp_loop_rounds 3 ?_
  rw [rounds_succ]
  by_cases hx : x = 0
  · subst hx
    go_wp2
    rw [rounds_succ]
    by_cases hy : y = 0
    · subst hy
      go_wp2
      rw [rounds_succ]
      go_wp2
      go_ret
      exact ⟨rfl, rfl⟩
    · go_wp2
      go_ret
      exact ⟨rfl, rfl⟩
  · go_wp2
    go_ret
    exact ⟨by simp [hx], rfl⟩
set_option maxHeartbeats 2000000 in
set_option maxRecDepth 100000 in
theorem byAtom_is (x y : Int) (hx : -9223372036854775808 < x ∧ x ≤ 9223372036854775807) (hy : -9223372036854775808 < y ∧ y ≤ 9223372036854775807) (w : World) :
    Calls Try.prog 28 #[.int .i64 x, .int .i64 y] w fun e w' => e = .returned (.int .i64 (cfL x y)) ∧ ∃ o, w' = w.alloc o := by
  have G1 := hide' (fun w' => atomOf_is x hx.1 hx.2 w')
  have G2 := hide' (fun w' => atomOf_is y hy.1 hy.2 w')
  have E := hide' (show cfL x y = (if (if atm x < atm y then (-1 : Int) else if atm y < atm x then 1 else 0) = 0 then (if y < x then -1 else if x < y then 1 else 0) else (if atm x < atm y then (-1 : Int) else if atm y < atm x then 1 else 0)) from by unfold cfL; repeat' split; all_goals (first | rfl | omega))
  have G3 := hide' (fun w' => compare_is (atm x) (atm y) w')
  have G4 := hide' (fun w' => compare_is y x w')
  generalize (if atm x < atm y then (-1 : Int) else if atm y < atm x then 1 else 0) = c1 at G3 E
  generalize (if y < x then (-1 : Int) else if x < y then 1 else 0) = c2 at G4 E
  generalize cfL x y = r at E ⊢
  obtain rfl := E.out
  clear E
  have G5 := hide' (fun b w' h0 h1 => or_is c1 c2 b w' h0 h1)
  generalize (if c1 = 0 then c2 else c1) = r at G5 ⊢
  generalize atm x = ax at *
  generalize atm y = ay at *
  clear hx hy
  go_enter Try.func28, Try.ntmps28
  go_wp2_with fail
  refine (G1.out _).mono ?_
  rintro e w9 ⟨rfl, rfl⟩
  go_wp2_with fail
  refine (G2.out _).mono ?_
  rintro e w9 ⟨rfl, rfl⟩
  go_wp2_with fail
  refine (G3.out _).mono ?_
  rintro e w9 ⟨rfl, rfl⟩
  go_wp2_with fail
  refine (G4.out _).mono ?_
  rintro e w9 ⟨rfl, rfl⟩
  go_wp2_with fail
  refine (G5.out _ _ (by go_simp) (by go_simp)).mono ?_
  rintro e w9 ⟨rfl, rfl⟩
  go_wp2
  go_ret
  exact ⟨rfl, _, rfl⟩
end Go.Proofs.Ytnjidhoceacenaa
