import Derived.Test.YtebbehlfocpjhaaGreatWN1
import Derived.Test.YtebbehlfocpjhaaGreatWQE
import Derived.Test.YtebbehlfocpjhaaGreatWQ4
set_option linter.unusedSimpArgs false
namespace Go.Proofs.YtebbehlfocpjhaaGreat
open Go.RowKit
set_option linter.unusedVariables false
def ord (x y : Int) : Int := if x < y then -1 else if y < x then 1 else 0
set_option maxRecDepth 30000 in
theorem isNaN_is (x : Int) (w : World) : Calls Tryz.prog 91 #[.int .i64 x] w fun e w' => e = .returned (.bool false) ∧ w' = w := by
  go_enter Tryz.func91, Tryz.ntmps91
  go_wp2
  go_ret
  exact ⟨by simp, rfl⟩
set_option maxRecDepth 30000 in
set_option maxHeartbeats 1000000 in
theorem Compare_is (x y : Int) (w : World) : Calls Tryz.prog 78 #[.int .i64 x, .int .i64 y] w fun e w' => e = .returned (.int .i64 (ord x y)) ∧ w' = w := by
  have P1 := hide' (fun w' => isNaN_is x w')
  have P2 := hide' (fun w' => isNaN_is y w')
  unfold ord
  by_cases h1 : x < y
  · rw [if_pos h1]
    go_enter Tryz.func78, Tryz.ntmps78
    go_wp2_with fail
    refine (P1.out _).mono ?_
    rintro e w1 ⟨rfl, rfl⟩
    go_wp2_with fail
    refine (P2.out _).mono ?_
    rintro e w1 ⟨rfl, rfl⟩
    go_wp2
    go_ret
    exact ⟨rfl, rfl⟩
  · rw [if_neg h1]
    by_cases h2 : y < x
    · rw [if_pos h2]
      go_enter Tryz.func78, Tryz.ntmps78
      go_wp2_with fail
      refine (P1.out _).mono ?_
      rintro e w1 ⟨rfl, rfl⟩
      go_wp2_with fail
      refine (P2.out _).mono ?_
      rintro e w1 ⟨rfl, rfl⟩
      go_wp2
      go_ret
      exact ⟨rfl, rfl⟩
    · rw [if_neg h2]
      go_enter Tryz.func78, Tryz.ntmps78
      go_wp2_with fail
      refine (P1.out _).mono ?_
      rintro e w1 ⟨rfl, rfl⟩
      go_wp2_with fail
      refine (P2.out _).mono ?_
      rintro e w1 ⟨rfl, rfl⟩
      go_wp2
      go_ret
      exact ⟨rfl, rfl⟩
set_option maxRecDepth 30000 in
set_option maxHeartbeats 1000000 in
theorem byVar_is (x y : Int) (s : Bool) (a : Option Addr) (n c : Nat) (b : Option Addr) (m d : Nat) (s' : Bool) (a' : Option Addr) (n' c' : Nat) (b' : Option Addr) (m' d' : Nat) (w : World) :
    Calls Tryz.prog 61 #[.agg #[.int .i64 x, .bool s, .slice a n c, .slice b m d], .agg #[.int .i64 y, .bool s', .slice a' n' c', .slice b' m' d']] w fun e w' => e = .returned (.int .i64 (ord x y)) ∧ Below w.heap.size w w' := by
  have P1 := hide' (fun w' => Compare_is x y w')
  go_enter Tryz.func61, Tryz.ntmps61
  go_wp2_with fail
  refine (P1.out _).mono ?_
  rintro e w1 ⟨rfl, rfl⟩
  go_wp2
  go_ret
  exact ⟨rfl, ((Below.refl _ _).alloc (Nat.le_refl _) _).alloc (by simp only [World.size_alloc]; omega) _⟩
end Go.Proofs.YtebbehlfocpjhaaGreat
