/-
  follow of every state that waits.
-/
import Derived.Test.YtibeiggedmabkaaDoorTS1
namespace Go.Proofs.YtibeiggedmabkaaDoor
open Go.RowKit
set_option linter.unusedVariables false
set_option linter.unusedSimpArgs false

set_option maxRecDepth 100000 in
set_option maxHeartbeats 4000000 in
theorem fol_3 (r : Nat) (w : World) : Calls Tryd.prog 45 #[.int .i64 3, .int .i32 r] w fun e w' => e = .returned (.int .i64 (folN 3 r : Nat)) ∧ Below w.heap.size w w' := by
  have hv : folN 3 r = startN r := by unfold folN; simp
  rw [hv]
  clear hv
  have H := fun w' => start_is r w'
  generalize startN r = v at H ⊢
  go_enter Tryd.func45, Tryd.ntmps45
  go_wp2_with fail
  refine (H _).mono ?_
  rintro e w1 ⟨rfl, b1⟩
  go_wp2
  go_ret
  exact ⟨rfl, b1⟩

set_option maxRecDepth 100000 in
set_option maxHeartbeats 4000000 in
theorem fol_8 (r : Nat) (w : World) : Calls Tryd.prog 45 #[.int .i64 8, .int .i32 r] w fun e w' => e = .returned (.int .i64 (folN 8 r : Nat)) ∧ Below w.heap.size w w' := by
  have hv : folN 8 r = quotN 8 r := by unfold folN; simp
  rw [hv]
  clear hv
  have H := fun w' => quot_8 r w'
  generalize quotN 8 r = v at H ⊢
  go_enter Tryd.func45, Tryd.ntmps45
  go_wp2_with fail
  refine (H _).mono ?_
  rintro e w1 ⟨rfl, b1⟩
  go_wp2
  go_ret
  exact ⟨rfl, b1⟩

set_option maxRecDepth 100000 in
set_option maxHeartbeats 4000000 in
theorem fol_21 (r : Nat) (w : World) : Calls Tryd.prog 45 #[.int .i64 21, .int .i32 r] w fun e w' => e = .returned (.int .i64 (folN 21 r : Nat)) ∧ Below w.heap.size w w' := by
  have hv : folN 21 r = quotN 21 r := by unfold folN; simp
  rw [hv]
  clear hv
  have H := fun w' => quot_21 r w'
  generalize quotN 21 r = v at H ⊢
  go_enter Tryd.func45, Tryd.ntmps45
  go_wp2_with fail
  refine (H _).mono ?_
  rintro e w1 ⟨rfl, b1⟩
  go_wp2
  go_ret
  exact ⟨rfl, b1⟩

set_option maxRecDepth 100000 in
set_option maxHeartbeats 4000000 in
theorem fol_22 (r : Nat) (w : World) : Calls Tryd.prog 45 #[.int .i64 22, .int .i32 r] w fun e w' => e = .returned (.int .i64 (folN 22 r : Nat)) ∧ Below w.heap.size w w' := by
  have hv : folN 22 r = quotN 22 r := by unfold folN; simp
  rw [hv]
  clear hv
  have H := fun w' => quot_22 r w'
  generalize quotN 22 r = v at H ⊢
  go_enter Tryd.func45, Tryd.ntmps45
  go_wp2_with fail
  refine (H _).mono ?_
  rintro e w1 ⟨rfl, b1⟩
  go_wp2
  go_ret
  exact ⟨rfl, b1⟩

set_option maxRecDepth 100000 in
set_option maxHeartbeats 4000000 in
theorem fol_12 (r : Nat) (w : World) : Calls Tryd.prog 45 #[.int .i64 12, .int .i32 r] w fun e w' => e = .returned (.int .i64 (folN 12 r : Nat)) ∧ Below w.heap.size w w' := by
  have hv : folN 12 r = numN 12 r := by unfold folN; simp
  rw [hv]
  clear hv
  have H := fun w' => num_12 r w'
  generalize numN 12 r = v at H ⊢
  go_enter Tryd.func45, Tryd.ntmps45
  go_wp2_with fail
  refine (H _).mono ?_
  rintro e w1 ⟨rfl, b1⟩
  go_wp2
  go_ret
  exact ⟨rfl, b1⟩

set_option maxRecDepth 100000 in
set_option maxHeartbeats 4000000 in
theorem fol_13 (r : Nat) (w : World) : Calls Tryd.prog 45 #[.int .i64 13, .int .i32 r] w fun e w' => e = .returned (.int .i64 (folN 13 r : Nat)) ∧ Below w.heap.size w w' := by
  have hv : folN 13 r = numN 13 r := by unfold folN; simp
  rw [hv]
  clear hv
  have H := fun w' => num_13 r w'
  generalize numN 13 r = v at H ⊢
  go_enter Tryd.func45, Tryd.ntmps45
  go_wp2_with fail
  refine (H _).mono ?_
  rintro e w1 ⟨rfl, b1⟩
  go_wp2
  go_ret
  exact ⟨rfl, b1⟩

set_option maxRecDepth 100000 in
set_option maxHeartbeats 4000000 in
theorem fol_14 (r : Nat) (w : World) : Calls Tryd.prog 45 #[.int .i64 14, .int .i32 r] w fun e w' => e = .returned (.int .i64 (folN 14 r : Nat)) ∧ Below w.heap.size w w' := by
  have hv : folN 14 r = numN 14 r := by unfold folN; simp
  rw [hv]
  clear hv
  have H := fun w' => num_14 r w'
  generalize numN 14 r = v at H ⊢
  go_enter Tryd.func45, Tryd.ntmps45
  go_wp2_with fail
  refine (H _).mono ?_
  rintro e w1 ⟨rfl, b1⟩
  go_wp2
  go_ret
  exact ⟨rfl, b1⟩

set_option maxRecDepth 100000 in
set_option maxHeartbeats 4000000 in
theorem fol_15 (r : Nat) (w : World) : Calls Tryd.prog 45 #[.int .i64 15, .int .i32 r] w fun e w' => e = .returned (.int .i64 (folN 15 r : Nat)) ∧ Below w.heap.size w w' := by
  have hv : folN 15 r = numN 15 r := by unfold folN; simp
  rw [hv]
  clear hv
  have H := fun w' => num_15 r w'
  generalize numN 15 r = v at H ⊢
  go_enter Tryd.func45, Tryd.ntmps45
  go_wp2_with fail
  refine (H _).mono ?_
  rintro e w1 ⟨rfl, b1⟩
  go_wp2
  go_ret
  exact ⟨rfl, b1⟩

set_option maxRecDepth 100000 in
set_option maxHeartbeats 4000000 in
theorem fol_16 (r : Nat) (w : World) : Calls Tryd.prog 45 #[.int .i64 16, .int .i32 r] w fun e w' => e = .returned (.int .i64 (folN 16 r : Nat)) ∧ Below w.heap.size w w' := by
  have hv : folN 16 r = numN 16 r := by unfold folN; simp
  rw [hv]
  clear hv
  have H := fun w' => num_16 r w'
  generalize numN 16 r = v at H ⊢
  go_enter Tryd.func45, Tryd.ntmps45
  go_wp2_with fail
  refine (H _).mono ?_
  rintro e w1 ⟨rfl, b1⟩
  go_wp2
  go_ret
  exact ⟨rfl, b1⟩

set_option maxRecDepth 100000 in
set_option maxHeartbeats 4000000 in
theorem fol_17 (r : Nat) (w : World) : Calls Tryd.prog 45 #[.int .i64 17, .int .i32 r] w fun e w' => e = .returned (.int .i64 (folN 17 r : Nat)) ∧ Below w.heap.size w w' := by
  have hv : folN 17 r = numN 17 r := by unfold folN; simp
  rw [hv]
  clear hv
  have H := fun w' => num_17 r w'
  generalize numN 17 r = v at H ⊢
  go_enter Tryd.func45, Tryd.ntmps45
  go_wp2_with fail
  refine (H _).mono ?_
  rintro e w1 ⟨rfl, b1⟩
  go_wp2
  go_ret
  exact ⟨rfl, b1⟩

set_option maxRecDepth 100000 in
set_option maxHeartbeats 4000000 in
theorem fol_18 (r : Nat) (w : World) : Calls Tryd.prog 45 #[.int .i64 18, .int .i32 r] w fun e w' => e = .returned (.int .i64 (folN 18 r : Nat)) ∧ Below w.heap.size w w' := by
  have hv : folN 18 r = numN 18 r := by unfold folN; simp
  rw [hv]
  clear hv
  have H := fun w' => num_18 r w'
  generalize numN 18 r = v at H ⊢
  go_enter Tryd.func45, Tryd.ntmps45
  go_wp2_with fail
  refine (H _).mono ?_
  rintro e w1 ⟨rfl, b1⟩
  go_wp2
  go_ret
  exact ⟨rfl, b1⟩

set_option maxRecDepth 100000 in
set_option maxHeartbeats 4000000 in
theorem fol_19 (r : Nat) (w : World) : Calls Tryd.prog 45 #[.int .i64 19, .int .i32 r] w fun e w' => e = .returned (.int .i64 (folN 19 r : Nat)) ∧ Below w.heap.size w w' := by
  have hv : folN 19 r = numN 19 r := by unfold folN; simp
  rw [hv]
  clear hv
  have H := fun w' => num_19 r w'
  generalize numN 19 r = v at H ⊢
  go_enter Tryd.func45, Tryd.ntmps45
  go_wp2_with fail
  refine (H _).mono ?_
  rintro e w1 ⟨rfl, b1⟩
  go_wp2
  go_ret
  exact ⟨rfl, b1⟩

set_option maxRecDepth 100000 in
set_option maxHeartbeats 4000000 in
theorem fol_20 (r : Nat) (w : World) : Calls Tryd.prog 45 #[.int .i64 20, .int .i32 r] w fun e w' => e = .returned (.int .i64 (folN 20 r : Nat)) ∧ Below w.heap.size w w' := by
  have hv : folN 20 r = numN 20 r := by unfold folN; simp
  rw [hv]
  clear hv
  have H := fun w' => num_20 r w'
  generalize numN 20 r = v at H ⊢
  go_enter Tryd.func45, Tryd.ntmps45
  go_wp2_with fail
  refine (H _).mono ?_
  rintro e w1 ⟨rfl, b1⟩
  go_wp2
  go_ret
  exact ⟨rfl, b1⟩

set_option maxRecDepth 100000 in
set_option maxHeartbeats 4000000 in
theorem fol_7 (r : Nat) (w : World) : Calls Tryd.prog 45 #[.int .i64 7, .int .i32 r] w fun e w' => e = .returned (.int .i64 (folN 7 r : Nat)) ∧ Below w.heap.size w w' := by
  cases h1 : syN r
  · have H1 := fun w' => isSymbol_is r w'
    rw [h1] at H1
    have hv : folN 7 r = 23 := by
      unfold folN; simp [h1]
    rw [hv]
    clear hv h1
    have bz := Below.refl w.heap.size w
    go_enter Tryd.func45, Tryd.ntmps45
    go_wp2_with fail
    refine (H1 _).mono ?_
    rintro e w0 ⟨rfl, b0⟩
    replace bz := bz.trans (b0.mono bz.size)
    clear b0
    go_wp2_with fail
    refine (where_is false 7 23 _).mono ?_
    rintro e w1 ⟨rfl, rfl⟩
    go_wp2
    go_ret
    exact ⟨rfl, bz⟩
  · have H1 := fun w' => isSymbol_is r w'
    rw [h1] at H1
    have hv : folN 7 r = 7 := by
      unfold folN; simp [h1]
    rw [hv]
    clear hv h1
    have bz := Below.refl w.heap.size w
    go_enter Tryd.func45, Tryd.ntmps45
    go_wp2_with fail
    refine (H1 _).mono ?_
    rintro e w0 ⟨rfl, b0⟩
    replace bz := bz.trans (b0.mono bz.size)
    clear b0
    go_wp2_with fail
    refine (where_is true 7 23 _).mono ?_
    rintro e w1 ⟨rfl, rfl⟩
    go_wp2
    go_ret
    exact ⟨rfl, bz⟩

set_option maxRecDepth 100000 in
set_option maxHeartbeats 4000000 in
theorem fol_11 (r : Nat) (w : World) : Calls Tryd.prog 45 #[.int .i64 11, .int .i32 r] w fun e w' => e = .returned (.int .i64 (folN 11 r : Nat)) ∧ Below w.heap.size w w' := by
  cases h1 : syN r
  · have H1 := fun w' => isSymbol_is r w'
    rw [h1] at H1
    have hv : folN 11 r = 23 := by
      unfold folN; simp [h1]
    rw [hv]
    clear hv h1
    have bz := Below.refl w.heap.size w
    go_enter Tryd.func45, Tryd.ntmps45
    go_wp2_with fail
    refine (H1 _).mono ?_
    rintro e w0 ⟨rfl, b0⟩
    replace bz := bz.trans (b0.mono bz.size)
    clear b0
    go_wp2_with fail
    refine (where_is false 11 23 _).mono ?_
    rintro e w1 ⟨rfl, rfl⟩
    go_wp2
    go_ret
    exact ⟨rfl, bz⟩
  · have H1 := fun w' => isSymbol_is r w'
    rw [h1] at H1
    have hv : folN 11 r = 11 := by
      unfold folN; simp [h1]
    rw [hv]
    clear hv h1
    have bz := Below.refl w.heap.size w
    go_enter Tryd.func45, Tryd.ntmps45
    go_wp2_with fail
    refine (H1 _).mono ?_
    rintro e w0 ⟨rfl, b0⟩
    replace bz := bz.trans (b0.mono bz.size)
    clear b0
    go_wp2_with fail
    refine (where_is true 11 23 _).mono ?_
    rintro e w1 ⟨rfl, rfl⟩
    go_wp2
    go_ret
    exact ⟨rfl, bz⟩

set_option maxRecDepth 100000 in
set_option maxHeartbeats 4000000 in
theorem fol_10 (r : Nat) (w : World) : Calls Tryd.prog 45 #[.int .i64 10, .int .i32 r] w fun e w' => e = .returned (.int .i64 (folN 10 r : Nat)) ∧ Below w.heap.size w w' := by
  cases h1 : syN r
  · have H1 := fun w' => isSymbol_is r w'
    rw [h1] at H1
    have hv : folN 10 r = 24 := by
      unfold folN; simp [h1]
    rw [hv]
    clear hv h1
    have bz := Below.refl w.heap.size w
    go_enter Tryd.func45, Tryd.ntmps45
    go_wp2_with fail
    refine (H1 _).mono ?_
    rintro e w0 ⟨rfl, b0⟩
    replace bz := bz.trans (b0.mono bz.size)
    clear b0
    go_wp2_with fail
    refine (where_is false 11 24 _).mono ?_
    rintro e w1 ⟨rfl, rfl⟩
    go_wp2
    go_ret
    exact ⟨rfl, bz⟩
  · have H1 := fun w' => isSymbol_is r w'
    rw [h1] at H1
    cases h2 : dgN r
    · have H2 := fun w' => isDigit_is r w'
      rw [h2] at H2
      have hv : folN 10 r = 11 := by
        unfold folN; simp [h1, h2]
      rw [hv]
      clear hv h1 h2
      have bz := Below.refl w.heap.size w
      go_enter Tryd.func45, Tryd.ntmps45
      go_wp2_with fail
      refine (H1 _).mono ?_
      rintro e w0 ⟨rfl, b0⟩
      replace bz := bz.trans (b0.mono bz.size)
      clear b0
      go_wp2_with fail
      refine (H2 _).mono ?_
      rintro e w1 ⟨rfl, rfl⟩
      go_wp2_with fail
      refine (where_is true 11 24 _).mono ?_
      rintro e w2 ⟨rfl, rfl⟩
      go_wp2
      go_ret
      exact ⟨rfl, bz⟩
    · have H2 := fun w' => isDigit_is r w'
      rw [h2] at H2
      have hv : folN 10 r = 24 := by
        unfold folN; simp [h1, h2]
      rw [hv]
      clear hv h1 h2
      have bz := Below.refl w.heap.size w
      go_enter Tryd.func45, Tryd.ntmps45
      go_wp2_with fail
      refine (H1 _).mono ?_
      rintro e w0 ⟨rfl, b0⟩
      replace bz := bz.trans (b0.mono bz.size)
      clear b0
      go_wp2_with fail
      refine (H2 _).mono ?_
      rintro e w1 ⟨rfl, rfl⟩
      go_wp2_with fail
      refine (where_is false 11 24 _).mono ?_
      rintro e w2 ⟨rfl, rfl⟩
      go_wp2
      go_ret
      exact ⟨rfl, bz⟩

set_option maxRecDepth 100000 in
set_option maxHeartbeats 4000000 in
theorem fol_4 (r : Nat) (w : World) : Calls Tryd.prog 45 #[.int .i64 4, .int .i32 r] w fun e w' => e = .returned (.int .i64 (folN 4 r : Nat)) ∧ Below w.heap.size w w' := by
  by_cases h1 : r = 10
  · skip
    have x1 : ((r : Int) == 10) = true := by rw [beq_iff_eq]; omega
    have y1 : ((r : Int) != 10) = false := by rw [bne, x1]; rfl
    have hv : folN 4 r = 3 := by
      unfold folN; simp [h1]
    rw [hv]
    clear hv h1
    have bz := Below.refl w.heap.size w
    go_enter Tryd.func45, Tryd.ntmps45
    go_wp2_with fail
    refine (where_is false 4 3 _).mono ?_
    rintro e w0 ⟨rfl, rfl⟩
    go_wp2
    go_ret
    exact ⟨rfl, bz⟩
  · skip
    have x1 : ((r : Int) == 10) = false := by rw [beq_eq_false_iff_ne]; omega
    have y1 : ((r : Int) != 10) = true := by rw [bne, x1]; rfl
    by_cases h2 : r = 13
    · skip
      have x2 : ((r : Int) == 13) = true := by rw [beq_iff_eq]; omega
      have y2 : ((r : Int) != 13) = false := by rw [bne, x2]; rfl
      have hv : folN 4 r = 3 := by
        unfold folN; simp [h1, h2]
      rw [hv]
      clear hv h1 h2
      have bz := Below.refl w.heap.size w
      go_enter Tryd.func45, Tryd.ntmps45
      go_wp2_with fail
      refine (where_is false 4 3 _).mono ?_
      rintro e w0 ⟨rfl, rfl⟩
      go_wp2
      go_ret
      exact ⟨rfl, bz⟩
    · skip
      have x2 : ((r : Int) == 13) = false := by rw [beq_eq_false_iff_ne]; omega
      have y2 : ((r : Int) != 13) = true := by rw [bne, x2]; rfl
      have hv : folN 4 r = 4 := by
        unfold folN; simp [h1, h2]
      rw [hv]
      clear hv h1 h2
      have bz := Below.refl w.heap.size w
      go_enter Tryd.func45, Tryd.ntmps45
      go_wp2_with fail
      refine (where_is true 4 3 _).mono ?_
      rintro e w0 ⟨rfl, rfl⟩
      go_wp2
      go_ret
      exact ⟨rfl, bz⟩

theorem follow_is (st r : Nat) (h : st ∈ waits) (w : World) : Calls Tryd.prog 45 #[.int .i64 st, .int .i32 r] w fun e w' => e = .returned (.int .i64 (folN st r : Nat)) ∧ Below w.heap.size w w' := by
  simp only [waits, List.mem_cons, List.not_mem_nil, or_false] at h
  rcases h with rfl | rfl | rfl | rfl | rfl | rfl | rfl | rfl | rfl | rfl | rfl | rfl | rfl | rfl | rfl | rfl | rfl
  · exact fol_3 r w
  · exact fol_4 r w
  · exact fol_7 r w
  · exact fol_8 r w
  · exact fol_10 r w
  · exact fol_11 r w
  · exact fol_12 r w
  · exact fol_13 r w
  · exact fol_14 r w
  · exact fol_15 r w
  · exact fol_16 r w
  · exact fol_17 r w
  · exact fol_18 r w
  · exact fol_19 r w
  · exact fol_20 r w
  · exact fol_21 r w
  · exact fol_22 r w
theorem kind_is (st : Nat) (h1 : 3 ≤ st) (h2 : st ≤ 22) (w : World) : Calls Tryd.prog 51 #[.int .i64 st] w fun e w' => e = .returned (.int .i64 (kindN st : Nat)) ∧ w' = w := by
  rcases (show st = 3 ∨ st = 4 ∨ st = 5 ∨ st = 6 ∨ st = 7 ∨ st = 8 ∨ st = 9 ∨ st = 10 ∨ st = 11 ∨ st = 12 ∨ st = 13 ∨ st = 14 ∨ st = 15 ∨ st = 16 ∨ st = 17 ∨ st = 18 ∨ st = 19 ∨ st = 20 ∨ st = 21 ∨ st = 22 by omega) with rfl | rfl | rfl | rfl | rfl | rfl | rfl | rfl | rfl | rfl | rfl | rfl | rfl | rfl | rfl | rfl | rfl | rfl | rfl | rfl
  · exact kind_3 w
  · exact kind_4 w
  · exact kind_5 w
  · exact kind_6 w
  · exact kind_7 w
  · exact kind_8 w
  · exact kind_9 w
  · exact kind_10 w
  · exact kind_11 w
  · exact kind_12 w
  · exact kind_13 w
  · exact kind_14 w
  · exact kind_15 w
  · exact kind_16 w
  · exact kind_17 w
  · exact kind_18 w
  · exact kind_19 w
  · exact kind_20 w
  · exact kind_21 w
  · exact kind_22 w
end Go.Proofs.YtibeiggedmabkaaDoor
