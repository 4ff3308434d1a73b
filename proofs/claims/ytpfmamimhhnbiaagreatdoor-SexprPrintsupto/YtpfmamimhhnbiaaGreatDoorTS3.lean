/-
  text: what a token's bytes say.
-/
import Derived.Test.YtpfmamimhhnbiaaGreatDoorTS1
import Derived.Shelf.Strings.Replace
namespace Go.Proofs.YtpfmamimhhnbiaaGreatDoor
open Go.RowKit
set_option linter.unusedVariables false
set_option linter.unusedSimpArgs false

set_option maxRecDepth 100000 in
set_option maxHeartbeats 4000000 in
theorem fol_3 (r : Nat) (w : World) : Calls Tryz.prog 57 #[.int .i64 3, .int .i32 r] w fun e w' => e = .returned (.int .i64 (folN 3 r : Nat)) ∧ Below w.heap.size w w' := by
  have hv : folN 3 r = startN r := by unfold folN; simp
  rw [hv]
  clear hv
  have H := fun w' => start_is r w'
  generalize startN r = v at H ⊢
  go_enter Tryz.func57, Tryz.ntmps57
  go_wp2_with fail
  refine (H _).mono ?_
  rintro e w1 ⟨rfl, b1⟩
  go_wp2
  go_ret
  exact ⟨rfl, b1⟩

set_option maxRecDepth 100000 in
set_option maxHeartbeats 4000000 in
theorem fol_8 (r : Nat) (w : World) : Calls Tryz.prog 57 #[.int .i64 8, .int .i32 r] w fun e w' => e = .returned (.int .i64 (folN 8 r : Nat)) ∧ Below w.heap.size w w' := by
  have hv : folN 8 r = quotN 8 r := by unfold folN; simp
  rw [hv]
  clear hv
  have H := fun w' => quot_8 r w'
  generalize quotN 8 r = v at H ⊢
  go_enter Tryz.func57, Tryz.ntmps57
  go_wp2_with fail
  refine (H _).mono ?_
  rintro e w1 ⟨rfl, b1⟩
  go_wp2
  go_ret
  exact ⟨rfl, b1⟩

set_option maxRecDepth 100000 in
set_option maxHeartbeats 4000000 in
theorem fol_21 (r : Nat) (w : World) : Calls Tryz.prog 57 #[.int .i64 21, .int .i32 r] w fun e w' => e = .returned (.int .i64 (folN 21 r : Nat)) ∧ Below w.heap.size w w' := by
  have hv : folN 21 r = quotN 21 r := by unfold folN; simp
  rw [hv]
  clear hv
  have H := fun w' => quot_21 r w'
  generalize quotN 21 r = v at H ⊢
  go_enter Tryz.func57, Tryz.ntmps57
  go_wp2_with fail
  refine (H _).mono ?_
  rintro e w1 ⟨rfl, b1⟩
  go_wp2
  go_ret
  exact ⟨rfl, b1⟩

set_option maxRecDepth 100000 in
set_option maxHeartbeats 4000000 in
theorem fol_22 (r : Nat) (w : World) : Calls Tryz.prog 57 #[.int .i64 22, .int .i32 r] w fun e w' => e = .returned (.int .i64 (folN 22 r : Nat)) ∧ Below w.heap.size w w' := by
  have hv : folN 22 r = quotN 22 r := by unfold folN; simp
  rw [hv]
  clear hv
  have H := fun w' => quot_22 r w'
  generalize quotN 22 r = v at H ⊢
  go_enter Tryz.func57, Tryz.ntmps57
  go_wp2_with fail
  refine (H _).mono ?_
  rintro e w1 ⟨rfl, b1⟩
  go_wp2
  go_ret
  exact ⟨rfl, b1⟩

set_option maxRecDepth 100000 in
set_option maxHeartbeats 4000000 in
theorem fol_12 (r : Nat) (w : World) : Calls Tryz.prog 57 #[.int .i64 12, .int .i32 r] w fun e w' => e = .returned (.int .i64 (folN 12 r : Nat)) ∧ Below w.heap.size w w' := by
  have hv : folN 12 r = numN 12 r := by unfold folN; simp
  rw [hv]
  clear hv
  have H := fun w' => num_12 r w'
  generalize numN 12 r = v at H ⊢
  go_enter Tryz.func57, Tryz.ntmps57
  go_wp2_with fail
  refine (H _).mono ?_
  rintro e w1 ⟨rfl, b1⟩
  go_wp2
  go_ret
  exact ⟨rfl, b1⟩

set_option maxRecDepth 100000 in
set_option maxHeartbeats 4000000 in
theorem fol_13 (r : Nat) (w : World) : Calls Tryz.prog 57 #[.int .i64 13, .int .i32 r] w fun e w' => e = .returned (.int .i64 (folN 13 r : Nat)) ∧ Below w.heap.size w w' := by
  have hv : folN 13 r = numN 13 r := by unfold folN; simp
  rw [hv]
  clear hv
  have H := fun w' => num_13 r w'
  generalize numN 13 r = v at H ⊢
  go_enter Tryz.func57, Tryz.ntmps57
  go_wp2_with fail
  refine (H _).mono ?_
  rintro e w1 ⟨rfl, b1⟩
  go_wp2
  go_ret
  exact ⟨rfl, b1⟩

set_option maxRecDepth 100000 in
set_option maxHeartbeats 4000000 in
theorem fol_14 (r : Nat) (w : World) : Calls Tryz.prog 57 #[.int .i64 14, .int .i32 r] w fun e w' => e = .returned (.int .i64 (folN 14 r : Nat)) ∧ Below w.heap.size w w' := by
  have hv : folN 14 r = numN 14 r := by unfold folN; simp
  rw [hv]
  clear hv
  have H := fun w' => num_14 r w'
  generalize numN 14 r = v at H ⊢
  go_enter Tryz.func57, Tryz.ntmps57
  go_wp2_with fail
  refine (H _).mono ?_
  rintro e w1 ⟨rfl, b1⟩
  go_wp2
  go_ret
  exact ⟨rfl, b1⟩

set_option maxRecDepth 100000 in
set_option maxHeartbeats 4000000 in
theorem fol_15 (r : Nat) (w : World) : Calls Tryz.prog 57 #[.int .i64 15, .int .i32 r] w fun e w' => e = .returned (.int .i64 (folN 15 r : Nat)) ∧ Below w.heap.size w w' := by
  have hv : folN 15 r = numN 15 r := by unfold folN; simp
  rw [hv]
  clear hv
  have H := fun w' => num_15 r w'
  generalize numN 15 r = v at H ⊢
  go_enter Tryz.func57, Tryz.ntmps57
  go_wp2_with fail
  refine (H _).mono ?_
  rintro e w1 ⟨rfl, b1⟩
  go_wp2
  go_ret
  exact ⟨rfl, b1⟩

set_option maxRecDepth 100000 in
set_option maxHeartbeats 4000000 in
theorem fol_16 (r : Nat) (w : World) : Calls Tryz.prog 57 #[.int .i64 16, .int .i32 r] w fun e w' => e = .returned (.int .i64 (folN 16 r : Nat)) ∧ Below w.heap.size w w' := by
  have hv : folN 16 r = numN 16 r := by unfold folN; simp
  rw [hv]
  clear hv
  have H := fun w' => num_16 r w'
  generalize numN 16 r = v at H ⊢
  go_enter Tryz.func57, Tryz.ntmps57
  go_wp2_with fail
  refine (H _).mono ?_
  rintro e w1 ⟨rfl, b1⟩
  go_wp2
  go_ret
  exact ⟨rfl, b1⟩

set_option maxRecDepth 100000 in
set_option maxHeartbeats 4000000 in
theorem fol_17 (r : Nat) (w : World) : Calls Tryz.prog 57 #[.int .i64 17, .int .i32 r] w fun e w' => e = .returned (.int .i64 (folN 17 r : Nat)) ∧ Below w.heap.size w w' := by
  have hv : folN 17 r = numN 17 r := by unfold folN; simp
  rw [hv]
  clear hv
  have H := fun w' => num_17 r w'
  generalize numN 17 r = v at H ⊢
  go_enter Tryz.func57, Tryz.ntmps57
  go_wp2_with fail
  refine (H _).mono ?_
  rintro e w1 ⟨rfl, b1⟩
  go_wp2
  go_ret
  exact ⟨rfl, b1⟩

set_option maxRecDepth 100000 in
set_option maxHeartbeats 4000000 in
theorem fol_18 (r : Nat) (w : World) : Calls Tryz.prog 57 #[.int .i64 18, .int .i32 r] w fun e w' => e = .returned (.int .i64 (folN 18 r : Nat)) ∧ Below w.heap.size w w' := by
  have hv : folN 18 r = numN 18 r := by unfold folN; simp
  rw [hv]
  clear hv
  have H := fun w' => num_18 r w'
  generalize numN 18 r = v at H ⊢
  go_enter Tryz.func57, Tryz.ntmps57
  go_wp2_with fail
  refine (H _).mono ?_
  rintro e w1 ⟨rfl, b1⟩
  go_wp2
  go_ret
  exact ⟨rfl, b1⟩

set_option maxRecDepth 100000 in
set_option maxHeartbeats 4000000 in
theorem fol_19 (r : Nat) (w : World) : Calls Tryz.prog 57 #[.int .i64 19, .int .i32 r] w fun e w' => e = .returned (.int .i64 (folN 19 r : Nat)) ∧ Below w.heap.size w w' := by
  have hv : folN 19 r = numN 19 r := by unfold folN; simp
  rw [hv]
  clear hv
  have H := fun w' => num_19 r w'
  generalize numN 19 r = v at H ⊢
  go_enter Tryz.func57, Tryz.ntmps57
  go_wp2_with fail
  refine (H _).mono ?_
  rintro e w1 ⟨rfl, b1⟩
  go_wp2
  go_ret
  exact ⟨rfl, b1⟩

set_option maxRecDepth 100000 in
set_option maxHeartbeats 4000000 in
theorem fol_20 (r : Nat) (w : World) : Calls Tryz.prog 57 #[.int .i64 20, .int .i32 r] w fun e w' => e = .returned (.int .i64 (folN 20 r : Nat)) ∧ Below w.heap.size w w' := by
  have hv : folN 20 r = numN 20 r := by unfold folN; simp
  rw [hv]
  clear hv
  have H := fun w' => num_20 r w'
  generalize numN 20 r = v at H ⊢
  go_enter Tryz.func57, Tryz.ntmps57
  go_wp2_with fail
  refine (H _).mono ?_
  rintro e w1 ⟨rfl, b1⟩
  go_wp2
  go_ret
  exact ⟨rfl, b1⟩

set_option maxRecDepth 100000 in
set_option maxHeartbeats 4000000 in
theorem fol_7 (r : Nat) (w : World) : Calls Tryz.prog 57 #[.int .i64 7, .int .i32 r] w fun e w' => e = .returned (.int .i64 (folN 7 r : Nat)) ∧ Below w.heap.size w w' := by
  cases h1 : syN r
  · have H1 := fun w' => isSymbol_is r w'
    rw [h1] at H1
    have hv : folN 7 r = 23 := by
      unfold folN; simp [h1]
    rw [hv]
    clear hv h1
    have bz := Below.refl w.heap.size w
    go_enter Tryz.func57, Tryz.ntmps57
    go_wp2_with fail
    refine (H1 _).mono ?_
    rintro e w0 ⟨rfl, b0⟩
    replace bz := bz.trans (b0.mono bz.size)
    clear b0
    go_wp2_with fail
    refine (where_is false 7 23 _).mono ?_
    rintro e w1 ⟨rfl, rfl⟩
    go_wp2
    go_ret
    exact ⟨rfl, bz⟩
  · have H1 := fun w' => isSymbol_is r w'
    rw [h1] at H1
    have hv : folN 7 r = 7 := by
      unfold folN; simp [h1]
    rw [hv]
    clear hv h1
    have bz := Below.refl w.heap.size w
    go_enter Tryz.func57, Tryz.ntmps57
    go_wp2_with fail
    refine (H1 _).mono ?_
    rintro e w0 ⟨rfl, b0⟩
    replace bz := bz.trans (b0.mono bz.size)
    clear b0
    go_wp2_with fail
    refine (where_is true 7 23 _).mono ?_
    rintro e w1 ⟨rfl, rfl⟩
    go_wp2
    go_ret
    exact ⟨rfl, bz⟩

set_option maxRecDepth 100000 in
set_option maxHeartbeats 4000000 in
theorem fol_11 (r : Nat) (w : World) : Calls Tryz.prog 57 #[.int .i64 11, .int .i32 r] w fun e w' => e = .returned (.int .i64 (folN 11 r : Nat)) ∧ Below w.heap.size w w' := by
  cases h1 : syN r
  · have H1 := fun w' => isSymbol_is r w'
    rw [h1] at H1
    have hv : folN 11 r = 23 := by
      unfold folN; simp [h1]
    rw [hv]
    clear hv h1
    have bz := Below.refl w.heap.size w
    go_enter Tryz.func57, Tryz.ntmps57
    go_wp2_with fail
    refine (H1 _).mono ?_
    rintro e w0 ⟨rfl, b0⟩
    replace bz := bz.trans (b0.mono bz.size)
    clear b0
    go_wp2_with fail
    refine (where_is false 11 23 _).mono ?_
    rintro e w1 ⟨rfl, rfl⟩
    go_wp2
    go_ret
    exact ⟨rfl, bz⟩
  · have H1 := fun w' => isSymbol_is r w'
    rw [h1] at H1
    have hv : folN 11 r = 11 := by
      unfold folN; simp [h1]
    rw [hv]
    clear hv h1
    have bz := Below.refl w.heap.size w
    go_enter Tryz.func57, Tryz.ntmps57
    go_wp2_with fail
    refine (H1 _).mono ?_
    rintro e w0 ⟨rfl, b0⟩
    replace bz := bz.trans (b0.mono bz.size)
    clear b0
    go_wp2_with fail
    refine (where_is true 11 23 _).mono ?_
    rintro e w1 ⟨rfl, rfl⟩
    go_wp2
    go_ret
    exact ⟨rfl, bz⟩

set_option maxRecDepth 100000 in
set_option maxHeartbeats 4000000 in
theorem fol_10 (r : Nat) (w : World) : Calls Tryz.prog 57 #[.int .i64 10, .int .i32 r] w fun e w' => e = .returned (.int .i64 (folN 10 r : Nat)) ∧ Below w.heap.size w w' := by
  cases h1 : syN r
  · have H1 := fun w' => isSymbol_is r w'
    rw [h1] at H1
    have hv : folN 10 r = 24 := by
      unfold folN; simp [h1]
    rw [hv]
    clear hv h1
    have bz := Below.refl w.heap.size w
    go_enter Tryz.func57, Tryz.ntmps57
    go_wp2_with fail
    refine (H1 _).mono ?_
    rintro e w0 ⟨rfl, b0⟩
    replace bz := bz.trans (b0.mono bz.size)
    clear b0
    go_wp2_with fail
    refine (where_is false 11 24 _).mono ?_
    rintro e w1 ⟨rfl, rfl⟩
    go_wp2
    go_ret
    exact ⟨rfl, bz⟩
  · have H1 := fun w' => isSymbol_is r w'
    rw [h1] at H1
    cases h2 : dgN r
    · have H2 := fun w' => isDigit_is r w'
      rw [h2] at H2
      have hv : folN 10 r = 11 := by
        unfold folN; simp [h1, h2]
      rw [hv]
      clear hv h1 h2
      have bz := Below.refl w.heap.size w
      go_enter Tryz.func57, Tryz.ntmps57
      go_wp2_with fail
      refine (H1 _).mono ?_
      rintro e w0 ⟨rfl, b0⟩
      replace bz := bz.trans (b0.mono bz.size)
      clear b0
      go_wp2_with fail
      refine (H2 _).mono ?_
      rintro e w1 ⟨rfl, rfl⟩
      go_wp2_with fail
      refine (where_is true 11 24 _).mono ?_
      rintro e w2 ⟨rfl, rfl⟩
      go_wp2
      go_ret
      exact ⟨rfl, bz⟩
    · have H2 := fun w' => isDigit_is r w'
      rw [h2] at H2
      have hv : folN 10 r = 24 := by
        unfold folN; simp [h1, h2]
      rw [hv]
      clear hv h1 h2
      have bz := Below.refl w.heap.size w
      go_enter Tryz.func57, Tryz.ntmps57
      go_wp2_with fail
      refine (H1 _).mono ?_
      rintro e w0 ⟨rfl, b0⟩
      replace bz := bz.trans (b0.mono bz.size)
      clear b0
      go_wp2_with fail
      refine (H2 _).mono ?_
      rintro e w1 ⟨rfl, rfl⟩
      go_wp2_with fail
      refine (where_is false 11 24 _).mono ?_
      rintro e w2 ⟨rfl, rfl⟩
      go_wp2
      go_ret
      exact ⟨rfl, bz⟩

set_option maxRecDepth 100000 in
set_option maxHeartbeats 4000000 in
theorem fol_4 (r : Nat) (w : World) : Calls Tryz.prog 57 #[.int .i64 4, .int .i32 r] w fun e w' => e = .returned (.int .i64 (folN 4 r : Nat)) ∧ Below w.heap.size w w' := by
  by_cases h1 : r = 10
  · skip
    have x1 : ((r : Int) == 10) = true := by rw [beq_iff_eq]; omega
    have y1 : ((r : Int) != 10) = false := by rw [bne, x1]; rfl
    have hv : folN 4 r = 3 := by
      unfold folN; simp [h1]
    rw [hv]
    clear hv h1
    have bz := Below.refl w.heap.size w
    go_enter Tryz.func57, Tryz.ntmps57
    go_wp2_with fail
    refine (where_is false 4 3 _).mono ?_
    rintro e w0 ⟨rfl, rfl⟩
    go_wp2
    go_ret
    exact ⟨rfl, bz⟩
  · skip
    have x1 : ((r : Int) == 10) = false := by rw [beq_eq_false_iff_ne]; omega
    have y1 : ((r : Int) != 10) = true := by rw [bne, x1]; rfl
    by_cases h2 : r = 13
    · skip
      have x2 : ((r : Int) == 13) = true := by rw [beq_iff_eq]; omega
      have y2 : ((r : Int) != 13) = false := by rw [bne, x2]; rfl
      have hv : folN 4 r = 3 := by
        unfold folN; simp [h1, h2]
      rw [hv]
      clear hv h1 h2
      have bz := Below.refl w.heap.size w
      go_enter Tryz.func57, Tryz.ntmps57
      go_wp2_with fail
      refine (where_is false 4 3 _).mono ?_
      rintro e w0 ⟨rfl, rfl⟩
      go_wp2
      go_ret
      exact ⟨rfl, bz⟩
    · skip
      have x2 : ((r : Int) == 13) = false := by rw [beq_eq_false_iff_ne]; omega
      have y2 : ((r : Int) != 13) = true := by rw [bne, x2]; rfl
      have hv : folN 4 r = 4 := by
        unfold folN; simp [h1, h2]
      rw [hv]
      clear hv h1 h2
      have bz := Below.refl w.heap.size w
      go_enter Tryz.func57, Tryz.ntmps57
      go_wp2_with fail
      refine (where_is true 4 3 _).mono ?_
      rintro e w0 ⟨rfl, rfl⟩
      go_wp2
      go_ret
      exact ⟨rfl, bz⟩

theorem follow_is (st r : Nat) (h : st ∈ waits) (w : World) : Calls Tryz.prog 57 #[.int .i64 st, .int .i32 r] w fun e w' => e = .returned (.int .i64 (folN st r : Nat)) ∧ Below w.heap.size w w' := by
  simp only [waits, List.mem_cons, List.not_mem_nil, or_false] at h
  rcases h with rfl | rfl | rfl | rfl | rfl | rfl | rfl | rfl | rfl | rfl | rfl | rfl | rfl | rfl | rfl | rfl | rfl
  · exact fol_3 r w
  · exact fol_4 r w
  · exact fol_7 r w
  · exact fol_8 r w
  · exact fol_10 r w
  · exact fol_11 r w
  · exact fol_12 r w
  · exact fol_13 r w
  · exact fol_14 r w
  · exact fol_15 r w
  · exact fol_16 r w
  · exact fol_17 r w
  · exact fol_18 r w
  · exact fol_19 r w
  · exact fol_20 r w
  · exact fol_21 r w
  · exact fol_22 r w
theorem kind_is (st : Nat) (h1 : 3 ≤ st) (h2 : st ≤ 22) (w : World) : Calls Tryz.prog 63 #[.int .i64 st] w fun e w' => e = .returned (.int .i64 (kindN st : Nat)) ∧ w' = w := by
  rcases (show st = 3 ∨ st = 4 ∨ st = 5 ∨ st = 6 ∨ st = 7 ∨ st = 8 ∨ st = 9 ∨ st = 10 ∨ st = 11 ∨ st = 12 ∨ st = 13 ∨ st = 14 ∨ st = 15 ∨ st = 16 ∨ st = 17 ∨ st = 18 ∨ st = 19 ∨ st = 20 ∨ st = 21 ∨ st = 22 by omega) with rfl | rfl | rfl | rfl | rfl | rfl | rfl | rfl | rfl | rfl | rfl | rfl | rfl | rfl | rfl | rfl | rfl | rfl | rfl | rfl
  · exact kind_3 w
  · exact kind_4 w
  · exact kind_5 w
  · exact kind_6 w
  · exact kind_7 w
  · exact kind_8 w
  · exact kind_9 w
  · exact kind_10 w
  · exact kind_11 w
  · exact kind_12 w
  · exact kind_13 w
  · exact kind_14 w
  · exact kind_15 w
  · exact kind_16 w
  · exact kind_17 w
  · exact kind_18 w
  · exact kind_19 w
  · exact kind_20 w
  · exact kind_21 w
  · exact kind_22 w
end Go.Proofs.YtpfmamimhhnbiaaGreatDoor

namespace Go.Proofs
open Go.Shelf
def Tryz.lays155_ren : Go.Shelf.Ren := ⟨fun | 155 => 81 | 154 => 95 | 138 => 100 | 165 => 101 | 143 => 102 | 166 => 21 | 197 => 103 | 169 => 17 | 195 => 108 | 218 => 109 | 240 => 29 | 241 => 110 | 219 => 111 | 260 => 112 | 276 => 47 | 277 => 114 | 217 => 113 | 225 => 107 | 224 => 106 | 267 => 115 | 266 => 116 | 314 => 117 | n => n, fun | 9 => 9 | 3 => 3 | 4 => 4 | 72 => 41 | 0 => 0 | 76 => 49 | 105 => 115 | 21 => 21 | 5 => 5 | 70 => 38 | 20 => 20 | 37 => 39 | 75 => 48 | 127 => 53 | 164 => 81 | 46 => 119 | 119 => 122 | 139 => 125 | 138 => 124 | 146 => 127 | 51 => 126 | 80 => 43 | n => n, fun | 1 => 0 | 3 => 1 | 4 => 2 | n => n⟩
theorem Tryz.lays155 : Go.Proofs.Lays.n155 Tryz.prog Tryz.lays155_ren := {
  mixed := by kernel_rfl
  f138 := Tryz.func100.trans (congrArg some (by kernel_rfl))
  f143 := Tryz.func102.trans (congrArg some (by kernel_rfl))
  f154 := Tryz.func95.trans (congrArg some (by kernel_rfl))
  f155 := Tryz.func81.trans (congrArg some (by kernel_rfl))
  f165 := Tryz.func101.trans (congrArg some (by kernel_rfl))
  f166 := Tryz.func21.trans (congrArg some (by kernel_rfl))
  f169 := Tryz.func17.trans (congrArg some (by kernel_rfl))
  f195 := Tryz.func108.trans (congrArg some (by kernel_rfl))
  f197 := Tryz.func103.trans (congrArg some (by kernel_rfl))
  f217 := Tryz.func113.trans (congrArg some (by kernel_rfl))
  f218 := Tryz.func109.trans (congrArg some (by kernel_rfl))
  f219 := Tryz.func111.trans (congrArg some (by kernel_rfl))
  f224 := Tryz.func106.trans (congrArg some (by kernel_rfl))
  f225 := Tryz.func107.trans (congrArg some (by kernel_rfl))
  f240 := Tryz.func29.trans (congrArg some (by kernel_rfl))
  f241 := Tryz.func110.trans (congrArg some (by kernel_rfl))
  f260 := Tryz.func112.trans (congrArg some (by kernel_rfl))
  f266 := Tryz.func116.trans (congrArg some (by kernel_rfl))
  f267 := Tryz.func115.trans (congrArg some (by kernel_rfl))
  f276 := Tryz.func47.trans (congrArg some (by kernel_rfl))
  f277 := Tryz.func114.trans (congrArg some (by kernel_rfl))
  f314 := Tryz.func117.trans (congrArg some (by kernel_rfl))
  t0 := Tryz.underlying0
  a0 := Tryz.isAgg0
  z0 := Tryz.sizeOf0
  v0 := Tryz.zeroValue0
  t3 := Tryz.underlying3
  a3 := Tryz.isAgg3
  z3 := Tryz.sizeOf3
  v3 := Tryz.zeroValue3
  t4 := Tryz.underlying4
  a4 := Tryz.isAgg4
  z4 := Tryz.sizeOf4
  v4 := Tryz.zeroValue4
  t5 := Tryz.underlying5
  a5 := Tryz.isAgg5
  z5 := Tryz.sizeOf5
  v5 := Tryz.zeroValue5
  t9 := Tryz.underlying9
  a9 := Tryz.isAgg9
  z9 := Tryz.sizeOf9
  v9 := Tryz.zeroValue9
  t20 := Tryz.underlying20
  a20 := Tryz.isAgg20
  z20 := Tryz.sizeOf20
  v20 := Tryz.zeroValue20
  t21 := Tryz.underlying21
  a21 := Tryz.isAgg21
  z21 := Tryz.sizeOf21
  v21 := Tryz.zeroValue21
  t37 := Tryz.underlying39
  a37 := Tryz.isAgg39
  z37 := Tryz.sizeOf39
  v37 := Tryz.zeroValue39
  t46 := Tryz.underlying119
  a46 := Tryz.isAgg119
  z46 := Tryz.sizeOf119
  v46 := Tryz.zeroValue119
  t51 := Tryz.underlying126
  a51 := Tryz.isAgg126
  z51 := Tryz.sizeOf126
  v51 := Tryz.zeroValue126
  t70 := Tryz.underlying38
  a70 := Tryz.isAgg38
  z70 := Tryz.sizeOf38
  v70 := Tryz.zeroValue38
  t72 := Tryz.underlying41
  a72 := Tryz.isAgg41
  z72 := Tryz.sizeOf41
  v72 := Tryz.zeroValue41
  t75 := Tryz.underlying48
  a75 := Tryz.isAgg48
  z75 := Tryz.sizeOf48
  v75 := Tryz.zeroValue48
  t76 := Tryz.underlying49
  a76 := Tryz.isAgg49
  z76 := Tryz.sizeOf49
  v76 := Tryz.zeroValue49
  t105 := Tryz.underlying115
  a105 := Tryz.isAgg115
  z105 := Tryz.sizeOf115
  v105 := Tryz.zeroValue115
  t119 := Tryz.underlying122
  a119 := Tryz.isAgg122
  z119 := Tryz.sizeOf122
  t127 := Tryz.underlying53
  a127 := Tryz.isAgg53
  z127 := Tryz.sizeOf53
  v127 := Tryz.zeroValue53
  t138 := Tryz.underlying124
  a138 := Tryz.isAgg124
  z138 := Tryz.sizeOf124
  v138 := Tryz.zeroValue124
  t139 := Tryz.underlying125
  a139 := Tryz.isAgg125
  z139 := Tryz.sizeOf125
  v139 := Tryz.zeroValue125
  t146 := Tryz.underlying127
  a146 := Tryz.isAgg127
  z146 := Tryz.sizeOf127
  v146 := Tryz.zeroValue127
  t164 := Tryz.underlying81
  a164 := Tryz.isAgg81
  z164 := Tryz.sizeOf81
  v164 := Tryz.zeroValue81
  g1 := by kernel_rfl
  g3 := by kernel_rfl
  g4 := by kernel_rfl }
theorem Tryz.Builder_Extra_155 : Builder.Extra Tryz.prog Tryz.lays155_ren := {
  sizeBuilder := by kernel_rfl
  liesBuilder := by kernel_rfl
  t5 := Tryz.underlying5
  a5 := Tryz.isAgg5
  z5 := Tryz.sizeOf5
  v5 := Tryz.zeroValue5
  infoByte := by kernel_rfl
  cellsByte := by kernel_rfl
  sizeByte := by kernel_rfl
  neB5 := by decide }
end Go.Proofs
namespace Go.Proofs.YtpfmamimhhnbiaaGreatDoor
open Go.RowKit
set_option linter.unusedVariables false
set_option linter.unusedSimpArgs false
/-- the block of the library's variable MaxLen, which holds some number -/
abbrev mxB : Nat := 0
def MaxL (w : World) : Prop := ∃ m : Int, w.cell? ⟨mxB, 0, none⟩ = some (.int .i64 m)
theorem MaxL.on {w w' : World} (h : MaxL w) (hb : Below w.heap.size w w') : MaxL w' := by
  obtain ⟨m, hm⟩ := h
  exact ⟨m, by rw [hb.cell (World.block_lt_of_cell? w _ hm)]; exact hm⟩
/-- each two quotes as one -/
def unq (b : ByteArray) : ByteArray := ⟨(Lib.replaceAll b.data.toList [34, 34] [34]).toArray⟩
/-- what a token's bytes say -/
def txt (st : Nat) (b : ByteArray) : ByteArray :=
  if st = 11 then b.extract 1 b.size else if st = 18 ∨ st = 20 then b.extract 2 b.size else if st = 9 then b.extract 1 (b.size - 1) else if st = 22 then unq (b.extract 1 (b.size - 1)) else b
/-- there are as many bytes as its state asks -/
def longEnough (st : Nat) (b : ByteArray) : Prop := (st = 11 → 1 ≤ b.size) ∧ (st = 18 ∨ st = 20 ∨ st = 9 ∨ st = 22 → 2 ≤ b.size)
theorem replaceAll_is (s : ByteArray) (hs : s.size < 4294967281) (w : World) (hM : MaxL w) :
    Calls Tryz.prog 81 #[.string s, .string ⟨#[34, 34]⟩, .string ⟨#[34]⟩] w fun e w' => e = .returned (.string (unq s)) ∧ Below w.heap.size w w' := by
  obtain ⟨m, hm⟩ := hM
  have hc := Lib.countB_mul_le (⟨#[34, 34]⟩ : ByteArray) (by decide) s.size s (Nat.le_refl _)
  have e1 : (⟨#[34, 34]⟩ : ByteArray).size = 2 := rfl
  have e2 : (⟨#[34]⟩ : ByteArray).size = 1 := rfl
  refine (Any.strings_ReplaceAll Tryz.lays155 Tryz.Builder_Extra_155 s ⟨#[34, 34]⟩ ⟨#[34]⟩ m w hs hm (by decide) (by rw [e1] at hc; rw [e2]; omega)).mono ?_
  rintro e w' ⟨h1, h2⟩
  exact ⟨h1, h2⟩
set_option maxHeartbeats 2000000 in
theorem text_3 (b : ByteArray) (hs : b.size ≤ 4294967280) (w : World) : Calls Tryz.prog 87 #[.int .i64 3, .string b] w fun e w' => e = .returned (.string (txt 3 b)) ∧ Below w.heap.size w w' := by
  have hv : txt 3 b = b := by unfold txt; simp
  rw [hv]
  clear hv
  go_enter Tryz.func87, Tryz.ntmps87
  go_wp2
  go_ret
  exact ⟨rfl, Below.refl _ _⟩

set_option maxHeartbeats 2000000 in
theorem text_4 (b : ByteArray) (hs : b.size ≤ 4294967280) (w : World) : Calls Tryz.prog 87 #[.int .i64 4, .string b] w fun e w' => e = .returned (.string (txt 4 b)) ∧ Below w.heap.size w w' := by
  have hv : txt 4 b = b := by unfold txt; simp
  rw [hv]
  clear hv
  go_enter Tryz.func87, Tryz.ntmps87
  go_wp2
  go_ret
  exact ⟨rfl, Below.refl _ _⟩

set_option maxHeartbeats 2000000 in
theorem text_5 (b : ByteArray) (hs : b.size ≤ 4294967280) (w : World) : Calls Tryz.prog 87 #[.int .i64 5, .string b] w fun e w' => e = .returned (.string (txt 5 b)) ∧ Below w.heap.size w w' := by
  have hv : txt 5 b = b := by unfold txt; simp
  rw [hv]
  clear hv
  go_enter Tryz.func87, Tryz.ntmps87
  go_wp2
  go_ret
  exact ⟨rfl, Below.refl _ _⟩

set_option maxHeartbeats 2000000 in
theorem text_6 (b : ByteArray) (hs : b.size ≤ 4294967280) (w : World) : Calls Tryz.prog 87 #[.int .i64 6, .string b] w fun e w' => e = .returned (.string (txt 6 b)) ∧ Below w.heap.size w w' := by
  have hv : txt 6 b = b := by unfold txt; simp
  rw [hv]
  clear hv
  go_enter Tryz.func87, Tryz.ntmps87
  go_wp2
  go_ret
  exact ⟨rfl, Below.refl _ _⟩

set_option maxHeartbeats 2000000 in
theorem text_7 (b : ByteArray) (hs : b.size ≤ 4294967280) (w : World) : Calls Tryz.prog 87 #[.int .i64 7, .string b] w fun e w' => e = .returned (.string (txt 7 b)) ∧ Below w.heap.size w w' := by
  have hv : txt 7 b = b := by unfold txt; simp
  rw [hv]
  clear hv
  go_enter Tryz.func87, Tryz.ntmps87
  go_wp2
  go_ret
  exact ⟨rfl, Below.refl _ _⟩

set_option maxHeartbeats 2000000 in
theorem text_8 (b : ByteArray) (hs : b.size ≤ 4294967280) (w : World) : Calls Tryz.prog 87 #[.int .i64 8, .string b] w fun e w' => e = .returned (.string (txt 8 b)) ∧ Below w.heap.size w w' := by
  have hv : txt 8 b = b := by unfold txt; simp
  rw [hv]
  clear hv
  go_enter Tryz.func87, Tryz.ntmps87
  go_wp2
  go_ret
  exact ⟨rfl, Below.refl _ _⟩

set_option maxHeartbeats 2000000 in
theorem text_9 (b : ByteArray) (hs : b.size ≤ 4294967280) (h1 : 2 ≤ b.size) (w : World) : Calls Tryz.prog 87 #[.int .i64 9, .string b] w fun e w' => e = .returned (.string (txt 9 b)) ∧ Below w.heap.size w w' := by
  have hv : txt 9 b = b.extract 1 (b.size - 1) := by unfold txt; simp
  rw [hv]
  clear hv
  have hw : wrap64 ((b.size : Int) - 1) = ((b.size - 1 : Nat) : Int) := by
    have e : ((b.size : Int) - 1) = ((b.size - 1 : Nat) : Int) := by omega
    rw [e]; unfold wrap64; omega
  go_enter Tryz.func87, Tryz.ntmps87
  go_wp2
  go_ret
  exact ⟨rfl, Below.refl _ _⟩

set_option maxHeartbeats 2000000 in
theorem text_10 (b : ByteArray) (hs : b.size ≤ 4294967280) (w : World) : Calls Tryz.prog 87 #[.int .i64 10, .string b] w fun e w' => e = .returned (.string (txt 10 b)) ∧ Below w.heap.size w w' := by
  have hv : txt 10 b = b := by unfold txt; simp
  rw [hv]
  clear hv
  go_enter Tryz.func87, Tryz.ntmps87
  go_wp2
  go_ret
  exact ⟨rfl, Below.refl _ _⟩

set_option maxHeartbeats 2000000 in
theorem text_11 (b : ByteArray) (hs : b.size ≤ 4294967280) (h1 : 1 ≤ b.size) (w : World) : Calls Tryz.prog 87 #[.int .i64 11, .string b] w fun e w' => e = .returned (.string (txt 11 b)) ∧ Below w.heap.size w w' := by
  have hv : txt 11 b = b.extract 1 b.size := by unfold txt; simp
  rw [hv]
  clear hv
  have hsl : ∀ wx : World, (Instr.slice 9 (.string b) (some (.int .i64 1)) none none).run Tryz.prog wx = .ok (.string (b.extract 1 b.size)) wx := fun wx => by
    have h := run_slice_string_l (P := Tryz.prog) (t := 9) (s := b) (w := wx) Tryz.underlying9 .i64 1 (by omega) (by omega)
    exact h
  go_enter Tryz.func87, Tryz.ntmps87
  go_wp2
  go_ret
  exact ⟨rfl, Below.refl _ _⟩

set_option maxHeartbeats 2000000 in
theorem text_12 (b : ByteArray) (hs : b.size ≤ 4294967280) (w : World) : Calls Tryz.prog 87 #[.int .i64 12, .string b] w fun e w' => e = .returned (.string (txt 12 b)) ∧ Below w.heap.size w w' := by
  have hv : txt 12 b = b := by unfold txt; simp
  rw [hv]
  clear hv
  go_enter Tryz.func87, Tryz.ntmps87
  go_wp2
  go_ret
  exact ⟨rfl, Below.refl _ _⟩

set_option maxHeartbeats 2000000 in
theorem text_13 (b : ByteArray) (hs : b.size ≤ 4294967280) (w : World) : Calls Tryz.prog 87 #[.int .i64 13, .string b] w fun e w' => e = .returned (.string (txt 13 b)) ∧ Below w.heap.size w w' := by
  have hv : txt 13 b = b := by unfold txt; simp
  rw [hv]
  clear hv
  go_enter Tryz.func87, Tryz.ntmps87
  go_wp2
  go_ret
  exact ⟨rfl, Below.refl _ _⟩

set_option maxHeartbeats 2000000 in
theorem text_14 (b : ByteArray) (hs : b.size ≤ 4294967280) (w : World) : Calls Tryz.prog 87 #[.int .i64 14, .string b] w fun e w' => e = .returned (.string (txt 14 b)) ∧ Below w.heap.size w w' := by
  have hv : txt 14 b = b := by unfold txt; simp
  rw [hv]
  clear hv
  go_enter Tryz.func87, Tryz.ntmps87
  go_wp2
  go_ret
  exact ⟨rfl, Below.refl _ _⟩

set_option maxHeartbeats 2000000 in
theorem text_15 (b : ByteArray) (hs : b.size ≤ 4294967280) (w : World) : Calls Tryz.prog 87 #[.int .i64 15, .string b] w fun e w' => e = .returned (.string (txt 15 b)) ∧ Below w.heap.size w w' := by
  have hv : txt 15 b = b := by unfold txt; simp
  rw [hv]
  clear hv
  go_enter Tryz.func87, Tryz.ntmps87
  go_wp2
  go_ret
  exact ⟨rfl, Below.refl _ _⟩

set_option maxHeartbeats 2000000 in
theorem text_16 (b : ByteArray) (hs : b.size ≤ 4294967280) (w : World) : Calls Tryz.prog 87 #[.int .i64 16, .string b] w fun e w' => e = .returned (.string (txt 16 b)) ∧ Below w.heap.size w w' := by
  have hv : txt 16 b = b := by unfold txt; simp
  rw [hv]
  clear hv
  go_enter Tryz.func87, Tryz.ntmps87
  go_wp2
  go_ret
  exact ⟨rfl, Below.refl _ _⟩

set_option maxHeartbeats 2000000 in
theorem text_17 (b : ByteArray) (hs : b.size ≤ 4294967280) (w : World) : Calls Tryz.prog 87 #[.int .i64 17, .string b] w fun e w' => e = .returned (.string (txt 17 b)) ∧ Below w.heap.size w w' := by
  have hv : txt 17 b = b := by unfold txt; simp
  rw [hv]
  clear hv
  go_enter Tryz.func87, Tryz.ntmps87
  go_wp2
  go_ret
  exact ⟨rfl, Below.refl _ _⟩

set_option maxHeartbeats 2000000 in
theorem text_18 (b : ByteArray) (hs : b.size ≤ 4294967280) (h1 : 2 ≤ b.size) (w : World) : Calls Tryz.prog 87 #[.int .i64 18, .string b] w fun e w' => e = .returned (.string (txt 18 b)) ∧ Below w.heap.size w w' := by
  have hv : txt 18 b = b.extract 2 b.size := by unfold txt; simp
  rw [hv]
  clear hv
  have hsl : ∀ wx : World, (Instr.slice 9 (.string b) (some (.int .i64 2)) none none).run Tryz.prog wx = .ok (.string (b.extract 2 b.size)) wx := fun wx => by
    have h := run_slice_string_l (P := Tryz.prog) (t := 9) (s := b) (w := wx) Tryz.underlying9 .i64 2 (by omega) (by omega)
    exact h
  go_enter Tryz.func87, Tryz.ntmps87
  go_wp2
  go_ret
  exact ⟨rfl, Below.refl _ _⟩

set_option maxHeartbeats 2000000 in
theorem text_19 (b : ByteArray) (hs : b.size ≤ 4294967280) (w : World) : Calls Tryz.prog 87 #[.int .i64 19, .string b] w fun e w' => e = .returned (.string (txt 19 b)) ∧ Below w.heap.size w w' := by
  have hv : txt 19 b = b := by unfold txt; simp
  rw [hv]
  clear hv
  go_enter Tryz.func87, Tryz.ntmps87
  go_wp2
  go_ret
  exact ⟨rfl, Below.refl _ _⟩

set_option maxHeartbeats 2000000 in
theorem text_20 (b : ByteArray) (hs : b.size ≤ 4294967280) (h1 : 2 ≤ b.size) (w : World) : Calls Tryz.prog 87 #[.int .i64 20, .string b] w fun e w' => e = .returned (.string (txt 20 b)) ∧ Below w.heap.size w w' := by
  have hv : txt 20 b = b.extract 2 b.size := by unfold txt; simp
  rw [hv]
  clear hv
  have hsl : ∀ wx : World, (Instr.slice 9 (.string b) (some (.int .i64 2)) none none).run Tryz.prog wx = .ok (.string (b.extract 2 b.size)) wx := fun wx => by
    have h := run_slice_string_l (P := Tryz.prog) (t := 9) (s := b) (w := wx) Tryz.underlying9 .i64 2 (by omega) (by omega)
    exact h
  go_enter Tryz.func87, Tryz.ntmps87
  go_wp2
  go_ret
  exact ⟨rfl, Below.refl _ _⟩

set_option maxHeartbeats 2000000 in
theorem text_21 (b : ByteArray) (hs : b.size ≤ 4294967280) (w : World) : Calls Tryz.prog 87 #[.int .i64 21, .string b] w fun e w' => e = .returned (.string (txt 21 b)) ∧ Below w.heap.size w w' := by
  have hv : txt 21 b = b := by unfold txt; simp
  rw [hv]
  clear hv
  go_enter Tryz.func87, Tryz.ntmps87
  go_wp2
  go_ret
  exact ⟨rfl, Below.refl _ _⟩

set_option maxHeartbeats 2000000 in
theorem text_22 (b : ByteArray) (hs : b.size ≤ 4294967280) (h1 : 2 ≤ b.size) (w : World) (hM : MaxL w) : Calls Tryz.prog 87 #[.int .i64 22, .string b] w fun e w' => e = .returned (.string (txt 22 b)) ∧ Below w.heap.size w w' := by
  have hv : txt 22 b = unq (b.extract 1 (b.size - 1)) := by unfold txt; simp
  rw [hv]
  clear hv
  have hw : wrap64 ((b.size : Int) - 1) = ((b.size - 1 : Nat) : Int) := by
    have e : ((b.size : Int) - 1) = ((b.size - 1 : Nat) : Int) := by omega
    rw [e]; unfold wrap64; omega
  have H := hideT (replaceAll_is (b.extract 1 (b.size - 1)) (by simp only [ByteArray.size_extract]; omega) w hM)
  clear hM
  go_enter Tryz.func87, Tryz.ntmps87
  go_wp2_with fail
  refine H.out.mono ?_
  rintro e w1 ⟨rfl, b1⟩
  go_wp2
  go_ret
  exact ⟨rfl, b1⟩

theorem text_is (st : Nat) (b : ByteArray) (h1 : 3 ≤ st) (h2 : st ≤ 22) (hl : longEnough st b) (hs : b.size ≤ 4294967280) (w : World) (hM : MaxL w) : Calls Tryz.prog 87 #[.int .i64 st, .string b] w fun e w' => e = .returned (.string (txt st b)) ∧ Below w.heap.size w w' := by
  rcases (show st = 3 ∨ st = 4 ∨ st = 5 ∨ st = 6 ∨ st = 7 ∨ st = 8 ∨ st = 9 ∨ st = 10 ∨ st = 11 ∨ st = 12 ∨ st = 13 ∨ st = 14 ∨ st = 15 ∨ st = 16 ∨ st = 17 ∨ st = 18 ∨ st = 19 ∨ st = 20 ∨ st = 21 ∨ st = 22 by omega) with rfl | rfl | rfl | rfl | rfl | rfl | rfl | rfl | rfl | rfl | rfl | rfl | rfl | rfl | rfl | rfl | rfl | rfl | rfl | rfl
  · exact text_3 b hs w
  · exact text_4 b hs w
  · exact text_5 b hs w
  · exact text_6 b hs w
  · exact text_7 b hs w
  · exact text_8 b hs w
  · exact text_9 b hs (hl.2 (by decide)) w
  · exact text_10 b hs w
  · exact text_11 b hs (hl.1 rfl) w
  · exact text_12 b hs w
  · exact text_13 b hs w
  · exact text_14 b hs w
  · exact text_15 b hs w
  · exact text_16 b hs w
  · exact text_17 b hs w
  · exact text_18 b hs (hl.2 (by decide)) w
  · exact text_19 b hs w
  · exact text_20 b hs (hl.2 (by decide)) w
  · exact text_21 b hs w
  · exact text_22 b hs (hl.2 (by decide)) w hM
end Go.Proofs.YtpfmamimhhnbiaaGreatDoor
