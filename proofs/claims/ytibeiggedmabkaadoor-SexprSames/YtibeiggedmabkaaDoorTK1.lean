/-
  The program's and the reference's questions of one character, of one byte.
-/
import Derived.Test.YtibeiggedmabkaaDoorTK0
import Derived.Lib.Bytealg
namespace Go.Proofs.YtibeiggedmabkaaDoor
open Go.RowKit
set_option linter.unusedVariables false
set_option linter.unusedSimpArgs false

set_option maxRecDepth 100000 in
set_option maxHeartbeats 1000000 in
theorem isDigit_is (r : Nat) (w : World) : Calls Tryd.prog 58 #[.int .i32 r] w fun e w' => e = .returned (.bool (dgN r)) ∧ w' = w := by
  by_cases h0 : (48 : Int) ≤ (r : Int)
  · skip
    by_cases h1 : (r : Int) ≤ (57 : Int)
    · skip
      have hv : dgN r = true := by
        unfold dgN; simp [h0, h1] <;> omega
      rw [hv]
      go_enter Tryd.func58, Tryd.ntmps58
      go_wp2
      all_goals go_ret
      all_goals refine ⟨?_, rfl⟩
      all_goals first | rfl | (simp <;> omega)
    · skip
      have hv : dgN r = false := by
        unfold dgN; simp [h0, h1] <;> omega
      rw [hv]
      go_enter Tryd.func58, Tryd.ntmps58
      go_wp2
      all_goals go_ret
      all_goals refine ⟨?_, rfl⟩
      all_goals first | rfl | (simp <;> omega)
  · skip
    have hv : dgN r = false := by
      unfold dgN; simp [h0] <;> omega
    rw [hv]
    go_enter Tryd.func58, Tryd.ntmps58
    go_wp2
    all_goals go_ret
    all_goals refine ⟨?_, rfl⟩
    all_goals first | rfl | (simp <;> omega)

set_option maxRecDepth 100000 in
set_option maxHeartbeats 1000000 in
theorem digit_is (r : Nat) (w : World) : Calls Tryd.prog 67 #[.int .u8 r] w fun e w' => e = .returned (.bool (dgN r)) ∧ w' = w := by
  by_cases h0 : (48 : Int) ≤ (r : Int)
  · skip
    by_cases h1 : (r : Int) ≤ (57 : Int)
    · skip
      have hv : dgN r = true := by
        unfold dgN; simp [h0, h1] <;> omega
      rw [hv]
      go_enter Tryd.func67, Tryd.ntmps67
      go_wp2
      all_goals go_ret
      all_goals refine ⟨?_, rfl⟩
      all_goals first | rfl | (simp <;> omega)
    · skip
      have hv : dgN r = false := by
        unfold dgN; simp [h0, h1] <;> omega
      rw [hv]
      go_enter Tryd.func67, Tryd.ntmps67
      go_wp2
      all_goals go_ret
      all_goals refine ⟨?_, rfl⟩
      all_goals first | rfl | (simp <;> omega)
  · skip
    have hv : dgN r = false := by
      unfold dgN; simp [h0] <;> omega
    rw [hv]
    go_enter Tryd.func67, Tryd.ntmps67
    go_wp2
    all_goals go_ret
    all_goals refine ⟨?_, rfl⟩
    all_goals first | rfl | (simp <;> omega)

set_option maxRecDepth 100000 in
set_option maxHeartbeats 1000000 in
theorem isBlank_is (r : Nat) (w : World) : Calls Tryd.prog 73 #[.int .i32 r] w fun e w' => e = .returned (.bool (blN r)) ∧ w' = w := by
  by_cases h0 : r = 9
  · have x0 : ((r : Int) == 9) = true := by rw [beq_iff_eq]; omega
    have hv : blN r = true := by
      unfold blN; simp [h0] <;> omega
    rw [hv]
    clear hv h0
    go_enter Tryd.func73, Tryd.ntmps73
    go_wp2
    all_goals go_ret
    all_goals refine ⟨?_, rfl⟩
    all_goals first | rfl | (simp <;> omega)
  · have x0 : ((r : Int) == 9) = false := by rw [beq_eq_false_iff_ne]; omega
    by_cases h1 : r = 10
    · have x1 : ((r : Int) == 10) = true := by rw [beq_iff_eq]; omega
      have hv : blN r = true := by
        unfold blN; simp [h0, h1] <;> omega
      rw [hv]
      clear hv h0 h1
      go_enter Tryd.func73, Tryd.ntmps73
      go_wp2
      all_goals go_ret
      all_goals refine ⟨?_, rfl⟩
      all_goals first | rfl | (simp <;> omega)
    · have x1 : ((r : Int) == 10) = false := by rw [beq_eq_false_iff_ne]; omega
      by_cases h2 : r = 13
      · have x2 : ((r : Int) == 13) = true := by rw [beq_iff_eq]; omega
        have hv : blN r = true := by
          unfold blN; simp [h0, h1, h2] <;> omega
        rw [hv]
        clear hv h0 h1 h2
        go_enter Tryd.func73, Tryd.ntmps73
        go_wp2
        all_goals go_ret
        all_goals refine ⟨?_, rfl⟩
        all_goals first | rfl | (simp <;> omega)
      · have x2 : ((r : Int) == 13) = false := by rw [beq_eq_false_iff_ne]; omega
        by_cases h3 : r = 32
        · have x3 : ((r : Int) == 32) = true := by rw [beq_iff_eq]; omega
          have hv : blN r = true := by
            unfold blN; simp [h0, h1, h2, h3] <;> omega
          rw [hv]
          clear hv h0 h1 h2 h3
          go_enter Tryd.func73, Tryd.ntmps73
          go_wp2
          all_goals go_ret
          all_goals refine ⟨?_, rfl⟩
          all_goals first | rfl | (simp <;> omega)
        · have x3 : ((r : Int) == 32) = false := by rw [beq_eq_false_iff_ne]; omega
          have hv : blN r = false := by
            unfold blN; simp [h0, h1, h2, h3] <;> omega
          rw [hv]
          clear hv h0 h1 h2 h3
          go_enter Tryd.func73, Tryd.ntmps73
          go_wp2
          all_goals go_ret
          all_goals refine ⟨?_, rfl⟩
          all_goals first | rfl | (simp <;> omega)

set_option maxRecDepth 100000 in
set_option maxHeartbeats 1000000 in
theorem blank_is (r : Nat) (w : World) : Calls Tryd.prog 62 #[.int .u8 r] w fun e w' => e = .returned (.bool (blN r)) ∧ w' = w := by
  by_cases h0 : r = 9
  · have x0 : ((r : Int) == 9) = true := by rw [beq_iff_eq]; omega
    have hv : blN r = true := by
      unfold blN; simp [h0] <;> omega
    rw [hv]
    clear hv h0
    go_enter Tryd.func62, Tryd.ntmps62
    go_wp2
    all_goals go_ret
    all_goals refine ⟨?_, rfl⟩
    all_goals first | rfl | (simp <;> omega)
  · have x0 : ((r : Int) == 9) = false := by rw [beq_eq_false_iff_ne]; omega
    by_cases h1 : r = 10
    · have x1 : ((r : Int) == 10) = true := by rw [beq_iff_eq]; omega
      have hv : blN r = true := by
        unfold blN; simp [h0, h1] <;> omega
      rw [hv]
      clear hv h0 h1
      go_enter Tryd.func62, Tryd.ntmps62
      go_wp2
      all_goals go_ret
      all_goals refine ⟨?_, rfl⟩
      all_goals first | rfl | (simp <;> omega)
    · have x1 : ((r : Int) == 10) = false := by rw [beq_eq_false_iff_ne]; omega
      by_cases h2 : r = 13
      · have x2 : ((r : Int) == 13) = true := by rw [beq_iff_eq]; omega
        have hv : blN r = true := by
          unfold blN; simp [h0, h1, h2] <;> omega
        rw [hv]
        clear hv h0 h1 h2
        go_enter Tryd.func62, Tryd.ntmps62
        go_wp2
        all_goals go_ret
        all_goals refine ⟨?_, rfl⟩
        all_goals first | rfl | (simp <;> omega)
      · have x2 : ((r : Int) == 13) = false := by rw [beq_eq_false_iff_ne]; omega
        by_cases h3 : r = 32
        · have x3 : ((r : Int) == 32) = true := by rw [beq_iff_eq]; omega
          have hv : blN r = true := by
            unfold blN; simp [h0, h1, h2, h3] <;> omega
          rw [hv]
          clear hv h0 h1 h2 h3
          go_enter Tryd.func62, Tryd.ntmps62
          go_wp2
          all_goals go_ret
          all_goals refine ⟨?_, rfl⟩
          all_goals first | rfl | (simp <;> omega)
        · have x3 : ((r : Int) == 32) = false := by rw [beq_eq_false_iff_ne]; omega
          have hv : blN r = false := by
            unfold blN; simp [h0, h1, h2, h3] <;> omega
          rw [hv]
          clear hv h0 h1 h2 h3
          go_enter Tryd.func62, Tryd.ntmps62
          go_wp2
          all_goals go_ret
          all_goals refine ⟨?_, rfl⟩
          all_goals first | rfl | (simp <;> omega)

set_option maxRecDepth 100000 in
set_option maxHeartbeats 1000000 in
theorem letter_is (r : Nat) (w : World) : Calls Tryd.prog 82 #[.int .u8 r] w fun e w' => e = .returned (.bool (ltN r)) ∧ w' = w := by
  by_cases h0 : (97 : Int) ≤ (r : Int)
  · skip
    by_cases h1 : (r : Int) ≤ (122 : Int)
    · skip
      have hv : ltN r = true := by
        unfold ltN; simp [h0, h1] <;> omega
      rw [hv]
      go_enter Tryd.func82, Tryd.ntmps82
      go_wp2
      all_goals go_ret
      all_goals refine ⟨?_, rfl⟩
      all_goals first | rfl | (simp <;> omega)
    · skip
      by_cases h2 : (65 : Int) ≤ (r : Int)
      · skip
        by_cases h3 : (r : Int) ≤ (90 : Int)
        · skip
          have hv : ltN r = true := by
            unfold ltN; simp [h0, h1, h2, h3] <;> omega
          rw [hv]
          go_enter Tryd.func82, Tryd.ntmps82
          go_wp2
          all_goals go_ret
          all_goals refine ⟨?_, rfl⟩
          all_goals first | rfl | (simp <;> omega)
        · skip
          have hv : ltN r = false := by
            unfold ltN; simp [h0, h1, h2, h3] <;> omega
          rw [hv]
          go_enter Tryd.func82, Tryd.ntmps82
          go_wp2
          all_goals go_ret
          all_goals refine ⟨?_, rfl⟩
          all_goals first | rfl | (simp <;> omega)
      · skip
        have hv : ltN r = false := by
          unfold ltN; simp [h0, h1, h2] <;> omega
        rw [hv]
        go_enter Tryd.func82, Tryd.ntmps82
        go_wp2
        all_goals go_ret
        all_goals refine ⟨?_, rfl⟩
        all_goals first | rfl | (simp <;> omega)
  · skip
    by_cases h1 : (65 : Int) ≤ (r : Int)
    · skip
      by_cases h2 : (r : Int) ≤ (90 : Int)
      · skip
        have hv : ltN r = true := by
          unfold ltN; simp [h0, h1, h2] <;> omega
        rw [hv]
        go_enter Tryd.func82, Tryd.ntmps82
        go_wp2
        all_goals go_ret
        all_goals refine ⟨?_, rfl⟩
        all_goals first | rfl | (simp <;> omega)
      · skip
        have hv : ltN r = false := by
          unfold ltN; simp [h0, h1, h2] <;> omega
        rw [hv]
        go_enter Tryd.func82, Tryd.ntmps82
        go_wp2
        all_goals go_ret
        all_goals refine ⟨?_, rfl⟩
        all_goals first | rfl | (simp <;> omega)
    · skip
      have hv : ltN r = false := by
        unfold ltN; simp [h0, h1] <;> omega
      rw [hv]
      go_enter Tryd.func82, Tryd.ntmps82
      go_wp2
      all_goals go_ret
      all_goals refine ⟨?_, rfl⟩
      all_goals first | rfl | (simp <;> omega)

set_option maxRecDepth 100000 in
set_option maxHeartbeats 1000000 in
theorem mayNotBeQuoted_is (r : Nat) (w : World) : Calls Tryd.prog 76 #[.int .i32 r] w fun e w' => e = .returned (.bool (nqN r)) ∧ w' = w := by
  by_cases h0 : (r : Int) < (32 : Int)
  · skip
    cases h1 : blN r
    · have H1 := fun w' => isBlank_is r w'
      rw [h1] at H1
      have hv : nqN r = true := by
        unfold nqN; simp [h0, h1] <;> omega
      rw [hv]
      clear hv h1
      go_enter Tryd.func76, Tryd.ntmps76
      go_wp2_with (first | (go_at_call 73; refine (H1 _).mono ?_; rintro e w' ⟨rfl, hw⟩; rw [hw]; clear hw w'))
      all_goals go_ret
      all_goals refine ⟨?_, rfl⟩
      all_goals first | rfl | (simp <;> omega)
    · have H1 := fun w' => isBlank_is r w'
      rw [h1] at H1
      by_cases h2 : r = 127
      · have x2 : ((r : Int) == 127) = true := by rw [beq_iff_eq]; omega
        have hv : nqN r = true := by
          unfold nqN; simp [h0, h1, h2] <;> omega
        rw [hv]
        clear hv h1 h2
        go_enter Tryd.func76, Tryd.ntmps76
        go_wp2_with (first | (go_at_call 73; refine (H1 _).mono ?_; rintro e w' ⟨rfl, hw⟩; rw [hw]; clear hw w'))
        all_goals go_ret
        all_goals refine ⟨?_, rfl⟩
        all_goals first | rfl | (simp <;> omega)
      · have x2 : ((r : Int) == 127) = false := by rw [beq_eq_false_iff_ne]; omega
        have hv : nqN r = false := by
          unfold nqN; simp [h0, h1, h2] <;> omega
        rw [hv]
        clear hv h1 h2
        go_enter Tryd.func76, Tryd.ntmps76
        go_wp2_with (first | (go_at_call 73; refine (H1 _).mono ?_; rintro e w' ⟨rfl, hw⟩; rw [hw]; clear hw w'))
        all_goals go_ret
        all_goals refine ⟨?_, rfl⟩
        all_goals first | rfl | (simp <;> omega)
  · skip
    by_cases h1 : r = 127
    · have x1 : ((r : Int) == 127) = true := by rw [beq_iff_eq]; omega
      have hv : nqN r = true := by
        unfold nqN; simp [h0, h1] <;> omega
      rw [hv]
      clear hv h1
      go_enter Tryd.func76, Tryd.ntmps76
      go_wp2
      all_goals go_ret
      all_goals refine ⟨?_, rfl⟩
      all_goals first | rfl | (simp <;> omega)
    · have x1 : ((r : Int) == 127) = false := by rw [beq_eq_false_iff_ne]; omega
      have hv : nqN r = false := by
        unfold nqN; simp [h0, h1] <;> omega
      rw [hv]
      clear hv h1
      go_enter Tryd.func76, Tryd.ntmps76
      go_wp2
      all_goals go_ret
      all_goals refine ⟨?_, rfl⟩
      all_goals first | rfl | (simp <;> omega)

set_option maxRecDepth 100000 in
set_option maxHeartbeats 1000000 in
theorem mayNotBeBarred_is (r : Nat) (w : World) : Calls Tryd.prog 75 #[.int .i32 r] w fun e w' => e = .returned (.bool (nbN r)) ∧ w' = w := by
  cases h0 : nqN r
  · have H0 := fun w' => mayNotBeQuoted_is r w'
    rw [h0] at H0
    by_cases h1 : r = 124
    · have x1 : ((r : Int) == 124) = true := by rw [beq_iff_eq]; omega
      have hv : nbN r = true := by
        unfold nbN; simp [h0, h1] <;> omega
      rw [hv]
      clear hv h0 h1
      go_enter Tryd.func75, Tryd.ntmps75
      go_wp2_with (first | (go_at_call 76; refine (H0 _).mono ?_; rintro e w' ⟨rfl, hw⟩; rw [hw]; clear hw w'))
      all_goals go_ret
      all_goals refine ⟨?_, rfl⟩
      all_goals first | rfl | (simp <;> omega)
    · have x1 : ((r : Int) == 124) = false := by rw [beq_eq_false_iff_ne]; omega
      by_cases h2 : r = 92
      · have x2 : ((r : Int) == 92) = true := by rw [beq_iff_eq]; omega
        have hv : nbN r = true := by
          unfold nbN; simp [h0, h1, h2] <;> omega
        rw [hv]
        clear hv h0 h1 h2
        go_enter Tryd.func75, Tryd.ntmps75
        go_wp2_with (first | (go_at_call 76; refine (H0 _).mono ?_; rintro e w' ⟨rfl, hw⟩; rw [hw]; clear hw w'))
        all_goals go_ret
        all_goals refine ⟨?_, rfl⟩
        all_goals first | rfl | (simp <;> omega)
      · have x2 : ((r : Int) == 92) = false := by rw [beq_eq_false_iff_ne]; omega
        have hv : nbN r = false := by
          unfold nbN; simp [h0, h1, h2] <;> omega
        rw [hv]
        clear hv h0 h1 h2
        go_enter Tryd.func75, Tryd.ntmps75
        go_wp2_with (first | (go_at_call 76; refine (H0 _).mono ?_; rintro e w' ⟨rfl, hw⟩; rw [hw]; clear hw w'))
        all_goals go_ret
        all_goals refine ⟨?_, rfl⟩
        all_goals first | rfl | (simp <;> omega)
  · have H0 := fun w' => mayNotBeQuoted_is r w'
    rw [h0] at H0
    have hv : nbN r = true := by
      unfold nbN; simp [h0] <;> omega
    rw [hv]
    clear hv h0
    go_enter Tryd.func75, Tryd.ntmps75
    go_wp2_with (first | (go_at_call 76; refine (H0 _).mono ?_; rintro e w' ⟨rfl, hw⟩; rw [hw]; clear hw w'))
    all_goals go_ret
    all_goals refine ⟨?_, rfl⟩
    all_goals first | rfl | (simp <;> omega)

/-- it may be quoted -/
def quN (r : Nat) : Bool := blN r || decide (32 < r) && decide (r < 127) || decide (128 ≤ r)

set_option maxRecDepth 100000 in
set_option maxHeartbeats 1000000 in
theorem quotable_is (r : Nat) (w : World) : Calls Tryd.prog 80 #[.int .u8 r] w fun e w' => e = .returned (.bool (quN r)) ∧ w' = w := by
  cases h0 : blN r
  · have H0 := fun w' => blank_is r w'
    rw [h0] at H0
    by_cases h1 : (32 : Int) < (r : Int)
    · skip
      by_cases h2 : (r : Int) < (127 : Int)
      · skip
        have hv : quN r = true := by
          unfold quN; simp [h0, h1, h2] <;> omega
        rw [hv]
        clear hv h0
        go_enter Tryd.func80, Tryd.ntmps80
        go_wp2_with (first | (go_at_call 62; refine (H0 _).mono ?_; rintro e w' ⟨rfl, hw⟩; rw [hw]; clear hw w'))
        all_goals go_ret
        all_goals refine ⟨?_, rfl⟩
        all_goals first | rfl | (simp <;> omega)
      · skip
        by_cases h3 : (128 : Int) ≤ (r : Int)
        · skip
          have hv : quN r = true := by
            unfold quN; simp [h0, h1, h2, h3] <;> omega
          rw [hv]
          clear hv h0
          go_enter Tryd.func80, Tryd.ntmps80
          go_wp2_with (first | (go_at_call 62; refine (H0 _).mono ?_; rintro e w' ⟨rfl, hw⟩; rw [hw]; clear hw w'))
          all_goals go_ret
          all_goals refine ⟨?_, rfl⟩
          all_goals first | rfl | (simp <;> omega)
        · skip
          have hv : quN r = false := by
            unfold quN; simp [h0, h1, h2, h3] <;> omega
          rw [hv]
          clear hv h0
          go_enter Tryd.func80, Tryd.ntmps80
          go_wp2_with (first | (go_at_call 62; refine (H0 _).mono ?_; rintro e w' ⟨rfl, hw⟩; rw [hw]; clear hw w'))
          all_goals go_ret
          all_goals refine ⟨?_, rfl⟩
          all_goals first | rfl | (simp <;> omega)
    · skip
      by_cases h2 : (128 : Int) ≤ (r : Int)
      · skip
        have hv : quN r = true := by
          unfold quN; simp [h0, h1, h2] <;> omega
        rw [hv]
        clear hv h0
        go_enter Tryd.func80, Tryd.ntmps80
        go_wp2_with (first | (go_at_call 62; refine (H0 _).mono ?_; rintro e w' ⟨rfl, hw⟩; rw [hw]; clear hw w'))
        all_goals go_ret
        all_goals refine ⟨?_, rfl⟩
        all_goals first | rfl | (simp <;> omega)
      · skip
        have hv : quN r = false := by
          unfold quN; simp [h0, h1, h2] <;> omega
        rw [hv]
        clear hv h0
        go_enter Tryd.func80, Tryd.ntmps80
        go_wp2_with (first | (go_at_call 62; refine (H0 _).mono ?_; rintro e w' ⟨rfl, hw⟩; rw [hw]; clear hw w'))
        all_goals go_ret
        all_goals refine ⟨?_, rfl⟩
        all_goals first | rfl | (simp <;> omega)
  · have H0 := fun w' => blank_is r w'
    rw [h0] at H0
    have hv : quN r = true := by
      unfold quN; simp [h0] <;> omega
    rw [hv]
    clear hv h0
    go_enter Tryd.func80, Tryd.ntmps80
    go_wp2_with (first | (go_at_call 62; refine (H0 _).mono ?_; rintro e w' ⟨rfl, hw⟩; rw [hw]; clear hw w'))
    all_goals go_ret
    all_goals refine ⟨?_, rfl⟩
    all_goals first | rfl | (simp <;> omega)

theorem quN_not (r : Nat) : quN r = !nqN r := by
  rw [Bool.eq_iff_iff]
  unfold quN nqN blN
  simp
  omega
end Go.Proofs.YtibeiggedmabkaaDoor
