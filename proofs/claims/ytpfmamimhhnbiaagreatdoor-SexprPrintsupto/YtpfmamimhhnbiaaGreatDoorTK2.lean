/-
  The seventeen signs, asked for by the program (strings.ContainsRune) and by the reference (a loop); symbol bytes.
-/
import Derived.Test.YtpfmamimhhnbiaaGreatDoorTK0
import Derived.Lib.Bytealg
import Derived.BigQuiet
import Derived.Deep.QuietTactic
import Derived.Lib.IndexLaws
namespace Go.Proofs.YtpfmamimhhnbiaaGreatDoor
open Go.RowKit
set_option linter.unusedVariables false
set_option linter.unusedSimpArgs false

set_option maxRecDepth 100000 in
set_option maxHeartbeats 1000000 in
theorem isDigit_is (r : Nat) (w : World) : Calls Tryz.prog 79 #[.int .i32 r] w fun e w' => e = .returned (.bool (dgN r)) ∧ w' = w := by
  by_cases h0 : (48 : Int) ≤ (r : Int)
  · skip
    by_cases h1 : (r : Int) ≤ (57 : Int)
    · skip
      have hv : dgN r = true := by
        unfold dgN; simp [h0, h1] <;> omega
      rw [hv]
      go_enter Tryz.func79, Tryz.ntmps79
      go_wp2
      all_goals go_ret
      all_goals refine ⟨?_, rfl⟩
      all_goals first | rfl | (simp <;> omega)
    · skip
      have hv : dgN r = false := by
        unfold dgN; simp [h0, h1] <;> omega
      rw [hv]
      go_enter Tryz.func79, Tryz.ntmps79
      go_wp2
      all_goals go_ret
      all_goals refine ⟨?_, rfl⟩
      all_goals first | rfl | (simp <;> omega)
  · skip
    have hv : dgN r = false := by
      unfold dgN; simp [h0] <;> omega
    rw [hv]
    go_enter Tryz.func79, Tryz.ntmps79
    go_wp2
    all_goals go_ret
    all_goals refine ⟨?_, rfl⟩
    all_goals first | rfl | (simp <;> omega)

set_option maxRecDepth 100000 in
set_option maxHeartbeats 1000000 in
theorem digit_is (r : Nat) (w : World) : Calls Tryz.prog 65 #[.int .u8 r] w fun e w' => e = .returned (.bool (dgN r)) ∧ w' = w := by
  by_cases h0 : (48 : Int) ≤ (r : Int)
  · skip
    by_cases h1 : (r : Int) ≤ (57 : Int)
    · skip
      have hv : dgN r = true := by
        unfold dgN; simp [h0, h1] <;> omega
      rw [hv]
      go_enter Tryz.func65, Tryz.ntmps65
      go_wp2
      all_goals go_ret
      all_goals refine ⟨?_, rfl⟩
      all_goals first | rfl | (simp <;> omega)
    · skip
      have hv : dgN r = false := by
        unfold dgN; simp [h0, h1] <;> omega
      rw [hv]
      go_enter Tryz.func65, Tryz.ntmps65
      go_wp2
      all_goals go_ret
      all_goals refine ⟨?_, rfl⟩
      all_goals first | rfl | (simp <;> omega)
  · skip
    have hv : dgN r = false := by
      unfold dgN; simp [h0] <;> omega
    rw [hv]
    go_enter Tryz.func65, Tryz.ntmps65
    go_wp2
    all_goals go_ret
    all_goals refine ⟨?_, rfl⟩
    all_goals first | rfl | (simp <;> omega)

set_option maxRecDepth 100000 in
set_option maxHeartbeats 1000000 in
theorem isBlank_is (r : Nat) (w : World) : Calls Tryz.prog 94 #[.int .i32 r] w fun e w' => e = .returned (.bool (blN r)) ∧ w' = w := by
  by_cases h0 : r = 9
  · have x0 : ((r : Int) == 9) = true := by rw [beq_iff_eq]; omega
    have hv : blN r = true := by
      unfold blN; simp [h0] <;> omega
    rw [hv]
    clear hv h0
    go_enter Tryz.func94, Tryz.ntmps94
    go_wp2
    all_goals go_ret
    all_goals refine ⟨?_, rfl⟩
    all_goals first | rfl | (simp <;> omega)
  · have x0 : ((r : Int) == 9) = false := by rw [beq_eq_false_iff_ne]; omega
    by_cases h1 : r = 10
    · have x1 : ((r : Int) == 10) = true := by rw [beq_iff_eq]; omega
      have hv : blN r = true := by
        unfold blN; simp [h0, h1] <;> omega
      rw [hv]
      clear hv h0 h1
      go_enter Tryz.func94, Tryz.ntmps94
      go_wp2
      all_goals go_ret
      all_goals refine ⟨?_, rfl⟩
      all_goals first | rfl | (simp <;> omega)
    · have x1 : ((r : Int) == 10) = false := by rw [beq_eq_false_iff_ne]; omega
      by_cases h2 : r = 13
      · have x2 : ((r : Int) == 13) = true := by rw [beq_iff_eq]; omega
        have hv : blN r = true := by
          unfold blN; simp [h0, h1, h2] <;> omega
        rw [hv]
        clear hv h0 h1 h2
        go_enter Tryz.func94, Tryz.ntmps94
        go_wp2
        all_goals go_ret
        all_goals refine ⟨?_, rfl⟩
        all_goals first | rfl | (simp <;> omega)
      · have x2 : ((r : Int) == 13) = false := by rw [beq_eq_false_iff_ne]; omega
        by_cases h3 : r = 32
        · have x3 : ((r : Int) == 32) = true := by rw [beq_iff_eq]; omega
          have hv : blN r = true := by
            unfold blN; simp [h0, h1, h2, h3] <;> omega
          rw [hv]
          clear hv h0 h1 h2 h3
          go_enter Tryz.func94, Tryz.ntmps94
          go_wp2
          all_goals go_ret
          all_goals refine ⟨?_, rfl⟩
          all_goals first | rfl | (simp <;> omega)
        · have x3 : ((r : Int) == 32) = false := by rw [beq_eq_false_iff_ne]; omega
          have hv : blN r = false := by
            unfold blN; simp [h0, h1, h2, h3] <;> omega
          rw [hv]
          clear hv h0 h1 h2 h3
          go_enter Tryz.func94, Tryz.ntmps94
          go_wp2
          all_goals go_ret
          all_goals refine ⟨?_, rfl⟩
          all_goals first | rfl | (simp <;> omega)

set_option maxRecDepth 100000 in
set_option maxHeartbeats 1000000 in
theorem blank_is (r : Nat) (w : World) : Calls Tryz.prog 66 #[.int .u8 r] w fun e w' => e = .returned (.bool (blN r)) ∧ w' = w := by
  by_cases h0 : r = 9
  · have x0 : ((r : Int) == 9) = true := by rw [beq_iff_eq]; omega
    have hv : blN r = true := by
      unfold blN; simp [h0] <;> omega
    rw [hv]
    clear hv h0
    go_enter Tryz.func66, Tryz.ntmps66
    go_wp2
    all_goals go_ret
    all_goals refine ⟨?_, rfl⟩
    all_goals first | rfl | (simp <;> omega)
  · have x0 : ((r : Int) == 9) = false := by rw [beq_eq_false_iff_ne]; omega
    by_cases h1 : r = 10
    · have x1 : ((r : Int) == 10) = true := by rw [beq_iff_eq]; omega
      have hv : blN r = true := by
        unfold blN; simp [h0, h1] <;> omega
      rw [hv]
      clear hv h0 h1
      go_enter Tryz.func66, Tryz.ntmps66
      go_wp2
      all_goals go_ret
      all_goals refine ⟨?_, rfl⟩
      all_goals first | rfl | (simp <;> omega)
    · have x1 : ((r : Int) == 10) = false := by rw [beq_eq_false_iff_ne]; omega
      by_cases h2 : r = 13
      · have x2 : ((r : Int) == 13) = true := by rw [beq_iff_eq]; omega
        have hv : blN r = true := by
          unfold blN; simp [h0, h1, h2] <;> omega
        rw [hv]
        clear hv h0 h1 h2
        go_enter Tryz.func66, Tryz.ntmps66
        go_wp2
        all_goals go_ret
        all_goals refine ⟨?_, rfl⟩
        all_goals first | rfl | (simp <;> omega)
      · have x2 : ((r : Int) == 13) = false := by rw [beq_eq_false_iff_ne]; omega
        by_cases h3 : r = 32
        · have x3 : ((r : Int) == 32) = true := by rw [beq_iff_eq]; omega
          have hv : blN r = true := by
            unfold blN; simp [h0, h1, h2, h3] <;> omega
          rw [hv]
          clear hv h0 h1 h2 h3
          go_enter Tryz.func66, Tryz.ntmps66
          go_wp2
          all_goals go_ret
          all_goals refine ⟨?_, rfl⟩
          all_goals first | rfl | (simp <;> omega)
        · have x3 : ((r : Int) == 32) = false := by rw [beq_eq_false_iff_ne]; omega
          have hv : blN r = false := by
            unfold blN; simp [h0, h1, h2, h3] <;> omega
          rw [hv]
          clear hv h0 h1 h2 h3
          go_enter Tryz.func66, Tryz.ntmps66
          go_wp2
          all_goals go_ret
          all_goals refine ⟨?_, rfl⟩
          all_goals first | rfl | (simp <;> omega)

set_option maxRecDepth 100000 in
set_option maxHeartbeats 1000000 in
theorem letter_is (r : Nat) (w : World) : Calls Tryz.prog 88 #[.int .u8 r] w fun e w' => e = .returned (.bool (ltN r)) ∧ w' = w := by
  by_cases h0 : (97 : Int) ≤ (r : Int)
  · skip
    by_cases h1 : (r : Int) ≤ (122 : Int)
    · skip
      have hv : ltN r = true := by
        unfold ltN; simp [h0, h1] <;> omega
      rw [hv]
      go_enter Tryz.func88, Tryz.ntmps88
      go_wp2
      all_goals go_ret
      all_goals refine ⟨?_, rfl⟩
      all_goals first | rfl | (simp <;> omega)
    · skip
      by_cases h2 : (65 : Int) ≤ (r : Int)
      · skip
        by_cases h3 : (r : Int) ≤ (90 : Int)
        · skip
          have hv : ltN r = true := by
            unfold ltN; simp [h0, h1, h2, h3] <;> omega
          rw [hv]
          go_enter Tryz.func88, Tryz.ntmps88
          go_wp2
          all_goals go_ret
          all_goals refine ⟨?_, rfl⟩
          all_goals first | rfl | (simp <;> omega)
        · skip
          have hv : ltN r = false := by
            unfold ltN; simp [h0, h1, h2, h3] <;> omega
          rw [hv]
          go_enter Tryz.func88, Tryz.ntmps88
          go_wp2
          all_goals go_ret
          all_goals refine ⟨?_, rfl⟩
          all_goals first | rfl | (simp <;> omega)
      · skip
        have hv : ltN r = false := by
          unfold ltN; simp [h0, h1, h2] <;> omega
        rw [hv]
        go_enter Tryz.func88, Tryz.ntmps88
        go_wp2
        all_goals go_ret
        all_goals refine ⟨?_, rfl⟩
        all_goals first | rfl | (simp <;> omega)
  · skip
    by_cases h1 : (65 : Int) ≤ (r : Int)
    · skip
      by_cases h2 : (r : Int) ≤ (90 : Int)
      · skip
        have hv : ltN r = true := by
          unfold ltN; simp [h0, h1, h2] <;> omega
        rw [hv]
        go_enter Tryz.func88, Tryz.ntmps88
        go_wp2
        all_goals go_ret
        all_goals refine ⟨?_, rfl⟩
        all_goals first | rfl | (simp <;> omega)
      · skip
        have hv : ltN r = false := by
          unfold ltN; simp [h0, h1, h2] <;> omega
        rw [hv]
        go_enter Tryz.func88, Tryz.ntmps88
        go_wp2
        all_goals go_ret
        all_goals refine ⟨?_, rfl⟩
        all_goals first | rfl | (simp <;> omega)
    · skip
      have hv : ltN r = false := by
        unfold ltN; simp [h0, h1] <;> omega
      rw [hv]
      go_enter Tryz.func88, Tryz.ntmps88
      go_wp2
      all_goals go_ret
      all_goals refine ⟨?_, rfl⟩
      all_goals first | rfl | (simp <;> omega)

set_option maxRecDepth 100000 in
set_option maxHeartbeats 1000000 in
theorem mayNotBeQuoted_is (r : Nat) (w : World) : Calls Tryz.prog 80 #[.int .i32 r] w fun e w' => e = .returned (.bool (nqN r)) ∧ w' = w := by
  by_cases h0 : (r : Int) < (32 : Int)
  · skip
    cases h1 : blN r
    · have H1 := fun w' => isBlank_is r w'
      rw [h1] at H1
      have hv : nqN r = true := by
        unfold nqN; simp [h0, h1] <;> omega
      rw [hv]
      clear hv h1
      go_enter Tryz.func80, Tryz.ntmps80
      go_wp2_with (first | (go_at_call 94; refine (H1 _).mono ?_; rintro e w' ⟨rfl, hw⟩; rw [hw]; clear hw w'))
      all_goals go_ret
      all_goals refine ⟨?_, rfl⟩
      all_goals first | rfl | (simp <;> omega)
    · have H1 := fun w' => isBlank_is r w'
      rw [h1] at H1
      by_cases h2 : r = 127
      · have x2 : ((r : Int) == 127) = true := by rw [beq_iff_eq]; omega
        have hv : nqN r = true := by
          unfold nqN; simp [h0, h1, h2] <;> omega
        rw [hv]
        clear hv h1 h2
        go_enter Tryz.func80, Tryz.ntmps80
        go_wp2_with (first | (go_at_call 94; refine (H1 _).mono ?_; rintro e w' ⟨rfl, hw⟩; rw [hw]; clear hw w'))
        all_goals go_ret
        all_goals refine ⟨?_, rfl⟩
        all_goals first | rfl | (simp <;> omega)
      · have x2 : ((r : Int) == 127) = false := by rw [beq_eq_false_iff_ne]; omega
        have hv : nqN r = false := by
          unfold nqN; simp [h0, h1, h2] <;> omega
        rw [hv]
        clear hv h1 h2
        go_enter Tryz.func80, Tryz.ntmps80
        go_wp2_with (first | (go_at_call 94; refine (H1 _).mono ?_; rintro e w' ⟨rfl, hw⟩; rw [hw]; clear hw w'))
        all_goals go_ret
        all_goals refine ⟨?_, rfl⟩
        all_goals first | rfl | (simp <;> omega)
  · skip
    by_cases h1 : r = 127
    · have x1 : ((r : Int) == 127) = true := by rw [beq_iff_eq]; omega
      have hv : nqN r = true := by
        unfold nqN; simp [h0, h1] <;> omega
      rw [hv]
      clear hv h1
      go_enter Tryz.func80, Tryz.ntmps80
      go_wp2
      all_goals go_ret
      all_goals refine ⟨?_, rfl⟩
      all_goals first | rfl | (simp <;> omega)
    · have x1 : ((r : Int) == 127) = false := by rw [beq_eq_false_iff_ne]; omega
      have hv : nqN r = false := by
        unfold nqN; simp [h0, h1] <;> omega
      rw [hv]
      clear hv h1
      go_enter Tryz.func80, Tryz.ntmps80
      go_wp2
      all_goals go_ret
      all_goals refine ⟨?_, rfl⟩
      all_goals first | rfl | (simp <;> omega)

set_option maxRecDepth 100000 in
set_option maxHeartbeats 1000000 in
theorem mayNotBeBarred_is (r : Nat) (w : World) : Calls Tryz.prog 77 #[.int .i32 r] w fun e w' => e = .returned (.bool (nbN r)) ∧ w' = w := by
  cases h0 : nqN r
  · have H0 := fun w' => mayNotBeQuoted_is r w'
    rw [h0] at H0
    by_cases h1 : r = 124
    · have x1 : ((r : Int) == 124) = true := by rw [beq_iff_eq]; omega
      have hv : nbN r = true := by
        unfold nbN; simp [h0, h1] <;> omega
      rw [hv]
      clear hv h0 h1
      go_enter Tryz.func77, Tryz.ntmps77
      go_wp2_with (first | (go_at_call 80; refine (H0 _).mono ?_; rintro e w' ⟨rfl, hw⟩; rw [hw]; clear hw w'))
      all_goals go_ret
      all_goals refine ⟨?_, rfl⟩
      all_goals first | rfl | (simp <;> omega)
    · have x1 : ((r : Int) == 124) = false := by rw [beq_eq_false_iff_ne]; omega
      by_cases h2 : r = 92
      · have x2 : ((r : Int) == 92) = true := by rw [beq_iff_eq]; omega
        have hv : nbN r = true := by
          unfold nbN; simp [h0, h1, h2] <;> omega
        rw [hv]
        clear hv h0 h1 h2
        go_enter Tryz.func77, Tryz.ntmps77
        go_wp2_with (first | (go_at_call 80; refine (H0 _).mono ?_; rintro e w' ⟨rfl, hw⟩; rw [hw]; clear hw w'))
        all_goals go_ret
        all_goals refine ⟨?_, rfl⟩
        all_goals first | rfl | (simp <;> omega)
      · have x2 : ((r : Int) == 92) = false := by rw [beq_eq_false_iff_ne]; omega
        have hv : nbN r = false := by
          unfold nbN; simp [h0, h1, h2] <;> omega
        rw [hv]
        clear hv h0 h1 h2
        go_enter Tryz.func77, Tryz.ntmps77
        go_wp2_with (first | (go_at_call 80; refine (H0 _).mono ?_; rintro e w' ⟨rfl, hw⟩; rw [hw]; clear hw w'))
        all_goals go_ret
        all_goals refine ⟨?_, rfl⟩
        all_goals first | rfl | (simp <;> omega)
  · have H0 := fun w' => mayNotBeQuoted_is r w'
    rw [h0] at H0
    have hv : nbN r = true := by
      unfold nbN; simp [h0] <;> omega
    rw [hv]
    clear hv h0
    go_enter Tryz.func77, Tryz.ntmps77
    go_wp2_with (first | (go_at_call 80; refine (H0 _).mono ?_; rintro e w' ⟨rfl, hw⟩; rw [hw]; clear hw w'))
    all_goals go_ret
    all_goals refine ⟨?_, rfl⟩
    all_goals first | rfl | (simp <;> omega)

/-- it may be quoted -/
def quN (r : Nat) : Bool := blN r || decide (32 < r) && decide (r < 127) || decide (128 ≤ r)

set_option maxRecDepth 100000 in
set_option maxHeartbeats 1000000 in
theorem quotable_is (r : Nat) (w : World) : Calls Tryz.prog 44 #[.int .u8 r] w fun e w' => e = .returned (.bool (quN r)) ∧ w' = w := by
  cases h0 : blN r
  · have H0 := fun w' => blank_is r w'
    rw [h0] at H0
    by_cases h1 : (32 : Int) < (r : Int)
    · skip
      by_cases h2 : (r : Int) < (127 : Int)
      · skip
        have hv : quN r = true := by
          unfold quN; simp [h0, h1, h2] <;> omega
        rw [hv]
        clear hv h0
        go_enter Tryz.func44, Tryz.ntmps44
        go_wp2_with (first | (go_at_call 66; refine (H0 _).mono ?_; rintro e w' ⟨rfl, hw⟩; rw [hw]; clear hw w'))
        all_goals go_ret
        all_goals refine ⟨?_, rfl⟩
        all_goals first | rfl | (simp <;> omega)
      · skip
        by_cases h3 : (128 : Int) ≤ (r : Int)
        · skip
          have hv : quN r = true := by
            unfold quN; simp [h0, h1, h2, h3] <;> omega
          rw [hv]
          clear hv h0
          go_enter Tryz.func44, Tryz.ntmps44
          go_wp2_with (first | (go_at_call 66; refine (H0 _).mono ?_; rintro e w' ⟨rfl, hw⟩; rw [hw]; clear hw w'))
          all_goals go_ret
          all_goals refine ⟨?_, rfl⟩
          all_goals first | rfl | (simp <;> omega)
        · skip
          have hv : quN r = false := by
            unfold quN; simp [h0, h1, h2, h3] <;> omega
          rw [hv]
          clear hv h0
          go_enter Tryz.func44, Tryz.ntmps44
          go_wp2_with (first | (go_at_call 66; refine (H0 _).mono ?_; rintro e w' ⟨rfl, hw⟩; rw [hw]; clear hw w'))
          all_goals go_ret
          all_goals refine ⟨?_, rfl⟩
          all_goals first | rfl | (simp <;> omega)
    · skip
      by_cases h2 : (128 : Int) ≤ (r : Int)
      · skip
        have hv : quN r = true := by
          unfold quN; simp [h0, h1, h2] <;> omega
        rw [hv]
        clear hv h0
        go_enter Tryz.func44, Tryz.ntmps44
        go_wp2_with (first | (go_at_call 66; refine (H0 _).mono ?_; rintro e w' ⟨rfl, hw⟩; rw [hw]; clear hw w'))
        all_goals go_ret
        all_goals refine ⟨?_, rfl⟩
        all_goals first | rfl | (simp <;> omega)
      · skip
        have hv : quN r = false := by
          unfold quN; simp [h0, h1, h2] <;> omega
        rw [hv]
        clear hv h0
        go_enter Tryz.func44, Tryz.ntmps44
        go_wp2_with (first | (go_at_call 66; refine (H0 _).mono ?_; rintro e w' ⟨rfl, hw⟩; rw [hw]; clear hw w'))
        all_goals go_ret
        all_goals refine ⟨?_, rfl⟩
        all_goals first | rfl | (simp <;> omega)
  · have H0 := fun w' => blank_is r w'
    rw [h0] at H0
    have hv : quN r = true := by
      unfold quN; simp [h0] <;> omega
    rw [hv]
    clear hv h0
    go_enter Tryz.func44, Tryz.ntmps44
    go_wp2_with (first | (go_at_call 66; refine (H0 _).mono ?_; rintro e w' ⟨rfl, hw⟩; rw [hw]; clear hw w'))
    all_goals go_ret
    all_goals refine ⟨?_, rfl⟩
    all_goals first | rfl | (simp <;> omega)

theorem quN_not (r : Nat) : quN r = !nqN r := by
  rw [Bool.eq_iff_iff]
  unfold quN nqN blN
  simp
  omega
end Go.Proofs.YtpfmamimhhnbiaaGreatDoor

namespace Go.Proofs.YtpfmamimhhnbiaaGreatDoor
open Go.RowKit
set_option linter.unusedVariables false
set_option linter.unusedSimpArgs false

def sgS : ByteArray := ⟨#[126, 33, 64, 36, 37, 94, 38, 42, 95, 45, 43, 61, 60, 62, 46, 63, 47]⟩
theorem sgS_size : sgS.size = 17 := rfl
theorem sgS_byt : ∀ k, k < 17 → byt sgS k = sgL.getD k 0 := by
  intro k hk
  have h : ∀ k : Fin 17, byt sgS k.val = sgL.getD k.val 0 := by decide
  exact h ⟨k, hk⟩
theorem sgN_iff (c : Nat) : sgN c = true ↔ ∃ k, k < sgS.size ∧ byt sgS k = c := by
  unfold sgN
  rw [sgS_size, List.contains_iff_mem, List.mem_iff_getElem]
  constructor
  · rintro ⟨k, hk, e⟩
    have hk' : k < 17 := hk
    refine ⟨k, hk', ?_⟩
    rw [sgS_byt k hk', List.getD_eq_getElem?_getD, List.getElem?_eq_getElem hk]
    exact e
  · rintro ⟨k, hk, e⟩
    have hk' : k < sgL.length := hk
    refine ⟨k, hk', ?_⟩
    rw [sgS_byt k hk, List.getD_eq_getElem?_getD, List.getElem?_eq_getElem hk'] at e
    exact e
theorem sgS_low {k : Nat} (hk : k < 17) : byt sgS k < 128 := by
  have h : ∀ k : Fin 17, byt sgS k.val < 128 := by decide
  exact h ⟨k, hk⟩

set_option maxHeartbeats 1000000 in
theorem within_any (s : ByteArray) (hs : s.size ≤ 140737488355328) (c : Nat) (b : Bool) (hb : b = true ↔ ∃ k, k < s.size ∧ byt s k = c) (w : World) :
    Calls Tryz.prog 89 #[.int .u8 c, .string s] w fun e w' => e = .returned (.bool b) ∧ w' = w := by
  have HB := hideT hb
  clear hb
  go_enter Tryz.func89, Tryz.ntmps89
  go_wp2
  go_loop [5] (fun i => ∃ k : Nat, k ≤ s.size ∧ i = .int .i64 k ∧ ∀ j, j < k → byt s j ≠ c) (fun i => s.size - (intOf i).toNat)
  case atStart => exact ⟨0, Nat.zero_le _, rfl, fun j hj => by omega⟩
  case round =>
    obtain ⟨k, hk, rfl, hj⟩ := hrel
    have HJ := hideT hj
    clear hj
    by_cases hlt : k < s.size
    · have hki : ((k : Int) < (s.size : Int)) := by omega
      have ek := byt_of hlt
      by_cases he : byt s k = c
      · have hx : (((s[k]'hlt).toNat : Int) == (c : Int)) = true := by rw [← ek, he]; simp
        have hv : b = true := HB.out.2 ⟨k, hlt, he⟩
        clear he ek HB
        go_wp2
        go_ret
        try rw [hv]
        exact ⟨rfl, rfl⟩
      · have hx : (((s[k]'hlt).toNat : Int) == (c : Int)) = false := by rw [← ek, beq_eq_false_iff_ne]; omega
        go_wp2
        go_round
        case rel => exact ⟨k + 1, by omega, by go_num, fun j hj => by
          by_cases e : j = k
          · rw [e]; exact he
          · exact HJ.out j (by omega)⟩
        case measure => simp [intOf]; omega
    · have hki : ¬ ((k : Int) < (s.size : Int)) := by omega
      have hv : b = false := by
        cases hc : b with
        | false => rfl
        | true =>
          obtain ⟨j, h1, h2⟩ := HB.out.1 hc
          exact absurd h2 (HJ.out j (by omega))
      clear HB
      go_wp2
      go_ret
      try rw [hv]
      exact ⟨rfl, rfl⟩
theorem within_is (c : Nat) (w : World) : Calls Tryz.prog 89 #[.int .u8 c, .string sgS] w fun e w' => e = .returned (.bool (sgN c)) ∧ w' = w :=
  within_any sgS (by decide) c (sgN c) (sgN_iff c) w

set_option maxHeartbeats 1000000 in
theorem symbolByte_is (r : Nat) (w : World) : Calls Tryz.prog 64 #[.int .u8 r] w fun e w' => e = .returned (.bool (syN r)) ∧ w' = w := by
  have H1 := fun w' => letter_is r w'
  have H2 := fun w' => digit_is r w'
  have H3 := fun w' => within_is r w'
  unfold sgS at H3
  have hv : syN r = (ltN r || (dgN r || sgN r)) := by unfold syN; cases dgN r <;> cases ltN r <;> rfl
  rw [hv]
  clear hv
  generalize ltN r = b1 at H1 ⊢
  generalize dgN r = b2 at H2 ⊢
  generalize sgN r = b3 at H3 ⊢
  go_enter Tryz.func64, Tryz.ntmps64
  go_wp2_with fail
  refine (H1 _).mono ?_
  rintro e w1 ⟨rfl, rfl⟩
  cases b1
  · go_wp2_with fail
    refine (H2 _).mono ?_
    rintro e w1 ⟨rfl, rfl⟩
    cases b2
    · go_wp2_with fail
      refine (H3 _).mono ?_
      rintro e w1 ⟨rfl, rfl⟩
      go_wp2
      go_ret
      exact ⟨rfl, rfl⟩
    · go_wp2
      go_ret
      exact ⟨rfl, rfl⟩
  · go_wp2
    go_ret
    exact ⟨rfl, rfl⟩
end Go.Proofs.YtpfmamimhhnbiaaGreatDoor
