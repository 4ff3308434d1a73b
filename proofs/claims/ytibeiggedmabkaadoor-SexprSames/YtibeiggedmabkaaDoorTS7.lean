/-
  What a scanner that waits keeps; how a scanner in memory and what has been read go together.
-/
import Derived.Test.YtibeiggedmabkaaDoorTS5
import Derived.Test.YtibeiggedmabkaaDoorTS6
namespace Go.Proofs.YtibeiggedmabkaaDoor
open Go.RowKit
set_option linter.unusedVariables false
set_option linter.unusedSimpArgs false

theorem startN_in (r : Nat) : startN r ∈ [3, 4, 5, 6, 7, 8, 10, 12, 13, 16, 21, 25] := by
  unfold startN
  repeat' split
  all_goals simp
theorem folN_in4 (r : Nat) (h : folN 4 r ≠ 23) : (4 < 4 ∨ folN 4 r ∈ [3, 4, 5, 6, 7, 8, 10, 12, 13, 16, 21, 25]) ∧ folN 4 r ∈ [3, 4, 5, 6, 7, 8, 9, 10, 11, 12, 13, 14, 15, 16, 17, 18, 19, 20, 21, 22, 24, 25] := by
  by_cases h0 : r = 10
  · skip
    by_cases h1 : r = 13
    · skip
      simp [folN, quotN, numN, kindN, h0, h1] at h ⊢
    · skip
      simp [folN, quotN, numN, kindN, h0, h1] at h ⊢
  · skip
    by_cases h1 : r = 13
    · skip
      simp [folN, quotN, numN, kindN, h0, h1] at h ⊢
    · skip
      simp [folN, quotN, numN, kindN, h0, h1] at h ⊢
theorem folN_in7 (r : Nat) (h : folN 7 r ≠ 23) : (4 < 7 ∨ folN 7 r ∈ [3, 4, 5, 6, 7, 8, 10, 12, 13, 16, 21, 25]) ∧ folN 7 r ∈ [3, 4, 5, 6, 7, 8, 9, 10, 11, 12, 13, 14, 15, 16, 17, 18, 19, 20, 21, 22, 24, 25] := by
  by_cases h0 : syN r = true
  · skip
    simp [folN, quotN, numN, kindN, h0] at h ⊢
  · skip
    simp [folN, quotN, numN, kindN, h0] at h ⊢
theorem folN_in11 (r : Nat) (h : folN 11 r ≠ 23) : (4 < 11 ∨ folN 11 r ∈ [3, 4, 5, 6, 7, 8, 10, 12, 13, 16, 21, 25]) ∧ folN 11 r ∈ [3, 4, 5, 6, 7, 8, 9, 10, 11, 12, 13, 14, 15, 16, 17, 18, 19, 20, 21, 22, 24, 25] := by
  by_cases h0 : syN r = true
  · skip
    simp [folN, quotN, numN, kindN, h0] at h ⊢
  · skip
    simp [folN, quotN, numN, kindN, h0] at h ⊢
theorem folN_in8 (r : Nat) (h : folN 8 r ≠ 23) : (4 < 8 ∨ folN 8 r ∈ [3, 4, 5, 6, 7, 8, 10, 12, 13, 16, 21, 25]) ∧ folN 8 r ∈ [3, 4, 5, 6, 7, 8, 9, 10, 11, 12, 13, 14, 15, 16, 17, 18, 19, 20, 21, 22, 24, 25] := by
  by_cases h0 : r = 124
  · skip
    by_cases h1 : nbN r = true
    · skip
      simp [folN, quotN, numN, kindN, h0, h1] at h ⊢
    · skip
      simp [folN, quotN, numN, kindN, h0, h1] at h ⊢
  · skip
    by_cases h1 : nbN r = true
    · skip
      simp [folN, quotN, numN, kindN, h0, h1] at h ⊢
    · skip
      simp [folN, quotN, numN, kindN, h0, h1] at h ⊢
theorem folN_in10 (r : Nat) (h : folN 10 r ≠ 23) : (4 < 10 ∨ folN 10 r ∈ [3, 4, 5, 6, 7, 8, 10, 12, 13, 16, 21, 25]) ∧ folN 10 r ∈ [3, 4, 5, 6, 7, 8, 9, 10, 11, 12, 13, 14, 15, 16, 17, 18, 19, 20, 21, 22, 24, 25] := by
  by_cases h0 : syN r = true
  · skip
    by_cases h1 : dgN r = true
    · skip
      simp [folN, quotN, numN, kindN, h0, h1] at h ⊢
    · skip
      simp [folN, quotN, numN, kindN, h0, h1] at h ⊢
  · skip
    by_cases h1 : dgN r = true
    · skip
      simp [folN, quotN, numN, kindN, h0, h1] at h ⊢
    · skip
      simp [folN, quotN, numN, kindN, h0, h1] at h ⊢
theorem folN_in12 (r : Nat) (h : folN 12 r ≠ 23) : (4 < 12 ∨ folN 12 r ∈ [3, 4, 5, 6, 7, 8, 10, 12, 13, 16, 21, 25]) ∧ folN 12 r ∈ [3, 4, 5, 6, 7, 8, 9, 10, 11, 12, 13, 14, 15, 16, 17, 18, 19, 20, 21, 22, 24, 25] := by
  by_cases h0 : r = 46
  · skip
    by_cases h1 : syN r = true
    · skip
      simp [folN, quotN, numN, kindN, h0, h1] at h ⊢
    · skip
      simp [folN, quotN, numN, kindN, h0, h1] at h ⊢
  · skip
    by_cases h1 : syN r = true
    · skip
      simp [folN, quotN, numN, kindN, h0, h1] at h ⊢
    · skip
      simp [folN, quotN, numN, kindN, h0, h1] at h ⊢
theorem folN_in13 (r : Nat) (h : folN 13 r ≠ 23) : (4 < 13 ∨ folN 13 r ∈ [3, 4, 5, 6, 7, 8, 10, 12, 13, 16, 21, 25]) ∧ folN 13 r ∈ [3, 4, 5, 6, 7, 8, 9, 10, 11, 12, 13, 14, 15, 16, 17, 18, 19, 20, 21, 22, 24, 25] := by
  by_cases h0 : r = 46
  · skip
    by_cases h1 : dgN r = true
    · skip
      by_cases h2 : syN r = true
      · skip
        simp [folN, quotN, numN, kindN, h0, h1, h2] at h ⊢
      · skip
        simp [folN, quotN, numN, kindN, h0, h1, h2] at h ⊢
    · skip
      by_cases h2 : syN r = true
      · skip
        simp [folN, quotN, numN, kindN, h0, h1, h2] at h ⊢
      · skip
        simp [folN, quotN, numN, kindN, h0, h1, h2] at h ⊢
  · skip
    by_cases h1 : dgN r = true
    · skip
      by_cases h2 : syN r = true
      · skip
        simp [folN, quotN, numN, kindN, h0, h1, h2] at h ⊢
      · skip
        simp [folN, quotN, numN, kindN, h0, h1, h2] at h ⊢
    · skip
      by_cases h2 : syN r = true
      · skip
        simp [folN, quotN, numN, kindN, h0, h1, h2] at h ⊢
      · skip
        simp [folN, quotN, numN, kindN, h0, h1, h2] at h ⊢
theorem folN_in14 (r : Nat) (h : folN 14 r ≠ 23) : (4 < 14 ∨ folN 14 r ∈ [3, 4, 5, 6, 7, 8, 10, 12, 13, 16, 21, 25]) ∧ folN 14 r ∈ [3, 4, 5, 6, 7, 8, 9, 10, 11, 12, 13, 14, 15, 16, 17, 18, 19, 20, 21, 22, 24, 25] := by
  by_cases h0 : dgN r = true
  · skip
    simp [folN, quotN, numN, kindN, h0] at h ⊢
  · skip
    simp [folN, quotN, numN, kindN, h0] at h ⊢
theorem folN_in15 (r : Nat) (h : folN 15 r ≠ 23) : (4 < 15 ∨ folN 15 r ∈ [3, 4, 5, 6, 7, 8, 10, 12, 13, 16, 21, 25]) ∧ folN 15 r ∈ [3, 4, 5, 6, 7, 8, 9, 10, 11, 12, 13, 14, 15, 16, 17, 18, 19, 20, 21, 22, 24, 25] := by
  by_cases h0 : dgN r = true
  · skip
    by_cases h1 : syN r = true
    · skip
      simp [folN, quotN, numN, kindN, h0, h1] at h ⊢
    · skip
      simp [folN, quotN, numN, kindN, h0, h1] at h ⊢
  · skip
    by_cases h1 : syN r = true
    · skip
      simp [folN, quotN, numN, kindN, h0, h1] at h ⊢
    · skip
      simp [folN, quotN, numN, kindN, h0, h1] at h ⊢
theorem folN_in16 (r : Nat) (h : folN 16 r ≠ 23) : (4 < 16 ∨ folN 16 r ∈ [3, 4, 5, 6, 7, 8, 10, 12, 13, 16, 21, 25]) ∧ folN 16 r ∈ [3, 4, 5, 6, 7, 8, 9, 10, 11, 12, 13, 14, 15, 16, 17, 18, 19, 20, 21, 22, 24, 25] := by
  by_cases h0 : r = 120
  · skip
    by_cases h1 : r = 98
    · skip
      simp [folN, quotN, numN, kindN, h0, h1] at h ⊢
    · skip
      simp [folN, quotN, numN, kindN, h0, h1] at h ⊢
  · skip
    by_cases h1 : r = 98
    · skip
      simp [folN, quotN, numN, kindN, h0, h1] at h ⊢
    · skip
      simp [folN, quotN, numN, kindN, h0, h1] at h ⊢
theorem folN_in17 (r : Nat) (h : folN 17 r ≠ 23) : (4 < 17 ∨ folN 17 r ∈ [3, 4, 5, 6, 7, 8, 10, 12, 13, 16, 21, 25]) ∧ folN 17 r ∈ [3, 4, 5, 6, 7, 8, 9, 10, 11, 12, 13, 14, 15, 16, 17, 18, 19, 20, 21, 22, 24, 25] := by
  by_cases h0 : hxN r = true
  · skip
    simp [folN, quotN, numN, kindN, h0] at h ⊢
  · skip
    simp [folN, quotN, numN, kindN, h0] at h ⊢
theorem folN_in18 (r : Nat) (h : folN 18 r ≠ 23) : (4 < 18 ∨ folN 18 r ∈ [3, 4, 5, 6, 7, 8, 10, 12, 13, 16, 21, 25]) ∧ folN 18 r ∈ [3, 4, 5, 6, 7, 8, 9, 10, 11, 12, 13, 14, 15, 16, 17, 18, 19, 20, 21, 22, 24, 25] := by
  by_cases h0 : hxN r = true
  · skip
    by_cases h1 : syN r = true
    · skip
      simp [folN, quotN, numN, kindN, h0, h1] at h ⊢
    · skip
      simp [folN, quotN, numN, kindN, h0, h1] at h ⊢
  · skip
    by_cases h1 : syN r = true
    · skip
      simp [folN, quotN, numN, kindN, h0, h1] at h ⊢
    · skip
      simp [folN, quotN, numN, kindN, h0, h1] at h ⊢
theorem folN_in19 (r : Nat) (h : folN 19 r ≠ 23) : (4 < 19 ∨ folN 19 r ∈ [3, 4, 5, 6, 7, 8, 10, 12, 13, 16, 21, 25]) ∧ folN 19 r ∈ [3, 4, 5, 6, 7, 8, 9, 10, 11, 12, 13, 14, 15, 16, 17, 18, 19, 20, 21, 22, 24, 25] := by
  by_cases h0 : biN r = true
  · skip
    simp [folN, quotN, numN, kindN, h0] at h ⊢
  · skip
    simp [folN, quotN, numN, kindN, h0] at h ⊢
theorem folN_in20 (r : Nat) (h : folN 20 r ≠ 23) : (4 < 20 ∨ folN 20 r ∈ [3, 4, 5, 6, 7, 8, 10, 12, 13, 16, 21, 25]) ∧ folN 20 r ∈ [3, 4, 5, 6, 7, 8, 9, 10, 11, 12, 13, 14, 15, 16, 17, 18, 19, 20, 21, 22, 24, 25] := by
  by_cases h0 : biN r = true
  · skip
    by_cases h1 : syN r = true
    · skip
      simp [folN, quotN, numN, kindN, h0, h1] at h ⊢
    · skip
      simp [folN, quotN, numN, kindN, h0, h1] at h ⊢
  · skip
    by_cases h1 : syN r = true
    · skip
      simp [folN, quotN, numN, kindN, h0, h1] at h ⊢
    · skip
      simp [folN, quotN, numN, kindN, h0, h1] at h ⊢
theorem folN_in21 (r : Nat) (h : folN 21 r ≠ 23) : (4 < 21 ∨ folN 21 r ∈ [3, 4, 5, 6, 7, 8, 10, 12, 13, 16, 21, 25]) ∧ folN 21 r ∈ [3, 4, 5, 6, 7, 8, 9, 10, 11, 12, 13, 14, 15, 16, 17, 18, 19, 20, 21, 22, 24, 25] := by
  by_cases h0 : r = 34
  · skip
    by_cases h1 : nqN r = true
    · skip
      simp [folN, quotN, numN, kindN, h0, h1] at h ⊢
    · skip
      simp [folN, quotN, numN, kindN, h0, h1] at h ⊢
  · skip
    by_cases h1 : nqN r = true
    · skip
      simp [folN, quotN, numN, kindN, h0, h1] at h ⊢
    · skip
      simp [folN, quotN, numN, kindN, h0, h1] at h ⊢
theorem folN_in22 (r : Nat) (h : folN 22 r ≠ 23) : (4 < 22 ∨ folN 22 r ∈ [3, 4, 5, 6, 7, 8, 10, 12, 13, 16, 21, 25]) ∧ folN 22 r ∈ [3, 4, 5, 6, 7, 8, 9, 10, 11, 12, 13, 14, 15, 16, 17, 18, 19, 20, 21, 22, 24, 25] := by
  by_cases h0 : r = 34
  · skip
    simp [folN, quotN, numN, kindN, h0] at h ⊢
  · skip
    simp [folN, quotN, numN, kindN, h0] at h ⊢
theorem folN_in {st : Nat} (hs : st ∈ waits) (r : Nat) (h : folN st r ≠ 23) : (4 < st ∨ folN st r ∈ [3, 4, 5, 6, 7, 8, 10, 12, 13, 16, 21, 25]) ∧ folN st r ∈ [3, 4, 5, 6, 7, 8, 9, 10, 11, 12, 13, 14, 15, 16, 17, 18, 19, 20, 21, 22, 24, 25] := by
  have h3 := startN_in r
  simp only [waits, List.mem_cons, List.not_mem_nil, or_false] at hs
  rcases hs with rfl | rfl | rfl | rfl | rfl | rfl | rfl | rfl | rfl | rfl | rfl | rfl | rfl | rfl | rfl | rfl | rfl
  · have e : folN 3 r = startN r := by simp [folN]
    rw [e]
    refine ⟨Or.inr h3, ?_⟩
    simp only [List.mem_cons, List.not_mem_nil, or_false] at h3 ⊢
    omega
  · exact folN_in4 r h
  · exact folN_in7 r h
  · exact folN_in8 r h
  · exact folN_in10 r h
  · exact folN_in11 r h
  · exact folN_in12 r h
  · exact folN_in13 r h
  · exact folN_in14 r h
  · exact folN_in15 r h
  · exact folN_in16 r h
  · exact folN_in17 r h
  · exact folN_in18 r h
  · exact folN_in19 r h
  · exact folN_in20 r h
  · exact folN_in21 r h
  · exact folN_in22 r h
theorem folN_gt7 (r : Nat) : 6 < folN 7 r := by
  by_cases h0 : syN r = true
  · skip
    simp [folN, quotN, numN, kindN, h0]
  · skip
    simp [folN, quotN, numN, kindN, h0]
theorem folN_gt11 (r : Nat) : 6 < folN 11 r := by
  by_cases h0 : syN r = true
  · skip
    simp [folN, quotN, numN, kindN, h0]
  · skip
    simp [folN, quotN, numN, kindN, h0]
theorem folN_gt8 (r : Nat) : 6 < folN 8 r := by
  by_cases h0 : r = 124
  · skip
    by_cases h1 : nbN r = true
    · skip
      simp [folN, quotN, numN, kindN, h0, h1]
    · skip
      simp [folN, quotN, numN, kindN, h0, h1]
  · skip
    by_cases h1 : nbN r = true
    · skip
      simp [folN, quotN, numN, kindN, h0, h1]
    · skip
      simp [folN, quotN, numN, kindN, h0, h1]
theorem folN_gt10 (r : Nat) : 6 < folN 10 r := by
  by_cases h0 : syN r = true
  · skip
    by_cases h1 : dgN r = true
    · skip
      simp [folN, quotN, numN, kindN, h0, h1]
    · skip
      simp [folN, quotN, numN, kindN, h0, h1]
  · skip
    by_cases h1 : dgN r = true
    · skip
      simp [folN, quotN, numN, kindN, h0, h1]
    · skip
      simp [folN, quotN, numN, kindN, h0, h1]
theorem folN_gt12 (r : Nat) : 6 < folN 12 r := by
  by_cases h0 : r = 46
  · skip
    by_cases h1 : syN r = true
    · skip
      simp [folN, quotN, numN, kindN, h0, h1]
    · skip
      simp [folN, quotN, numN, kindN, h0, h1]
  · skip
    by_cases h1 : syN r = true
    · skip
      simp [folN, quotN, numN, kindN, h0, h1]
    · skip
      simp [folN, quotN, numN, kindN, h0, h1]
theorem folN_gt13 (r : Nat) : 6 < folN 13 r := by
  by_cases h0 : r = 46
  · skip
    by_cases h1 : dgN r = true
    · skip
      by_cases h2 : syN r = true
      · skip
        simp [folN, quotN, numN, kindN, h0, h1, h2]
      · skip
        simp [folN, quotN, numN, kindN, h0, h1, h2]
    · skip
      by_cases h2 : syN r = true
      · skip
        simp [folN, quotN, numN, kindN, h0, h1, h2]
      · skip
        simp [folN, quotN, numN, kindN, h0, h1, h2]
  · skip
    by_cases h1 : dgN r = true
    · skip
      by_cases h2 : syN r = true
      · skip
        simp [folN, quotN, numN, kindN, h0, h1, h2]
      · skip
        simp [folN, quotN, numN, kindN, h0, h1, h2]
    · skip
      by_cases h2 : syN r = true
      · skip
        simp [folN, quotN, numN, kindN, h0, h1, h2]
      · skip
        simp [folN, quotN, numN, kindN, h0, h1, h2]
theorem folN_gt14 (r : Nat) : 6 < folN 14 r := by
  by_cases h0 : dgN r = true
  · skip
    simp [folN, quotN, numN, kindN, h0]
  · skip
    simp [folN, quotN, numN, kindN, h0]
theorem folN_gt15 (r : Nat) : 6 < folN 15 r := by
  by_cases h0 : dgN r = true
  · skip
    by_cases h1 : syN r = true
    · skip
      simp [folN, quotN, numN, kindN, h0, h1]
    · skip
      simp [folN, quotN, numN, kindN, h0, h1]
  · skip
    by_cases h1 : syN r = true
    · skip
      simp [folN, quotN, numN, kindN, h0, h1]
    · skip
      simp [folN, quotN, numN, kindN, h0, h1]
theorem folN_gt16 (r : Nat) : 6 < folN 16 r := by
  by_cases h0 : r = 120
  · skip
    by_cases h1 : r = 98
    · skip
      simp [folN, quotN, numN, kindN, h0, h1]
    · skip
      simp [folN, quotN, numN, kindN, h0, h1]
  · skip
    by_cases h1 : r = 98
    · skip
      simp [folN, quotN, numN, kindN, h0, h1]
    · skip
      simp [folN, quotN, numN, kindN, h0, h1]
theorem folN_gt17 (r : Nat) : 6 < folN 17 r := by
  by_cases h0 : hxN r = true
  · skip
    simp [folN, quotN, numN, kindN, h0]
  · skip
    simp [folN, quotN, numN, kindN, h0]
theorem folN_gt18 (r : Nat) : 6 < folN 18 r := by
  by_cases h0 : hxN r = true
  · skip
    by_cases h1 : syN r = true
    · skip
      simp [folN, quotN, numN, kindN, h0, h1]
    · skip
      simp [folN, quotN, numN, kindN, h0, h1]
  · skip
    by_cases h1 : syN r = true
    · skip
      simp [folN, quotN, numN, kindN, h0, h1]
    · skip
      simp [folN, quotN, numN, kindN, h0, h1]
theorem folN_gt19 (r : Nat) : 6 < folN 19 r := by
  by_cases h0 : biN r = true
  · skip
    simp [folN, quotN, numN, kindN, h0]
  · skip
    simp [folN, quotN, numN, kindN, h0]
theorem folN_gt20 (r : Nat) : 6 < folN 20 r := by
  by_cases h0 : biN r = true
  · skip
    by_cases h1 : syN r = true
    · skip
      simp [folN, quotN, numN, kindN, h0, h1]
    · skip
      simp [folN, quotN, numN, kindN, h0, h1]
  · skip
    by_cases h1 : syN r = true
    · skip
      simp [folN, quotN, numN, kindN, h0, h1]
    · skip
      simp [folN, quotN, numN, kindN, h0, h1]
theorem folN_gt21 (r : Nat) : 6 < folN 21 r := by
  by_cases h0 : r = 34
  · skip
    by_cases h1 : nqN r = true
    · skip
      simp [folN, quotN, numN, kindN, h0, h1]
    · skip
      simp [folN, quotN, numN, kindN, h0, h1]
  · skip
    by_cases h1 : nqN r = true
    · skip
      simp [folN, quotN, numN, kindN, h0, h1]
    · skip
      simp [folN, quotN, numN, kindN, h0, h1]
theorem folN_gt22 (r : Nat) : 6 < folN 22 r := by
  by_cases h0 : r = 34
  · skip
    simp [folN, quotN, numN, kindN, h0]
  · skip
    simp [folN, quotN, numN, kindN, h0]
theorem folN_gt {st : Nat} (hs : st ∈ waits) (h4 : 4 < st) (r : Nat) : 6 < folN st r := by
  simp only [waits, List.mem_cons, List.not_mem_nil, or_false] at hs
  rcases hs with rfl | rfl | rfl | rfl | rfl | rfl | rfl | rfl | rfl | rfl | rfl | rfl | rfl | rfl | rfl | rfl | rfl
  · omega
  · omega
  · exact folN_gt7 r
  · exact folN_gt8 r
  · exact folN_gt10 r
  · exact folN_gt11 r
  · exact folN_gt12 r
  · exact folN_gt13 r
  · exact folN_gt14 r
  · exact folN_gt15 r
  · exact folN_gt16 r
  · exact folN_gt17 r
  · exact folN_gt18 r
  · exact folN_gt19 r
  · exact folN_gt20 r
  · exact folN_gt21 r
  · exact folN_gt22 r
/-- what is kept of a state and of how much has come -/
structure Inv (p : PS) : Prop where
  wt : p.st ∈ waits
  nr : p.nrm = p
  le : p.ah ≤ p.rd
  one : 4 < p.st → 1 ≤ p.buf.length
  two : p.st = 17 ∨ p.st = 18 ∨ p.st = 19 ∨ p.st = 20 ∨ p.st = 22 → 2 ≤ p.buf.length

theorem nrm_nrm (p : PS) : p.nrm.nrm = p.nrm := by
  unfold PS.nrm
  by_cases h : p.st ≤ 4
  · simp [h]
  · simp [h]
theorem nrm_st (p : PS) : p.nrm.st = p.st := by unfold PS.nrm; split <;> rfl
theorem nrm_rd (p : PS) : p.nrm.rd = p.rd := by unfold PS.nrm; split <;> rfl
theorem nrm_ln (p : PS) : p.nrm.ln = p.ln := by unfold PS.nrm; split <;> rfl
theorem nrm_ah (p : PS) : p.nrm.ah = p.ah := by unfold PS.nrm; split <;> rfl
theorem nrm_buf (p : PS) (h : 4 < p.st) : p.nrm = p := by unfold PS.nrm; rw [if_neg (by omega)]
/-- ahead of the character -/
theorem beg_facts {p : PS} (hi : Inv p) (r : Nat) :
    (p.cut r).beg.rd = p.rd ∧ (p.cut r).beg.ln = p.ln ∧ (p.cut r).beg.ah = p.ah ∧
    (((p.cut r).beg.buf = [] ∧ nxt p.st r ∈ [3, 4, 5, 6, 7, 8, 10, 12, 13, 16, 21, 25]) ∨ (1 ≤ (p.cut r).beg.buf.length ∧ nxt p.st r ∈ [3, 4, 5, 6, 7, 8, 9, 10, 11, 12, 13, 14, 15, 16, 17, 18, 19, 20, 21, 22, 24, 25])) := by
  by_cases h : folN p.st r = 23
  · have e1 : nxt p.st r = startN r := by unfold nxt; rw [if_pos h]
    have e2 : p.cut r = { p with st := 3, buf := [] } := by unfold PS.cut; rw [if_pos h]
    rw [e1, e2]
    refine ⟨rfl, rfl, rfl, Or.inl ⟨by simp [PS.beg], startN_in r⟩⟩
  · have e1 : nxt p.st r = folN p.st r := by unfold nxt; rw [if_neg h]
    have e2 : p.cut r = p := by unfold PS.cut; rw [if_neg h]
    rw [e1, e2]
    obtain ⟨h1, h2⟩ := folN_in hi.wt r h
    by_cases h4 : p.st ≤ 4
    · refine ⟨by simp [PS.beg, h4], by simp [PS.beg, h4], by simp [PS.beg, h4], Or.inl ⟨by simp [PS.beg, h4], ?_⟩⟩
      rcases h1 with h1 | h1
      · omega
      · exact h1
    · refine ⟨by simp [PS.beg, h4], by simp [PS.beg, h4], by simp [PS.beg, h4], Or.inr ⟨?_, h2⟩⟩
      have : p.beg = p := by unfold PS.beg; rw [if_neg h4]
      rw [this]
      exact hi.one (by omega)
theorem Inv.char {p q : PS} (hi : Inv p) {r : Nat} {us : List UInt8} (hu : 1 ≤ us.length) {ts : List Tok} (h : charP p r us = (ts, .ok q)) : Inv q ∧ q.rd = p.rd + us.length := by
  obtain ⟨f1, f2, f3, f4⟩ := beg_facts hi r
  unfold charP at h
  generalize hP : (p.cut r).beg = P at h f1 f2 f3 f4
  generalize hx : nxt p.st r = x at h f4
  by_cases h24 : x = 24
  · rw [if_pos h24] at h; injection h with _ h; cases h
  rw [if_neg h24] at h
  by_cases h25 : x = 25
  · rw [if_pos h25] at h; injection h with _ h; cases h
  rw [if_neg h25] at h
  by_cases h5 : x = 5 ∨ x = 6 ∨ x = 9
  · rw [if_pos h5] at h
    injection h with _ h
    injection h with h
    subst h
    refine ⟨⟨by rw [nrm_st]; exact (by decide : (3 : Nat) ∈ waits), nrm_nrm _, ?_, fun c => ?_, fun c => ?_⟩, ?_⟩
    · rw [nrm_ah, nrm_rd]; show P.ah ≤ P.rd + us.length; rw [f3, f1]; have := hi.le; omega
    · rw [nrm_st] at c; exact absurd c (by show ¬ 4 < 3; omega)
    · rw [nrm_st] at c; exact absurd c (by show ¬ (3 = 17 ∨ 3 = 18 ∨ 3 = 19 ∨ 3 = 20 ∨ 3 = 22); omega)
    · rw [nrm_rd]; show P.rd + us.length = _; rw [f1]
  rw [if_neg h5] at h
  have hxw : x ∈ waits := by
    simp only [waits, List.mem_cons, List.not_mem_nil, or_false] at f4 ⊢
    omega
  have fin : ∀ Q : PS, Q.st = x → Q.buf = P.buf ++ us → Q.rd = P.rd + us.length → Q.ah ≤ Q.rd → Inv Q.nrm ∧ Q.nrm.rd = p.rd + us.length := fun Q e1 e2 e3 e4 => by
    refine ⟨⟨by rw [nrm_st, e1]; exact hxw, nrm_nrm _, by rw [nrm_ah, nrm_rd]; exact e4, fun c => ?_, fun c => ?_⟩, by rw [nrm_rd, e3, f1]⟩
    · rw [nrm_st] at c
      rw [nrm_buf Q c, e2, List.length_append]
      omega
    · rw [nrm_st] at c
      have h4 : 4 < Q.st := by omega
      rw [nrm_buf Q h4, e2, List.length_append]
      rw [e1] at c
      rcases f4 with ⟨_, f4⟩ | ⟨f4, _⟩
      · simp only [List.mem_cons, List.not_mem_nil, or_false] at f4
        omega
      · omega
  by_cases h10 : r = 10
  · rw [if_pos h10] at h
    injection h with _ h
    injection h with h
    rw [← h]
    exact fin _ rfl rfl rfl (by show p.rd + us.length ≤ P.rd + us.length; omega)
  · rw [if_neg h10] at h
    injection h with _ h
    injection h with h
    rw [← h]
    exact fin _ rfl rfl rfl (by show P.ah ≤ P.rd + us.length; rw [f3, f1]; have := hi.le; omega)
theorem Inv.long {p : PS} (hi : Inv p) : longEnough p.st ⟨p.buf.toArray⟩ := by
  have e : (⟨p.buf.toArray⟩ : ByteArray).size = p.buf.length := by show p.buf.toArray.size = _; simp
  refine ⟨fun h => by rw [e]; exact hi.one (by omega), fun h => ?_⟩
  rw [e]
  rcases h with h | h | h | h
  · exact hi.two (by omega)
  · exact hi.two (by omega)
  · have := hi.wt; rw [h] at this; exact absurd this (by decide)
  · exact hi.two (by omega)
theorem beg_buf {p : PS} (hi : Inv p) (r : Nat) (hx : nxt p.st r ≤ 6) : (p.cut r).beg.buf = [] := by
  by_cases h : folN p.st r = 23
  · have e2 : p.cut r = { p with st := 3, buf := [] } := by unfold PS.cut; rw [if_pos h]
    rw [e2]
    simp [PS.beg]
  · have e1 : nxt p.st r = folN p.st r := by unfold nxt; rw [if_neg h]
    have e2 : p.cut r = p := by unfold PS.cut; rw [if_neg h]
    rw [e2]
    by_cases h4 : p.st ≤ 4
    · simp [PS.beg, h4]
    · have := folN_gt hi.wt (by omega) r
      omega
theorem beg_len {p : PS} (hi : Inv p) (r : Nat) (hb : p.buf.length ≤ p.rd) : (p.cut r).beg.buf.length ≤ p.rd := by
  unfold PS.cut
  by_cases h : folN p.st r = 23
  · rw [if_pos h]; simp [PS.beg]
  · rw [if_neg h]
    unfold PS.beg
    split
    · simp
    · exact hb
theorem nxt_low {st r : Nat} (hs : st ∈ waits) (h : nxt st r = 5 ∨ nxt st r = 6 ∨ nxt st r = 9) : r < 128 := by
  by_cases c : r < 128
  · exact c
  · have := nxt_high hs (show 128 ≤ r by omega)
    rw [this] at h
    exfalso
    revert h
    repeat' split
    all_goals omega
theorem feed_on {p0 p : PS} {bs us : List UInt8} {pos n r : Nat} {T ts : List Tok} {o : Out} (hfe : feedP p0 (bs.take pos) = (T, .ok p)) (c4 : feedP p us = charP p r us) (c5 : bs.take (pos + n) = bs.take pos ++ us) (hch : charP p r us = (ts, o)) : feedP p0 (bs.take (pos + n)) = (T ++ ts, o) := by
  rw [c5, feedP_app, hfe]
  simp only
  rw [c4, hch]
theorem feed_all {p0 : PS} {bs : List UInt8} {m : Nat} {T : List Tok} {B L C : Int} (h : feedP p0 (bs.take m) = (T, .bad B L C)) : feedP p0 bs = (T, .bad B L C) := by
  have := feedP_app p0 (bs.take m) (bs.drop m)
  rw [List.take_append_drop, h] at this
  exact this
end Go.Proofs.YtibeiggedmabkaaDoor
