/-
  start, follow and what they ask, of any character.
-/
import Derived.Test.YtibeiggedmabkaaDoorTS0
import Derived.Test.YtibeiggedmabkaaDoorTK4
namespace Go.Proofs.YtibeiggedmabkaaDoor
open Go.RowKit
set_option linter.unusedVariables false
set_option linter.unusedSimpArgs false

theorem where_is (b : Bool) (x y : Int) (w : World) : Calls Tryd.prog 56 #[.bool b, .int .i64 x, .int .i64 y] w fun e w' => e = .returned (.int .i64 (if b = true then x else y)) ∧ w' = w := by
  cases b
  · go_enter Tryd.func56, Tryd.ntmps56
    go_wp2
    go_ret
    exact ⟨rfl, rfl⟩
  · go_enter Tryd.func56, Tryd.ntmps56
    go_wp2
    go_ret
    exact ⟨rfl, rfl⟩
set_option maxRecDepth 100000 in
set_option maxHeartbeats 1000000 in
theorem isHex_is (r : Nat) (w : World) : Calls Tryd.prog 77 #[.int .i32 r] w fun e w' => e = .returned (.bool (hxN r)) ∧ w' = w := by
  cases h0 : dgN r
  · have H0 := fun w' => isDigit_is r w'
    rw [h0] at H0
    by_cases h1 : (97 : Int) ≤ (r : Int)
    · skip
      by_cases h2 : (r : Int) ≤ (102 : Int)
      · skip
        have hv : hxN r = true := by
          unfold hxN; simp [h0, h1, h2] <;> omega
        rw [hv]
        clear hv h0
        go_enter Tryd.func77, Tryd.ntmps77
        go_wp2_with (first | (go_at_call 58; refine (H0 _).mono ?_; rintro e w' ⟨rfl, hw⟩; rw [hw]; clear hw w'))
        all_goals go_ret
        all_goals refine ⟨?_, rfl⟩
        all_goals first | rfl | (simp <;> omega)
      · skip
        by_cases h3 : (65 : Int) ≤ (r : Int)
        · skip
          by_cases h4 : (r : Int) ≤ (70 : Int)
          · skip
            have hv : hxN r = true := by
              unfold hxN; simp [h0, h1, h2, h3, h4] <;> omega
            rw [hv]
            clear hv h0
            go_enter Tryd.func77, Tryd.ntmps77
            go_wp2_with (first | (go_at_call 58; refine (H0 _).mono ?_; rintro e w' ⟨rfl, hw⟩; rw [hw]; clear hw w'))
            all_goals go_ret
            all_goals refine ⟨?_, rfl⟩
            all_goals first | rfl | (simp <;> omega)
          · skip
            have hv : hxN r = false := by
              unfold hxN; simp [h0, h1, h2, h3, h4] <;> omega
            rw [hv]
            clear hv h0
            go_enter Tryd.func77, Tryd.ntmps77
            go_wp2_with (first | (go_at_call 58; refine (H0 _).mono ?_; rintro e w' ⟨rfl, hw⟩; rw [hw]; clear hw w'))
            all_goals go_ret
            all_goals refine ⟨?_, rfl⟩
            all_goals first | rfl | (simp <;> omega)
        · skip
          have hv : hxN r = false := by
            unfold hxN; simp [h0, h1, h2, h3] <;> omega
          rw [hv]
          clear hv h0
          go_enter Tryd.func77, Tryd.ntmps77
          go_wp2_with (first | (go_at_call 58; refine (H0 _).mono ?_; rintro e w' ⟨rfl, hw⟩; rw [hw]; clear hw w'))
          all_goals go_ret
          all_goals refine ⟨?_, rfl⟩
          all_goals first | rfl | (simp <;> omega)
    · skip
      by_cases h2 : (65 : Int) ≤ (r : Int)
      · skip
        by_cases h3 : (r : Int) ≤ (70 : Int)
        · skip
          have hv : hxN r = true := by
            unfold hxN; simp [h0, h1, h2, h3] <;> omega
          rw [hv]
          clear hv h0
          go_enter Tryd.func77, Tryd.ntmps77
          go_wp2_with (first | (go_at_call 58; refine (H0 _).mono ?_; rintro e w' ⟨rfl, hw⟩; rw [hw]; clear hw w'))
          all_goals go_ret
          all_goals refine ⟨?_, rfl⟩
          all_goals first | rfl | (simp <;> omega)
        · skip
          have hv : hxN r = false := by
            unfold hxN; simp [h0, h1, h2, h3] <;> omega
          rw [hv]
          clear hv h0
          go_enter Tryd.func77, Tryd.ntmps77
          go_wp2_with (first | (go_at_call 58; refine (H0 _).mono ?_; rintro e w' ⟨rfl, hw⟩; rw [hw]; clear hw w'))
          all_goals go_ret
          all_goals refine ⟨?_, rfl⟩
          all_goals first | rfl | (simp <;> omega)
      · skip
        have hv : hxN r = false := by
          unfold hxN; simp [h0, h1, h2] <;> omega
        rw [hv]
        clear hv h0
        go_enter Tryd.func77, Tryd.ntmps77
        go_wp2_with (first | (go_at_call 58; refine (H0 _).mono ?_; rintro e w' ⟨rfl, hw⟩; rw [hw]; clear hw w'))
        all_goals go_ret
        all_goals refine ⟨?_, rfl⟩
        all_goals first | rfl | (simp <;> omega)
  · have H0 := fun w' => isDigit_is r w'
    rw [h0] at H0
    have hv : hxN r = true := by
      unfold hxN; simp [h0] <;> omega
    rw [hv]
    clear hv h0
    go_enter Tryd.func77, Tryd.ntmps77
    go_wp2_with (first | (go_at_call 58; refine (H0 _).mono ?_; rintro e w' ⟨rfl, hw⟩; rw [hw]; clear hw w'))
    all_goals go_ret
    all_goals refine ⟨?_, rfl⟩
    all_goals first | rfl | (simp <;> omega)

set_option maxRecDepth 100000 in
set_option maxHeartbeats 1000000 in
theorem isBinary_is (r : Nat) (w : World) : Calls Tryd.prog 78 #[.int .i32 r] w fun e w' => e = .returned (.bool (biN r)) ∧ w' = w := by
  by_cases h0 : r = 48
  · have x0 : ((r : Int) == 48) = true := by rw [beq_iff_eq]; omega
    have hv : biN r = true := by
      unfold biN; simp [h0] <;> omega
    rw [hv]
    clear hv h0
    go_enter Tryd.func78, Tryd.ntmps78
    go_wp2
    all_goals go_ret
    all_goals refine ⟨?_, rfl⟩
    all_goals first | rfl | (simp <;> omega)
  · have x0 : ((r : Int) == 48) = false := by rw [beq_eq_false_iff_ne]; omega
    by_cases h1 : r = 49
    · have x1 : ((r : Int) == 49) = true := by rw [beq_iff_eq]; omega
      have hv : biN r = true := by
        unfold biN; simp [h0, h1] <;> omega
      rw [hv]
      clear hv h0 h1
      go_enter Tryd.func78, Tryd.ntmps78
      go_wp2
      all_goals go_ret
      all_goals refine ⟨?_, rfl⟩
      all_goals first | rfl | (simp <;> omega)
    · have x1 : ((r : Int) == 49) = false := by rw [beq_eq_false_iff_ne]; omega
      have hv : biN r = false := by
        unfold biN; simp [h0, h1] <;> omega
      rw [hv]
      clear hv h0 h1
      go_enter Tryd.func78, Tryd.ntmps78
      go_wp2
      all_goals go_ret
      all_goals refine ⟨?_, rfl⟩
      all_goals first | rfl | (simp <;> omega)

theorem kind_3 (w : World) : Calls Tryd.prog 51 #[.int .i64 3] w fun e w' => e = .returned (.int .i64 (kindN 3 : Nat)) ∧ w' = w := by
  go_enter Tryd.func51, Tryd.ntmps51
  go_wp2
  go_ret
  exact ⟨rfl, rfl⟩
theorem kind_4 (w : World) : Calls Tryd.prog 51 #[.int .i64 4] w fun e w' => e = .returned (.int .i64 (kindN 4 : Nat)) ∧ w' = w := by
  go_enter Tryd.func51, Tryd.ntmps51
  go_wp2
  go_ret
  exact ⟨rfl, rfl⟩
theorem kind_5 (w : World) : Calls Tryd.prog 51 #[.int .i64 5] w fun e w' => e = .returned (.int .i64 (kindN 5 : Nat)) ∧ w' = w := by
  go_enter Tryd.func51, Tryd.ntmps51
  go_wp2
  go_ret
  exact ⟨rfl, rfl⟩
theorem kind_6 (w : World) : Calls Tryd.prog 51 #[.int .i64 6] w fun e w' => e = .returned (.int .i64 (kindN 6 : Nat)) ∧ w' = w := by
  go_enter Tryd.func51, Tryd.ntmps51
  go_wp2
  go_ret
  exact ⟨rfl, rfl⟩
theorem kind_7 (w : World) : Calls Tryd.prog 51 #[.int .i64 7] w fun e w' => e = .returned (.int .i64 (kindN 7 : Nat)) ∧ w' = w := by
  go_enter Tryd.func51, Tryd.ntmps51
  go_wp2
  go_ret
  exact ⟨rfl, rfl⟩
theorem kind_8 (w : World) : Calls Tryd.prog 51 #[.int .i64 8] w fun e w' => e = .returned (.int .i64 (kindN 8 : Nat)) ∧ w' = w := by
  go_enter Tryd.func51, Tryd.ntmps51
  go_wp2
  go_ret
  exact ⟨rfl, rfl⟩
theorem kind_9 (w : World) : Calls Tryd.prog 51 #[.int .i64 9] w fun e w' => e = .returned (.int .i64 (kindN 9 : Nat)) ∧ w' = w := by
  go_enter Tryd.func51, Tryd.ntmps51
  go_wp2
  go_ret
  exact ⟨rfl, rfl⟩
theorem kind_10 (w : World) : Calls Tryd.prog 51 #[.int .i64 10] w fun e w' => e = .returned (.int .i64 (kindN 10 : Nat)) ∧ w' = w := by
  go_enter Tryd.func51, Tryd.ntmps51
  go_wp2
  go_ret
  exact ⟨rfl, rfl⟩
theorem kind_11 (w : World) : Calls Tryd.prog 51 #[.int .i64 11] w fun e w' => e = .returned (.int .i64 (kindN 11 : Nat)) ∧ w' = w := by
  go_enter Tryd.func51, Tryd.ntmps51
  go_wp2
  go_ret
  exact ⟨rfl, rfl⟩
theorem kind_12 (w : World) : Calls Tryd.prog 51 #[.int .i64 12] w fun e w' => e = .returned (.int .i64 (kindN 12 : Nat)) ∧ w' = w := by
  go_enter Tryd.func51, Tryd.ntmps51
  go_wp2
  go_ret
  exact ⟨rfl, rfl⟩
theorem kind_13 (w : World) : Calls Tryd.prog 51 #[.int .i64 13] w fun e w' => e = .returned (.int .i64 (kindN 13 : Nat)) ∧ w' = w := by
  go_enter Tryd.func51, Tryd.ntmps51
  go_wp2
  go_ret
  exact ⟨rfl, rfl⟩
theorem kind_14 (w : World) : Calls Tryd.prog 51 #[.int .i64 14] w fun e w' => e = .returned (.int .i64 (kindN 14 : Nat)) ∧ w' = w := by
  go_enter Tryd.func51, Tryd.ntmps51
  go_wp2
  go_ret
  exact ⟨rfl, rfl⟩
theorem kind_15 (w : World) : Calls Tryd.prog 51 #[.int .i64 15] w fun e w' => e = .returned (.int .i64 (kindN 15 : Nat)) ∧ w' = w := by
  go_enter Tryd.func51, Tryd.ntmps51
  go_wp2
  go_ret
  exact ⟨rfl, rfl⟩
theorem kind_16 (w : World) : Calls Tryd.prog 51 #[.int .i64 16] w fun e w' => e = .returned (.int .i64 (kindN 16 : Nat)) ∧ w' = w := by
  go_enter Tryd.func51, Tryd.ntmps51
  go_wp2
  go_ret
  exact ⟨rfl, rfl⟩
theorem kind_17 (w : World) : Calls Tryd.prog 51 #[.int .i64 17] w fun e w' => e = .returned (.int .i64 (kindN 17 : Nat)) ∧ w' = w := by
  go_enter Tryd.func51, Tryd.ntmps51
  go_wp2
  go_ret
  exact ⟨rfl, rfl⟩
theorem kind_18 (w : World) : Calls Tryd.prog 51 #[.int .i64 18] w fun e w' => e = .returned (.int .i64 (kindN 18 : Nat)) ∧ w' = w := by
  go_enter Tryd.func51, Tryd.ntmps51
  go_wp2
  go_ret
  exact ⟨rfl, rfl⟩
theorem kind_19 (w : World) : Calls Tryd.prog 51 #[.int .i64 19] w fun e w' => e = .returned (.int .i64 (kindN 19 : Nat)) ∧ w' = w := by
  go_enter Tryd.func51, Tryd.ntmps51
  go_wp2
  go_ret
  exact ⟨rfl, rfl⟩
theorem kind_20 (w : World) : Calls Tryd.prog 51 #[.int .i64 20] w fun e w' => e = .returned (.int .i64 (kindN 20 : Nat)) ∧ w' = w := by
  go_enter Tryd.func51, Tryd.ntmps51
  go_wp2
  go_ret
  exact ⟨rfl, rfl⟩
theorem kind_21 (w : World) : Calls Tryd.prog 51 #[.int .i64 21] w fun e w' => e = .returned (.int .i64 (kindN 21 : Nat)) ∧ w' = w := by
  go_enter Tryd.func51, Tryd.ntmps51
  go_wp2
  go_ret
  exact ⟨rfl, rfl⟩
theorem kind_22 (w : World) : Calls Tryd.prog 51 #[.int .i64 22] w fun e w' => e = .returned (.int .i64 (kindN 22 : Nat)) ∧ w' = w := by
  go_enter Tryd.func51, Tryd.ntmps51
  go_wp2
  go_ret
  exact ⟨rfl, rfl⟩
set_option maxRecDepth 100000 in
set_option maxHeartbeats 4000000 in
theorem start_is (r : Nat) (w : World) : Calls Tryd.prog 55 #[.int .i32 r] w fun e w' => e = .returned (.int .i64 (startN r : Nat)) ∧ Below w.heap.size w w' := by
  by_cases h1 : r = 59
  · have x1 : ((r : Int) == 59) = true := by rw [beq_iff_eq]; omega
    have y1 : ((r : Int) != 59) = false := by rw [bne, x1]; rfl
    have hv : startN r = 4 := by
      unfold startN; simp [h1]
    rw [hv]
    clear hv h1
    have bz := Below.refl w.heap.size w
    go_enter Tryd.func55, Tryd.ntmps55
    go_wp2
    go_ret
    exact ⟨rfl, bz⟩
  · have x1 : ((r : Int) == 59) = false := by rw [beq_eq_false_iff_ne]; omega
    have y1 : ((r : Int) != 59) = true := by rw [bne, x1]; rfl
    by_cases h2 : r = 40
    · have x2 : ((r : Int) == 40) = true := by rw [beq_iff_eq]; omega
      have y2 : ((r : Int) != 40) = false := by rw [bne, x2]; rfl
      have hv : startN r = 5 := by
        unfold startN; simp [h1, h2]
      rw [hv]
      clear hv h1 h2
      have bz := Below.refl w.heap.size w
      go_enter Tryd.func55, Tryd.ntmps55
      go_wp2
      go_ret
      exact ⟨rfl, bz⟩
    · have x2 : ((r : Int) == 40) = false := by rw [beq_eq_false_iff_ne]; omega
      have y2 : ((r : Int) != 40) = true := by rw [bne, x2]; rfl
      by_cases h3 : r = 41
      · have x3 : ((r : Int) == 41) = true := by rw [beq_iff_eq]; omega
        have y3 : ((r : Int) != 41) = false := by rw [bne, x3]; rfl
        have hv : startN r = 6 := by
          unfold startN; simp [h1, h2, h3]
        rw [hv]
        clear hv h1 h2 h3
        have bz := Below.refl w.heap.size w
        go_enter Tryd.func55, Tryd.ntmps55
        go_wp2
        go_ret
        exact ⟨rfl, bz⟩
      · have x3 : ((r : Int) == 41) = false := by rw [beq_eq_false_iff_ne]; omega
        have y3 : ((r : Int) != 41) = true := by rw [bne, x3]; rfl
        by_cases h4 : r = 124
        · have x4 : ((r : Int) == 124) = true := by rw [beq_iff_eq]; omega
          have y4 : ((r : Int) != 124) = false := by rw [bne, x4]; rfl
          have hv : startN r = 8 := by
            unfold startN; simp [h1, h2, h3, h4]
          rw [hv]
          clear hv h1 h2 h3 h4
          have bz := Below.refl w.heap.size w
          go_enter Tryd.func55, Tryd.ntmps55
          go_wp2
          go_ret
          exact ⟨rfl, bz⟩
        · have x4 : ((r : Int) == 124) = false := by rw [beq_eq_false_iff_ne]; omega
          have y4 : ((r : Int) != 124) = true := by rw [bne, x4]; rfl
          by_cases h5 : r = 34
          · have x5 : ((r : Int) == 34) = true := by rw [beq_iff_eq]; omega
            have y5 : ((r : Int) != 34) = false := by rw [bne, x5]; rfl
            have hv : startN r = 21 := by
              unfold startN; simp [h1, h2, h3, h4, h5]
            rw [hv]
            clear hv h1 h2 h3 h4 h5
            have bz := Below.refl w.heap.size w
            go_enter Tryd.func55, Tryd.ntmps55
            go_wp2
            go_ret
            exact ⟨rfl, bz⟩
          · have x5 : ((r : Int) == 34) = false := by rw [beq_eq_false_iff_ne]; omega
            have y5 : ((r : Int) != 34) = true := by rw [bne, x5]; rfl
            by_cases h6 : r = 58
            · have x6 : ((r : Int) == 58) = true := by rw [beq_iff_eq]; omega
              have y6 : ((r : Int) != 58) = false := by rw [bne, x6]; rfl
              have hv : startN r = 10 := by
                unfold startN; simp [h1, h2, h3, h4, h5, h6]
              rw [hv]
              clear hv h1 h2 h3 h4 h5 h6
              have bz := Below.refl w.heap.size w
              go_enter Tryd.func55, Tryd.ntmps55
              go_wp2
              go_ret
              exact ⟨rfl, bz⟩
            · have x6 : ((r : Int) == 58) = false := by rw [beq_eq_false_iff_ne]; omega
              have y6 : ((r : Int) != 58) = true := by rw [bne, x6]; rfl
              by_cases h7 : r = 35
              · have x7 : ((r : Int) == 35) = true := by rw [beq_iff_eq]; omega
                have y7 : ((r : Int) != 35) = false := by rw [bne, x7]; rfl
                have hv : startN r = 16 := by
                  unfold startN; simp [h1, h2, h3, h4, h5, h6, h7]
                rw [hv]
                clear hv h1 h2 h3 h4 h5 h6 h7
                have bz := Below.refl w.heap.size w
                go_enter Tryd.func55, Tryd.ntmps55
                go_wp2
                go_ret
                exact ⟨rfl, bz⟩
              · have x7 : ((r : Int) == 35) = false := by rw [beq_eq_false_iff_ne]; omega
                have y7 : ((r : Int) != 35) = true := by rw [bne, x7]; rfl
                by_cases h8 : r = 48
                · have x8 : ((r : Int) == 48) = true := by rw [beq_iff_eq]; omega
                  have y8 : ((r : Int) != 48) = false := by rw [bne, x8]; rfl
                  have hv : startN r = 12 := by
                    unfold startN; simp [h1, h2, h3, h4, h5, h6, h7, h8]
                  rw [hv]
                  clear hv h1 h2 h3 h4 h5 h6 h7 h8
                  have bz := Below.refl w.heap.size w
                  go_enter Tryd.func55, Tryd.ntmps55
                  go_wp2
                  go_ret
                  exact ⟨rfl, bz⟩
                · have x8 : ((r : Int) == 48) = false := by rw [beq_eq_false_iff_ne]; omega
                  have y8 : ((r : Int) != 48) = true := by rw [bne, x8]; rfl
                  cases h9 : blN r
                  · have H9 := fun w' => isBlank_is r w'
                    rw [h9] at H9
                    cases h10 : dgN r
                    · have H10 := fun w' => isDigit_is r w'
                      rw [h10] at H10
                      cases h11 : syN r
                      · have H11 := fun w' => isSymbol_is r w'
                        rw [h11] at H11
                        have hv : startN r = 25 := by
                          unfold startN; simp [h1, h2, h3, h4, h5, h6, h7, h8, h9, h10, h11]
                        rw [hv]
                        clear hv h1 h2 h3 h4 h5 h6 h7 h8 h9 h10 h11
                        have bz := Below.refl w.heap.size w
                        go_enter Tryd.func55, Tryd.ntmps55
                        go_wp2_with fail
                        refine (H9 _).mono ?_
                        rintro e w0 ⟨rfl, rfl⟩
                        go_wp2_with fail
                        refine (H10 _).mono ?_
                        rintro e w1 ⟨rfl, rfl⟩
                        go_wp2_with fail
                        refine (H11 _).mono ?_
                        rintro e w2 ⟨rfl, b2⟩
                        replace bz := bz.trans (b2.mono bz.size)
                        clear b2
                        go_wp2
                        go_ret
                        exact ⟨rfl, bz⟩
                      · have H11 := fun w' => isSymbol_is r w'
                        rw [h11] at H11
                        have hv : startN r = 7 := by
                          unfold startN; simp [h1, h2, h3, h4, h5, h6, h7, h8, h9, h10, h11]
                        rw [hv]
                        clear hv h1 h2 h3 h4 h5 h6 h7 h8 h9 h10 h11
                        have bz := Below.refl w.heap.size w
                        go_enter Tryd.func55, Tryd.ntmps55
                        go_wp2_with fail
                        refine (H9 _).mono ?_
                        rintro e w0 ⟨rfl, rfl⟩
                        go_wp2_with fail
                        refine (H10 _).mono ?_
                        rintro e w1 ⟨rfl, rfl⟩
                        go_wp2_with fail
                        refine (H11 _).mono ?_
                        rintro e w2 ⟨rfl, b2⟩
                        replace bz := bz.trans (b2.mono bz.size)
                        clear b2
                        go_wp2
                        go_ret
                        exact ⟨rfl, bz⟩
                    · have H10 := fun w' => isDigit_is r w'
                      rw [h10] at H10
                      have hv : startN r = 13 := by
                        unfold startN; simp [h1, h2, h3, h4, h5, h6, h7, h8, h9, h10]
                      rw [hv]
                      clear hv h1 h2 h3 h4 h5 h6 h7 h8 h9 h10
                      have bz := Below.refl w.heap.size w
                      go_enter Tryd.func55, Tryd.ntmps55
                      go_wp2_with fail
                      refine (H9 _).mono ?_
                      rintro e w0 ⟨rfl, rfl⟩
                      go_wp2_with fail
                      refine (H10 _).mono ?_
                      rintro e w1 ⟨rfl, rfl⟩
                      go_wp2
                      go_ret
                      exact ⟨rfl, bz⟩
                  · have H9 := fun w' => isBlank_is r w'
                    rw [h9] at H9
                    have hv : startN r = 3 := by
                      unfold startN; simp [h1, h2, h3, h4, h5, h6, h7, h8, h9]
                    rw [hv]
                    clear hv h1 h2 h3 h4 h5 h6 h7 h8 h9
                    have bz := Below.refl w.heap.size w
                    go_enter Tryd.func55, Tryd.ntmps55
                    go_wp2_with fail
                    refine (H9 _).mono ?_
                    rintro e w0 ⟨rfl, rfl⟩
                    go_wp2
                    go_ret
                    exact ⟨rfl, bz⟩

set_option maxRecDepth 100000 in
set_option maxHeartbeats 4000000 in
theorem quot_22 (r : Nat) (w : World) : Calls Tryd.prog 59 #[.int .i64 22, .int .i32 r] w fun e w' => e = .returned (.int .i64 (quotN 22 r : Nat)) ∧ Below w.heap.size w w' := by
  by_cases h1 : r = 34
  · have x1 : ((r : Int) == 34) = true := by rw [beq_iff_eq]; omega
    have y1 : ((r : Int) != 34) = false := by rw [bne, x1]; rfl
    have hv : quotN 22 r = 21 := by
      unfold quotN; simp [h1]
    rw [hv]
    clear hv h1
    have bz := Below.refl w.heap.size w
    go_enter Tryd.func59, Tryd.ntmps59
    go_wp2_with fail
    refine (where_is true 21 23 _).mono ?_
    rintro e w0 ⟨rfl, rfl⟩
    go_wp2
    go_ret
    exact ⟨rfl, bz⟩
  · have x1 : ((r : Int) == 34) = false := by rw [beq_eq_false_iff_ne]; omega
    have y1 : ((r : Int) != 34) = true := by rw [bne, x1]; rfl
    have hv : quotN 22 r = 23 := by
      unfold quotN; simp [h1]
    rw [hv]
    clear hv h1
    have bz := Below.refl w.heap.size w
    go_enter Tryd.func59, Tryd.ntmps59
    go_wp2_with fail
    refine (where_is false 21 23 _).mono ?_
    rintro e w0 ⟨rfl, rfl⟩
    go_wp2
    go_ret
    exact ⟨rfl, bz⟩

set_option maxRecDepth 100000 in
set_option maxHeartbeats 4000000 in
theorem quot_8 (r : Nat) (w : World) : Calls Tryd.prog 59 #[.int .i64 8, .int .i32 r] w fun e w' => e = .returned (.int .i64 (quotN 8 r : Nat)) ∧ Below w.heap.size w w' := by
  by_cases h1 : r = 124
  · have x1 : ((r : Int) == 124) = true := by rw [beq_iff_eq]; omega
    have y1 : ((r : Int) != 124) = false := by rw [bne, x1]; rfl
    have hv : quotN 8 r = 9 := by
      unfold quotN; simp [h1]
    rw [hv]
    clear hv h1
    have bz := Below.refl w.heap.size w
    go_enter Tryd.func59, Tryd.ntmps59
    go_wp2
    go_ret
    exact ⟨rfl, bz⟩
  · have x1 : ((r : Int) == 124) = false := by rw [beq_eq_false_iff_ne]; omega
    have y1 : ((r : Int) != 124) = true := by rw [bne, x1]; rfl
    cases h2 : nbN r
    · have H2 := fun w' => mayNotBeBarred_is r w'
      rw [h2] at H2
      have hv : quotN 8 r = 8 := by
        unfold quotN; simp [h1, h2]
      rw [hv]
      clear hv h1 h2
      have bz := Below.refl w.heap.size w
      go_enter Tryd.func59, Tryd.ntmps59
      go_wp2_with fail
      refine (H2 _).mono ?_
      rintro e w0 ⟨rfl, rfl⟩
      go_wp2_with fail
      refine (where_is false 25 8 _).mono ?_
      rintro e w1 ⟨rfl, rfl⟩
      go_wp2
      go_ret
      exact ⟨rfl, bz⟩
    · have H2 := fun w' => mayNotBeBarred_is r w'
      rw [h2] at H2
      have hv : quotN 8 r = 25 := by
        unfold quotN; simp [h1, h2]
      rw [hv]
      clear hv h1 h2
      have bz := Below.refl w.heap.size w
      go_enter Tryd.func59, Tryd.ntmps59
      go_wp2_with fail
      refine (H2 _).mono ?_
      rintro e w0 ⟨rfl, rfl⟩
      go_wp2_with fail
      refine (where_is true 25 8 _).mono ?_
      rintro e w1 ⟨rfl, rfl⟩
      go_wp2
      go_ret
      exact ⟨rfl, bz⟩

set_option maxRecDepth 100000 in
set_option maxHeartbeats 4000000 in
theorem quot_21 (r : Nat) (w : World) : Calls Tryd.prog 59 #[.int .i64 21, .int .i32 r] w fun e w' => e = .returned (.int .i64 (quotN 21 r : Nat)) ∧ Below w.heap.size w w' := by
  by_cases h1 : r = 34
  · have x1 : ((r : Int) == 34) = true := by rw [beq_iff_eq]; omega
    have y1 : ((r : Int) != 34) = false := by rw [bne, x1]; rfl
    have hv : quotN 21 r = 22 := by
      unfold quotN; simp [h1]
    rw [hv]
    clear hv h1
    have bz := Below.refl w.heap.size w
    go_enter Tryd.func59, Tryd.ntmps59
    go_wp2
    go_ret
    exact ⟨rfl, bz⟩
  · have x1 : ((r : Int) == 34) = false := by rw [beq_eq_false_iff_ne]; omega
    have y1 : ((r : Int) != 34) = true := by rw [bne, x1]; rfl
    cases h2 : nqN r
    · have H2 := fun w' => mayNotBeQuoted_is r w'
      rw [h2] at H2
      have hv : quotN 21 r = 21 := by
        unfold quotN; simp [h1, h2]
      rw [hv]
      clear hv h1 h2
      have bz := Below.refl w.heap.size w
      go_enter Tryd.func59, Tryd.ntmps59
      go_wp2_with fail
      refine (H2 _).mono ?_
      rintro e w0 ⟨rfl, rfl⟩
      go_wp2_with fail
      refine (where_is false 25 21 _).mono ?_
      rintro e w1 ⟨rfl, rfl⟩
      go_wp2
      go_ret
      exact ⟨rfl, bz⟩
    · have H2 := fun w' => mayNotBeQuoted_is r w'
      rw [h2] at H2
      have hv : quotN 21 r = 25 := by
        unfold quotN; simp [h1, h2]
      rw [hv]
      clear hv h1 h2
      have bz := Below.refl w.heap.size w
      go_enter Tryd.func59, Tryd.ntmps59
      go_wp2_with fail
      refine (H2 _).mono ?_
      rintro e w0 ⟨rfl, rfl⟩
      go_wp2_with fail
      refine (where_is true 25 21 _).mono ?_
      rintro e w1 ⟨rfl, rfl⟩
      go_wp2
      go_ret
      exact ⟨rfl, bz⟩

set_option maxRecDepth 100000 in
set_option maxHeartbeats 4000000 in
theorem num_12 (r : Nat) (w : World) : Calls Tryd.prog 60 #[.int .i64 12, .int .i32 r] w fun e w' => e = .returned (.int .i64 (numN 12 r : Nat)) ∧ Below w.heap.size w w' := by
  by_cases h1 : r = 46
  · have x1 : ((r : Int) == 46) = true := by rw [beq_iff_eq]; omega
    have y1 : ((r : Int) != 46) = false := by rw [bne, x1]; rfl
    have hv : numN 12 r = 14 := by
      unfold numN; simp [h1, kindN]
    rw [hv]
    clear hv h1
    have bz := Below.refl w.heap.size w
    go_enter Tryd.func60, Tryd.ntmps60
    go_wp2
    go_ret
    exact ⟨rfl, bz⟩
  · have x1 : ((r : Int) == 46) = false := by rw [beq_eq_false_iff_ne]; omega
    have y1 : ((r : Int) != 46) = true := by rw [bne, x1]; rfl
    cases h2 : syN r
    · have H2 := fun w' => isSymbol_is r w'
      rw [h2] at H2
      have hv : numN 12 r = 23 := by
        unfold numN; simp [h1, h2, kindN]
      rw [hv]
      clear hv h1 h2
      have bz := Below.refl w.heap.size w
      go_enter Tryd.func60, Tryd.ntmps60
      go_wp2_with fail
      refine (kind_12 _).mono ?_
      rintro e w0 ⟨rfl, rfl⟩
      go_wp2_with fail
      refine (H2 _).mono ?_
      rintro e w1 ⟨rfl, b1⟩
      replace bz := bz.trans (b1.mono bz.size)
      clear b1
      go_wp2_with fail
      refine (where_is false 24 23 _).mono ?_
      rintro e w2 ⟨rfl, rfl⟩
      go_wp2
      go_ret
      exact ⟨rfl, bz⟩
    · have H2 := fun w' => isSymbol_is r w'
      rw [h2] at H2
      have hv : numN 12 r = 24 := by
        unfold numN; simp [h1, h2, kindN]
      rw [hv]
      clear hv h1 h2
      have bz := Below.refl w.heap.size w
      go_enter Tryd.func60, Tryd.ntmps60
      go_wp2_with fail
      refine (kind_12 _).mono ?_
      rintro e w0 ⟨rfl, rfl⟩
      go_wp2_with fail
      refine (H2 _).mono ?_
      rintro e w1 ⟨rfl, b1⟩
      replace bz := bz.trans (b1.mono bz.size)
      clear b1
      go_wp2_with fail
      refine (where_is true 24 23 _).mono ?_
      rintro e w2 ⟨rfl, rfl⟩
      go_wp2
      go_ret
      exact ⟨rfl, bz⟩

set_option maxRecDepth 100000 in
set_option maxHeartbeats 4000000 in
theorem num_13 (r : Nat) (w : World) : Calls Tryd.prog 60 #[.int .i64 13, .int .i32 r] w fun e w' => e = .returned (.int .i64 (numN 13 r : Nat)) ∧ Below w.heap.size w w' := by
  by_cases h1 : r = 46
  · have x1 : ((r : Int) == 46) = true := by rw [beq_iff_eq]; omega
    have y1 : ((r : Int) != 46) = false := by rw [bne, x1]; rfl
    have hv : numN 13 r = 14 := by
      unfold numN; simp [h1, kindN]
    rw [hv]
    clear hv h1
    have bz := Below.refl w.heap.size w
    go_enter Tryd.func60, Tryd.ntmps60
    go_wp2
    go_ret
    exact ⟨rfl, bz⟩
  · have x1 : ((r : Int) == 46) = false := by rw [beq_eq_false_iff_ne]; omega
    have y1 : ((r : Int) != 46) = true := by rw [bne, x1]; rfl
    cases h2 : dgN r
    · have H2 := fun w' => isDigit_is r w'
      rw [h2] at H2
      cases h3 : syN r
      · have H3 := fun w' => isSymbol_is r w'
        rw [h3] at H3
        have hv : numN 13 r = 23 := by
          unfold numN; simp [h1, h2, h3, kindN]
        rw [hv]
        clear hv h1 h2 h3
        have bz := Below.refl w.heap.size w
        go_enter Tryd.func60, Tryd.ntmps60
        go_wp2_with fail
        refine (H2 _).mono ?_
        rintro e w0 ⟨rfl, rfl⟩
        go_wp2_with fail
        refine (kind_13 _).mono ?_
        rintro e w1 ⟨rfl, rfl⟩
        go_wp2_with fail
        refine (H3 _).mono ?_
        rintro e w2 ⟨rfl, b2⟩
        replace bz := bz.trans (b2.mono bz.size)
        clear b2
        go_wp2_with fail
        refine (where_is false 24 23 _).mono ?_
        rintro e w3 ⟨rfl, rfl⟩
        go_wp2
        go_ret
        exact ⟨rfl, bz⟩
      · have H3 := fun w' => isSymbol_is r w'
        rw [h3] at H3
        have hv : numN 13 r = 24 := by
          unfold numN; simp [h1, h2, h3, kindN]
        rw [hv]
        clear hv h1 h2 h3
        have bz := Below.refl w.heap.size w
        go_enter Tryd.func60, Tryd.ntmps60
        go_wp2_with fail
        refine (H2 _).mono ?_
        rintro e w0 ⟨rfl, rfl⟩
        go_wp2_with fail
        refine (kind_13 _).mono ?_
        rintro e w1 ⟨rfl, rfl⟩
        go_wp2_with fail
        refine (H3 _).mono ?_
        rintro e w2 ⟨rfl, b2⟩
        replace bz := bz.trans (b2.mono bz.size)
        clear b2
        go_wp2_with fail
        refine (where_is true 24 23 _).mono ?_
        rintro e w3 ⟨rfl, rfl⟩
        go_wp2
        go_ret
        exact ⟨rfl, bz⟩
    · have H2 := fun w' => isDigit_is r w'
      rw [h2] at H2
      have hv : numN 13 r = 13 := by
        unfold numN; simp [h1, h2, kindN]
      rw [hv]
      clear hv h1 h2
      have bz := Below.refl w.heap.size w
      go_enter Tryd.func60, Tryd.ntmps60
      go_wp2_with fail
      refine (H2 _).mono ?_
      rintro e w0 ⟨rfl, rfl⟩
      go_wp2
      go_ret
      exact ⟨rfl, bz⟩

set_option maxRecDepth 100000 in
set_option maxHeartbeats 4000000 in
theorem num_14 (r : Nat) (w : World) : Calls Tryd.prog 60 #[.int .i64 14, .int .i32 r] w fun e w' => e = .returned (.int .i64 (numN 14 r : Nat)) ∧ Below w.heap.size w w' := by
  cases h1 : dgN r
  · have H1 := fun w' => isDigit_is r w'
    rw [h1] at H1
    have hv : numN 14 r = 24 := by
      unfold numN; simp [h1, kindN]
    rw [hv]
    clear hv h1
    have bz := Below.refl w.heap.size w
    go_enter Tryd.func60, Tryd.ntmps60
    go_wp2_with fail
    refine (H1 _).mono ?_
    rintro e w0 ⟨rfl, rfl⟩
    go_wp2_with fail
    refine (kind_14 _).mono ?_
    rintro e w1 ⟨rfl, rfl⟩
    go_wp2_with fail
    refine (where_is true 24 23 _).mono ?_
    rintro e w2 ⟨rfl, rfl⟩
    go_wp2
    go_ret
    exact ⟨rfl, bz⟩
  · have H1 := fun w' => isDigit_is r w'
    rw [h1] at H1
    have hv : numN 14 r = 15 := by
      unfold numN; simp [h1, kindN]
    rw [hv]
    clear hv h1
    have bz := Below.refl w.heap.size w
    go_enter Tryd.func60, Tryd.ntmps60
    go_wp2_with fail
    refine (H1 _).mono ?_
    rintro e w0 ⟨rfl, rfl⟩
    go_wp2
    go_ret
    exact ⟨rfl, bz⟩

set_option maxRecDepth 100000 in
set_option maxHeartbeats 4000000 in
theorem num_15 (r : Nat) (w : World) : Calls Tryd.prog 60 #[.int .i64 15, .int .i32 r] w fun e w' => e = .returned (.int .i64 (numN 15 r : Nat)) ∧ Below w.heap.size w w' := by
  cases h1 : dgN r
  · have H1 := fun w' => isDigit_is r w'
    rw [h1] at H1
    cases h2 : syN r
    · have H2 := fun w' => isSymbol_is r w'
      rw [h2] at H2
      have hv : numN 15 r = 23 := by
        unfold numN; simp [h1, h2, kindN]
      rw [hv]
      clear hv h1 h2
      have bz := Below.refl w.heap.size w
      go_enter Tryd.func60, Tryd.ntmps60
      go_wp2_with fail
      refine (H1 _).mono ?_
      rintro e w0 ⟨rfl, rfl⟩
      go_wp2_with fail
      refine (kind_15 _).mono ?_
      rintro e w1 ⟨rfl, rfl⟩
      go_wp2_with fail
      refine (H2 _).mono ?_
      rintro e w2 ⟨rfl, b2⟩
      replace bz := bz.trans (b2.mono bz.size)
      clear b2
      go_wp2_with fail
      refine (where_is false 24 23 _).mono ?_
      rintro e w3 ⟨rfl, rfl⟩
      go_wp2
      go_ret
      exact ⟨rfl, bz⟩
    · have H2 := fun w' => isSymbol_is r w'
      rw [h2] at H2
      have hv : numN 15 r = 24 := by
        unfold numN; simp [h1, h2, kindN]
      rw [hv]
      clear hv h1 h2
      have bz := Below.refl w.heap.size w
      go_enter Tryd.func60, Tryd.ntmps60
      go_wp2_with fail
      refine (H1 _).mono ?_
      rintro e w0 ⟨rfl, rfl⟩
      go_wp2_with fail
      refine (kind_15 _).mono ?_
      rintro e w1 ⟨rfl, rfl⟩
      go_wp2_with fail
      refine (H2 _).mono ?_
      rintro e w2 ⟨rfl, b2⟩
      replace bz := bz.trans (b2.mono bz.size)
      clear b2
      go_wp2_with fail
      refine (where_is true 24 23 _).mono ?_
      rintro e w3 ⟨rfl, rfl⟩
      go_wp2
      go_ret
      exact ⟨rfl, bz⟩
  · have H1 := fun w' => isDigit_is r w'
    rw [h1] at H1
    have hv : numN 15 r = 15 := by
      unfold numN; simp [h1, kindN]
    rw [hv]
    clear hv h1
    have bz := Below.refl w.heap.size w
    go_enter Tryd.func60, Tryd.ntmps60
    go_wp2_with fail
    refine (H1 _).mono ?_
    rintro e w0 ⟨rfl, rfl⟩
    go_wp2
    go_ret
    exact ⟨rfl, bz⟩

set_option maxRecDepth 100000 in
set_option maxHeartbeats 4000000 in
theorem num_16 (r : Nat) (w : World) : Calls Tryd.prog 60 #[.int .i64 16, .int .i32 r] w fun e w' => e = .returned (.int .i64 (numN 16 r : Nat)) ∧ Below w.heap.size w w' := by
  by_cases h1 : r = 120
  · have x1 : ((r : Int) == 120) = true := by rw [beq_iff_eq]; omega
    have y1 : ((r : Int) != 120) = false := by rw [bne, x1]; rfl
    have hv : numN 16 r = 17 := by
      unfold numN; simp [h1, kindN]
    rw [hv]
    clear hv h1
    have bz := Below.refl w.heap.size w
    go_enter Tryd.func60, Tryd.ntmps60
    go_wp2
    go_ret
    exact ⟨rfl, bz⟩
  · have x1 : ((r : Int) == 120) = false := by rw [beq_eq_false_iff_ne]; omega
    have y1 : ((r : Int) != 120) = true := by rw [bne, x1]; rfl
    by_cases h2 : r = 98
    · have x2 : ((r : Int) == 98) = true := by rw [beq_iff_eq]; omega
      have y2 : ((r : Int) != 98) = false := by rw [bne, x2]; rfl
      have hv : numN 16 r = 19 := by
        unfold numN; simp [h1, h2, kindN]
      rw [hv]
      clear hv h1 h2
      have bz := Below.refl w.heap.size w
      go_enter Tryd.func60, Tryd.ntmps60
      go_wp2
      go_ret
      exact ⟨rfl, bz⟩
    · have x2 : ((r : Int) == 98) = false := by rw [beq_eq_false_iff_ne]; omega
      have y2 : ((r : Int) != 98) = true := by rw [bne, x2]; rfl
      have hv : numN 16 r = 24 := by
        unfold numN; simp [h1, h2, kindN]
      rw [hv]
      clear hv h1 h2
      have bz := Below.refl w.heap.size w
      go_enter Tryd.func60, Tryd.ntmps60
      go_wp2_with fail
      refine (kind_16 _).mono ?_
      rintro e w0 ⟨rfl, rfl⟩
      go_wp2_with fail
      refine (where_is true 24 23 _).mono ?_
      rintro e w1 ⟨rfl, rfl⟩
      go_wp2
      go_ret
      exact ⟨rfl, bz⟩

set_option maxRecDepth 100000 in
set_option maxHeartbeats 4000000 in
theorem num_17 (r : Nat) (w : World) : Calls Tryd.prog 60 #[.int .i64 17, .int .i32 r] w fun e w' => e = .returned (.int .i64 (numN 17 r : Nat)) ∧ Below w.heap.size w w' := by
  cases h1 : hxN r
  · have H1 := fun w' => isHex_is r w'
    rw [h1] at H1
    have hv : numN 17 r = 24 := by
      unfold numN; simp [h1, kindN]
    rw [hv]
    clear hv h1
    have bz := Below.refl w.heap.size w
    go_enter Tryd.func60, Tryd.ntmps60
    go_wp2_with fail
    refine (H1 _).mono ?_
    rintro e w0 ⟨rfl, rfl⟩
    go_wp2_with fail
    refine (kind_17 _).mono ?_
    rintro e w1 ⟨rfl, rfl⟩
    go_wp2_with fail
    refine (where_is true 24 23 _).mono ?_
    rintro e w2 ⟨rfl, rfl⟩
    go_wp2
    go_ret
    exact ⟨rfl, bz⟩
  · have H1 := fun w' => isHex_is r w'
    rw [h1] at H1
    have hv : numN 17 r = 18 := by
      unfold numN; simp [h1, kindN]
    rw [hv]
    clear hv h1
    have bz := Below.refl w.heap.size w
    go_enter Tryd.func60, Tryd.ntmps60
    go_wp2_with fail
    refine (H1 _).mono ?_
    rintro e w0 ⟨rfl, rfl⟩
    go_wp2
    go_ret
    exact ⟨rfl, bz⟩

set_option maxRecDepth 100000 in
set_option maxHeartbeats 4000000 in
theorem num_18 (r : Nat) (w : World) : Calls Tryd.prog 60 #[.int .i64 18, .int .i32 r] w fun e w' => e = .returned (.int .i64 (numN 18 r : Nat)) ∧ Below w.heap.size w w' := by
  cases h1 : hxN r
  · have H1 := fun w' => isHex_is r w'
    rw [h1] at H1
    cases h2 : syN r
    · have H2 := fun w' => isSymbol_is r w'
      rw [h2] at H2
      have hv : numN 18 r = 23 := by
        unfold numN; simp [h1, h2, kindN]
      rw [hv]
      clear hv h1 h2
      have bz := Below.refl w.heap.size w
      go_enter Tryd.func60, Tryd.ntmps60
      go_wp2_with fail
      refine (H1 _).mono ?_
      rintro e w0 ⟨rfl, rfl⟩
      go_wp2_with fail
      refine (kind_18 _).mono ?_
      rintro e w1 ⟨rfl, rfl⟩
      go_wp2_with fail
      refine (H2 _).mono ?_
      rintro e w2 ⟨rfl, b2⟩
      replace bz := bz.trans (b2.mono bz.size)
      clear b2
      go_wp2_with fail
      refine (where_is false 24 23 _).mono ?_
      rintro e w3 ⟨rfl, rfl⟩
      go_wp2
      go_ret
      exact ⟨rfl, bz⟩
    · have H2 := fun w' => isSymbol_is r w'
      rw [h2] at H2
      have hv : numN 18 r = 24 := by
        unfold numN; simp [h1, h2, kindN]
      rw [hv]
      clear hv h1 h2
      have bz := Below.refl w.heap.size w
      go_enter Tryd.func60, Tryd.ntmps60
      go_wp2_with fail
      refine (H1 _).mono ?_
      rintro e w0 ⟨rfl, rfl⟩
      go_wp2_with fail
      refine (kind_18 _).mono ?_
      rintro e w1 ⟨rfl, rfl⟩
      go_wp2_with fail
      refine (H2 _).mono ?_
      rintro e w2 ⟨rfl, b2⟩
      replace bz := bz.trans (b2.mono bz.size)
      clear b2
      go_wp2_with fail
      refine (where_is true 24 23 _).mono ?_
      rintro e w3 ⟨rfl, rfl⟩
      go_wp2
      go_ret
      exact ⟨rfl, bz⟩
  · have H1 := fun w' => isHex_is r w'
    rw [h1] at H1
    have hv : numN 18 r = 18 := by
      unfold numN; simp [h1, kindN]
    rw [hv]
    clear hv h1
    have bz := Below.refl w.heap.size w
    go_enter Tryd.func60, Tryd.ntmps60
    go_wp2_with fail
    refine (H1 _).mono ?_
    rintro e w0 ⟨rfl, rfl⟩
    go_wp2
    go_ret
    exact ⟨rfl, bz⟩

set_option maxRecDepth 100000 in
set_option maxHeartbeats 4000000 in
theorem num_19 (r : Nat) (w : World) : Calls Tryd.prog 60 #[.int .i64 19, .int .i32 r] w fun e w' => e = .returned (.int .i64 (numN 19 r : Nat)) ∧ Below w.heap.size w w' := by
  cases h1 : biN r
  · have H1 := fun w' => isBinary_is r w'
    rw [h1] at H1
    have hv : numN 19 r = 24 := by
      unfold numN; simp [h1, kindN]
    rw [hv]
    clear hv h1
    have bz := Below.refl w.heap.size w
    go_enter Tryd.func60, Tryd.ntmps60
    go_wp2_with fail
    refine (H1 _).mono ?_
    rintro e w0 ⟨rfl, rfl⟩
    go_wp2_with fail
    refine (kind_19 _).mono ?_
    rintro e w1 ⟨rfl, rfl⟩
    go_wp2_with fail
    refine (where_is true 24 23 _).mono ?_
    rintro e w2 ⟨rfl, rfl⟩
    go_wp2
    go_ret
    exact ⟨rfl, bz⟩
  · have H1 := fun w' => isBinary_is r w'
    rw [h1] at H1
    have hv : numN 19 r = 20 := by
      unfold numN; simp [h1, kindN]
    rw [hv]
    clear hv h1
    have bz := Below.refl w.heap.size w
    go_enter Tryd.func60, Tryd.ntmps60
    go_wp2_with fail
    refine (H1 _).mono ?_
    rintro e w0 ⟨rfl, rfl⟩
    go_wp2
    go_ret
    exact ⟨rfl, bz⟩

set_option maxRecDepth 100000 in
set_option maxHeartbeats 4000000 in
theorem num_20 (r : Nat) (w : World) : Calls Tryd.prog 60 #[.int .i64 20, .int .i32 r] w fun e w' => e = .returned (.int .i64 (numN 20 r : Nat)) ∧ Below w.heap.size w w' := by
  cases h1 : biN r
  · have H1 := fun w' => isBinary_is r w'
    rw [h1] at H1
    cases h2 : syN r
    · have H2 := fun w' => isSymbol_is r w'
      rw [h2] at H2
      have hv : numN 20 r = 23 := by
        unfold numN; simp [h1, h2, kindN]
      rw [hv]
      clear hv h1 h2
      have bz := Below.refl w.heap.size w
      go_enter Tryd.func60, Tryd.ntmps60
      go_wp2_with fail
      refine (H1 _).mono ?_
      rintro e w0 ⟨rfl, rfl⟩
      go_wp2_with fail
      refine (kind_20 _).mono ?_
      rintro e w1 ⟨rfl, rfl⟩
      go_wp2_with fail
      refine (H2 _).mono ?_
      rintro e w2 ⟨rfl, b2⟩
      replace bz := bz.trans (b2.mono bz.size)
      clear b2
      go_wp2_with fail
      refine (where_is false 24 23 _).mono ?_
      rintro e w3 ⟨rfl, rfl⟩
      go_wp2
      go_ret
      exact ⟨rfl, bz⟩
    · have H2 := fun w' => isSymbol_is r w'
      rw [h2] at H2
      have hv : numN 20 r = 24 := by
        unfold numN; simp [h1, h2, kindN]
      rw [hv]
      clear hv h1 h2
      have bz := Below.refl w.heap.size w
      go_enter Tryd.func60, Tryd.ntmps60
      go_wp2_with fail
      refine (H1 _).mono ?_
      rintro e w0 ⟨rfl, rfl⟩
      go_wp2_with fail
      refine (kind_20 _).mono ?_
      rintro e w1 ⟨rfl, rfl⟩
      go_wp2_with fail
      refine (H2 _).mono ?_
      rintro e w2 ⟨rfl, b2⟩
      replace bz := bz.trans (b2.mono bz.size)
      clear b2
      go_wp2_with fail
      refine (where_is true 24 23 _).mono ?_
      rintro e w3 ⟨rfl, rfl⟩
      go_wp2
      go_ret
      exact ⟨rfl, bz⟩
  · have H1 := fun w' => isBinary_is r w'
    rw [h1] at H1
    have hv : numN 20 r = 20 := by
      unfold numN; simp [h1, kindN]
    rw [hv]
    clear hv h1
    have bz := Below.refl w.heap.size w
    go_enter Tryd.func60, Tryd.ntmps60
    go_wp2_with fail
    refine (H1 _).mono ?_
    rintro e w0 ⟨rfl, rfl⟩
    go_wp2
    go_ret
    exact ⟨rfl, bz⟩

end Go.Proofs.YtibeiggedmabkaaDoor
