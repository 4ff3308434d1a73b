/-
  BoundsNobody.
-/
import Derived.Test.YtbjmmliajacklaaWB3
import Derived.Test.YtbjmmliajacklaaOpen
namespace Go.Proofs.Ytbjmmliajacklaa.boundsNobody
open Go.ChangeShapes Go.WideShapes Go.ChangeAt Go.RowKit Go.Proofs.Ytbjmmliajacklaa
set_option linter.unusedVariables false
set_option linter.unusedSimpArgs false

set_option maxHeartbeats 8000000 in
set_option maxRecDepth 100000 in
theorem walk (c0 c1 c2 c3 c4 c5 c6 c7 c8 c9 : Value) (w : World) :
    Calls Try.prog 3 #[.agg #[c0, c1, c2, c3, c4, c5, c6, c7, c8, c9]] w fun e w' => e = .returned (.bool true) ∧ Below w.heap.size w w' := by
  go_enter Try.func3, Try.ntmps3
  go_wp2_with fail
  obtain ⟨wA, hwA⟩ : ∃ wA, w.alloc (.cells #[c0, c1, c2, c3, c4, c5, c6, c7, c8, c9] 32) = wA := ⟨_, rfl⟩
  have hBA : Below w.heap.size w wA := by subst hwA; exact below_alloc _
  have d1 : wA.cell? ⟨w.heap.size, 1, none⟩ = some c1 := by subst hwA; go_simp
  have d2 : wA.cell? ⟨w.heap.size, 2, none⟩ = some c2 := by subst hwA; go_simp
  have d3 : wA.cell? ⟨w.heap.size, 3, none⟩ = some c3 := by subst hwA; go_simp
  have d4 : wA.cell? ⟨w.heap.size, 4, none⟩ = some c4 := by subst hwA; go_simp
  have d5 : wA.cell? ⟨w.heap.size, 5, none⟩ = some c5 := by subst hwA; go_simp
  have d6 : wA.cell? ⟨w.heap.size, 6, none⟩ = some c6 := by subst hwA; go_simp
  have d7 : wA.cell? ⟨w.heap.size, 7, none⟩ = some c7 := by subst hwA; go_simp
  have d8 : wA.cell? ⟨w.heap.size, 8, none⟩ = some c8 := by subst hwA; go_simp
  rw [hwA]
  clear hwA
  go_loopw [4] (fun vi wr => ∃ k : Nat, k ≤ 2 ∧ vi = .int .i64 k ∧ Below wA.heap.size wA wr) (fun vi _ => 2 - (intOf vi).toNat)
  case atStart => exact ⟨0, by omega, rfl, Below.refl _ _⟩
  case round =>
    obtain ⟨k, hk, rfl, hB⟩ := hrel
    replace d1 := below_cell hB d1
    replace d2 := below_cell hB d2
    replace d3 := below_cell hB d3
    replace d4 := below_cell hB d4
    replace d5 := below_cell hB d5
    replace d6 := below_cell hB d6
    replace d7 := below_cell hB d7
    replace d8 := below_cell hB d8
    rcases (show k = 0 ∨ k = 1 ∨ k = 2 by omega) with rfl | rfl | rfl
    · have hN : Nob wr (.pointer none) := Or.inl rfl
      go_wp2_with fail
      refine (push_no _ _ hN).mono ?_
      rintro e x1 ⟨⟨u, rfl⟩, b1⟩
      replace d1 := below_cell b1 d1
      replace d2 := below_cell b1 d2
      replace d3 := below_cell b1 d3
      replace d4 := below_cell b1 d4
      replace d5 := below_cell b1 d5
      replace d6 := below_cell b1 d6
      replace d7 := below_cell b1 d7
      replace d8 := below_cell b1 d8
      replace hN := hN.later b1
      replace hB := hB.trans (b1.mono hB.size)
      clear b1
      go_wp2_with fail
      refine (grow_no _ _ hN).mono ?_
      rintro e x2 ⟨rfl, b2⟩
      replace d1 := below_cell b2 d1
      replace d2 := below_cell b2 d2
      replace d3 := below_cell b2 d3
      replace d4 := below_cell b2 d4
      replace d5 := below_cell b2 d5
      replace d6 := below_cell b2 d6
      replace d7 := below_cell b2 d7
      replace d8 := below_cell b2 d8
      replace hN := hN.later b2
      replace hB := hB.trans (b2.mono hB.size)
      clear b2
      go_wp2_with fail
      refine (limit_no _ _ _ hN).mono ?_
      rintro e x3 ⟨rfl, b3⟩
      replace d1 := below_cell b3 d1
      replace d2 := below_cell b3 d2
      replace d3 := below_cell b3 d3
      replace d4 := below_cell b3 d4
      replace d5 := below_cell b3 d5
      replace d6 := below_cell b3 d6
      replace d7 := below_cell b3 d7
      replace d8 := below_cell b3 d8
      replace hN := hN.later b3
      replace hB := hB.trans (b3.mono hB.size)
      clear b3
      have bN := below_alloc (w := x3) (.cells #[.bool false, .bool false, .slice none 0 0, .slice none 0 0, .bool false, .slice none 0 0, .slice none 0 0, .int .i64 0, .bool false, .bool false, .slice none 0 0, .slice none 0 0, .bool false, .slice none 0 0, .slice none 0 0, .int .i64 0] 46)
      replace d1 := below_cell bN d1
      replace d2 := below_cell bN d2
      replace d3 := below_cell bN d3
      replace d4 := below_cell bN d4
      replace d5 := below_cell bN d5
      replace d6 := below_cell bN d6
      replace d7 := below_cell bN d7
      replace d8 := below_cell bN d8
      replace hN := hN.later bN
      replace hB := hB.trans (bN.mono hB.size)
      clear bN
      go_wp2_with fail
      generalize x3.alloc (.cells #[.bool false, .bool false, .slice none 0 0, .slice none 0 0, .bool false, .slice none 0 0, .slice none 0 0, .int .i64 0, .bool false, .bool false, .slice none 0 0, .slice none 0 0, .bool false, .slice none 0 0, .slice none 0 0, .int .i64 0] 46) = yz at d1 d2 d3 d4 d5 d6 d7 d8 hN hB ⊢
      refine (lift_no _ _ _ _ _ _ _ _ _ _ hN).mono ?_
      rintro e x4 ⟨rfl, b4⟩
      replace d1 := below_cell b4 d1
      replace d2 := below_cell b4 d2
      replace d3 := below_cell b4 d3
      replace d4 := below_cell b4 d4
      replace d5 := below_cell b4 d5
      replace d6 := below_cell b4 d6
      replace d7 := below_cell b4 d7
      replace d8 := below_cell b4 d8
      replace hN := hN.later b4
      replace hB := hB.trans (b4.mono hB.size)
      clear b4
      have bN := below_alloc (w := x4) (.cells #[.int .i64 0, .int .i64 0] 50)
      have v0 : (x4.alloc (.cells #[.int .i64 0, .int .i64 0] 50)).cell? ⟨x4.heap.size, 0, none⟩ = some (.int .i64 0) := by go_simp
      have v1 : (x4.alloc (.cells #[.int .i64 0, .int .i64 0] 50)).cell? ⟨x4.heap.size, 1, none⟩ = some (.int .i64 0) := by go_simp
      replace d1 := below_cell bN d1
      replace d2 := below_cell bN d2
      replace d3 := below_cell bN d3
      replace d4 := below_cell bN d4
      replace d5 := below_cell bN d5
      replace d6 := below_cell bN d6
      replace d7 := below_cell bN d7
      replace d8 := below_cell bN d8
      replace hN := hN.later bN
      replace hB := hB.trans (bN.mono hB.size)
      clear bN
      go_wp2_with fail
      generalize x4.alloc (.cells #[.int .i64 0, .int .i64 0] 50) = yv at d1 d2 d3 d4 d5 d6 d7 d8 hN hB v0 v1 ⊢
      refine (press_no _ _ _ _ _ _ _ _ _ _ hN).mono ?_
      rintro e x5 ⟨rfl, b5⟩
      replace d1 := below_cell b5 d1
      replace d2 := below_cell b5 d2
      replace d3 := below_cell b5 d3
      replace d4 := below_cell b5 d4
      replace d5 := below_cell b5 d5
      replace d6 := below_cell b5 d6
      replace d7 := below_cell b5 d7
      replace d8 := below_cell b5 d8
      replace v0 := below_cell b5 v0
      replace v1 := below_cell b5 v1
      replace hN := hN.later b5
      replace hB := hB.trans (b5.mono hB.size)
      clear b5
      have bN := below_alloc (w := x5) (.cells #[.int .i64 0, .int .i64 0] 50)
      have p0 : (x5.alloc (.cells #[.int .i64 0, .int .i64 0] 50)).cell? ⟨x5.heap.size, 0, none⟩ = some (.int .i64 0) := by go_simp
      have p1 : (x5.alloc (.cells #[.int .i64 0, .int .i64 0] 50)).cell? ⟨x5.heap.size, 1, none⟩ = some (.int .i64 0) := by go_simp
      replace d1 := below_cell bN d1
      replace d2 := below_cell bN d2
      replace d3 := below_cell bN d3
      replace d4 := below_cell bN d4
      replace d5 := below_cell bN d5
      replace d6 := below_cell bN d6
      replace d7 := below_cell bN d7
      replace d8 := below_cell bN d8
      replace v0 := below_cell bN v0
      replace v1 := below_cell bN v1
      replace hN := hN.later bN
      replace hB := hB.trans (bN.mono hB.size)
      clear bN
      go_wp2_with fail
      generalize x5.alloc (.cells #[.int .i64 0, .int .i64 0] 50) = yp at d1 d2 d3 d4 d5 d6 d7 d8 hN hB v0 v1 p0 p1 ⊢
      refine (fixed_no _ _ _ hN).mono ?_
      rintro e x6 ⟨rfl, b6⟩
      replace d1 := below_cell b6 d1
      replace d2 := below_cell b6 d2
      replace d3 := below_cell b6 d3
      replace d4 := below_cell b6 d4
      replace d5 := below_cell b6 d5
      replace d6 := below_cell b6 d6
      replace d7 := below_cell b6 d7
      replace d8 := below_cell b6 d8
      replace v0 := below_cell b6 v0
      replace v1 := below_cell b6 v1
      replace p0 := below_cell b6 p0
      replace p1 := below_cell b6 p1
      replace hN := hN.later b6
      replace hB := hB.trans (b6.mono hB.size)
      clear b6
      go_wp2_with fail
      refine (inside_no _ _ _ _ _ _ _ _ _ hN).mono ?_
      rintro e x7 ⟨rfl, b7⟩
      replace d1 := below_cell b7 d1
      replace d2 := below_cell b7 d2
      replace d3 := below_cell b7 d3
      replace d4 := below_cell b7 d4
      replace d5 := below_cell b7 d5
      replace d6 := below_cell b7 d6
      replace d7 := below_cell b7 d7
      replace d8 := below_cell b7 d8
      replace v0 := below_cell b7 v0
      replace v1 := below_cell b7 v1
      replace p0 := below_cell b7 p0
      replace p1 := below_cell b7 p1
      replace hN := hN.later b7
      replace hB := hB.trans (b7.mono hB.size)
      clear b7
      go_wp2_with fail
      refine (back_no _ _ _ hN).mono ?_
      rintro e x8 ⟨rfl, b8⟩
      replace d1 := below_cell b8 d1
      replace d2 := below_cell b8 d2
      replace d3 := below_cell b8 d3
      replace d4 := below_cell b8 d4
      replace d5 := below_cell b8 d5
      replace d6 := below_cell b8 d6
      replace d7 := below_cell b8 d7
      replace d8 := below_cell b8 d8
      replace v0 := below_cell b8 v0
      replace v1 := below_cell b8 v1
      replace p0 := below_cell b8 p0
      replace p1 := below_cell b8 p1
      replace hN := hN.later b8
      replace hB := hB.trans (b8.mono hB.size)
      clear b8
      go_wp2_with fail
      refine (vars_no _ _ hN).mono ?_
      rintro e x9 ⟨rfl, b9⟩
      replace d1 := below_cell b9 d1
      replace d2 := below_cell b9 d2
      replace d3 := below_cell b9 d3
      replace d4 := below_cell b9 d4
      replace d5 := below_cell b9 d5
      replace d6 := below_cell b9 d6
      replace d7 := below_cell b9 d7
      replace d8 := below_cell b9 d8
      replace v0 := below_cell b9 v0
      replace v1 := below_cell b9 v1
      replace p0 := below_cell b9 p0
      replace p1 := below_cell b9 p1
      replace hN := hN.later b9
      replace hB := hB.trans (b9.mono hB.size)
      clear b9
      go_wp2_with fail
      refine (level_no _ _ hN).mono ?_
      rintro e x10 ⟨rfl, b10⟩
      replace d1 := below_cell b10 d1
      replace d2 := below_cell b10 d2
      replace d3 := below_cell b10 d3
      replace d4 := below_cell b10 d4
      replace d5 := below_cell b10 d5
      replace d6 := below_cell b10 d6
      replace d7 := below_cell b10 d7
      replace d8 := below_cell b10 d8
      replace v0 := below_cell b10 v0
      replace v1 := below_cell b10 v1
      replace p0 := below_cell b10 p0
      replace p1 := below_cell b10 p1
      replace hN := hN.later b10
      replace hB := hB.trans (b10.mono hB.size)
      clear b10
      go_wp2_with fail
      refine (fits_no _ _ _ hN).mono ?_
      rintro e x11 ⟨rfl, b11⟩
      replace d1 := below_cell b11 d1
      replace d2 := below_cell b11 d2
      replace d3 := below_cell b11 d3
      replace d4 := below_cell b11 d4
      replace d5 := below_cell b11 d5
      replace d6 := below_cell b11 d6
      replace d7 := below_cell b11 d7
      replace d8 := below_cell b11 d8
      replace v0 := below_cell b11 v0
      replace v1 := below_cell b11 v1
      replace p0 := below_cell b11 p0
      replace p1 := below_cell b11 p1
      replace hN := hN.later b11
      replace hB := hB.trans (b11.mono hB.size)
      clear b11
      go_wp2_with fail
      refine (state_no _ _ hN).mono ?_
      rintro e x12 ⟨rfl, b12⟩
      replace d1 := below_cell b12 d1
      replace d2 := below_cell b12 d2
      replace d3 := below_cell b12 d3
      replace d4 := below_cell b12 d4
      replace d5 := below_cell b12 d5
      replace d6 := below_cell b12 d6
      replace d7 := below_cell b12 d7
      replace d8 := below_cell b12 d8
      replace v0 := below_cell b12 v0
      replace v1 := below_cell b12 v1
      replace p0 := below_cell b12 p0
      replace p1 := below_cell b12 p1
      replace hN := hN.later b12
      replace hB := hB.trans (b12.mono hB.size)
      clear b12
      go_wp2_with fail
      refine (sameState_zero _).mono ?_
      rintro e x13 ⟨rfl, b13⟩
      replace d1 := below_cell b13 d1
      replace d2 := below_cell b13 d2
      replace d3 := below_cell b13 d3
      replace d4 := below_cell b13 d4
      replace d5 := below_cell b13 d5
      replace d6 := below_cell b13 d6
      replace d7 := below_cell b13 d7
      replace d8 := below_cell b13 d8
      replace v0 := below_cell b13 v0
      replace v1 := below_cell b13 v1
      replace p0 := below_cell b13 p0
      replace p1 := below_cell b13 p1
      replace hN := hN.later b13
      replace hB := hB.trans (b13.mono hB.size)
      clear b13
      go_wp2
      go_roundw
      case rel => exact ⟨1, by omega, by go_num, hB⟩
      case measure => simp [intOf]
    · go_wp2_with fail
      have bS := below_alloc (w := wr) (.cells #[.int .i64 0, .slice none 0 0, .bool false, .slice none 0 0] 39)
      have hN : Nob (wr.alloc (.cells #[.int .i64 0, .slice none 0 0, .bool false, .slice none 0 0] 39)) (.pointer (some ⟨wr.heap.size, 0, none⟩)) := Or.inr ⟨wr.heap.size, rfl, by go_simp⟩
      replace d1 := below_cell bS d1
      replace d2 := below_cell bS d2
      replace d3 := below_cell bS d3
      replace d4 := below_cell bS d4
      replace d5 := below_cell bS d5
      replace d6 := below_cell bS d6
      replace d7 := below_cell bS d7
      replace d8 := below_cell bS d8
      replace hB := hB.trans (bS.mono hB.size)
      clear bS
      generalize wr.alloc (.cells #[.int .i64 0, .slice none 0 0, .bool false, .slice none 0 0] 39) = ws at d1 d2 d3 d4 d5 d6 d7 d8 hN hB ⊢
      refine (push_no _ _ hN).mono ?_
      rintro e x1 ⟨⟨u, rfl⟩, b1⟩
      replace d1 := below_cell b1 d1
      replace d2 := below_cell b1 d2
      replace d3 := below_cell b1 d3
      replace d4 := below_cell b1 d4
      replace d5 := below_cell b1 d5
      replace d6 := below_cell b1 d6
      replace d7 := below_cell b1 d7
      replace d8 := below_cell b1 d8
      replace hN := hN.later b1
      replace hB := hB.trans (b1.mono hB.size)
      clear b1
      go_wp2_with fail
      refine (grow_no _ _ hN).mono ?_
      rintro e x2 ⟨rfl, b2⟩
      replace d1 := below_cell b2 d1
      replace d2 := below_cell b2 d2
      replace d3 := below_cell b2 d3
      replace d4 := below_cell b2 d4
      replace d5 := below_cell b2 d5
      replace d6 := below_cell b2 d6
      replace d7 := below_cell b2 d7
      replace d8 := below_cell b2 d8
      replace hN := hN.later b2
      replace hB := hB.trans (b2.mono hB.size)
      clear b2
      go_wp2_with fail
      refine (limit_no _ _ _ hN).mono ?_
      rintro e x3 ⟨rfl, b3⟩
      replace d1 := below_cell b3 d1
      replace d2 := below_cell b3 d2
      replace d3 := below_cell b3 d3
      replace d4 := below_cell b3 d4
      replace d5 := below_cell b3 d5
      replace d6 := below_cell b3 d6
      replace d7 := below_cell b3 d7
      replace d8 := below_cell b3 d8
      replace hN := hN.later b3
      replace hB := hB.trans (b3.mono hB.size)
      clear b3
      have bN := below_alloc (w := x3) (.cells #[.bool false, .bool false, .slice none 0 0, .slice none 0 0, .bool false, .slice none 0 0, .slice none 0 0, .int .i64 0, .bool false, .bool false, .slice none 0 0, .slice none 0 0, .bool false, .slice none 0 0, .slice none 0 0, .int .i64 0] 46)
      replace d1 := below_cell bN d1
      replace d2 := below_cell bN d2
      replace d3 := below_cell bN d3
      replace d4 := below_cell bN d4
      replace d5 := below_cell bN d5
      replace d6 := below_cell bN d6
      replace d7 := below_cell bN d7
      replace d8 := below_cell bN d8
      replace hN := hN.later bN
      replace hB := hB.trans (bN.mono hB.size)
      clear bN
      go_wp2_with fail
      generalize x3.alloc (.cells #[.bool false, .bool false, .slice none 0 0, .slice none 0 0, .bool false, .slice none 0 0, .slice none 0 0, .int .i64 0, .bool false, .bool false, .slice none 0 0, .slice none 0 0, .bool false, .slice none 0 0, .slice none 0 0, .int .i64 0] 46) = yz at d1 d2 d3 d4 d5 d6 d7 d8 hN hB ⊢
      refine (lift_no _ _ _ _ _ _ _ _ _ _ hN).mono ?_
      rintro e x4 ⟨rfl, b4⟩
      replace d1 := below_cell b4 d1
      replace d2 := below_cell b4 d2
      replace d3 := below_cell b4 d3
      replace d4 := below_cell b4 d4
      replace d5 := below_cell b4 d5
      replace d6 := below_cell b4 d6
      replace d7 := below_cell b4 d7
      replace d8 := below_cell b4 d8
      replace hN := hN.later b4
      replace hB := hB.trans (b4.mono hB.size)
      clear b4
      have bN := below_alloc (w := x4) (.cells #[.int .i64 0, .int .i64 0] 50)
      have v0 : (x4.alloc (.cells #[.int .i64 0, .int .i64 0] 50)).cell? ⟨x4.heap.size, 0, none⟩ = some (.int .i64 0) := by go_simp
      have v1 : (x4.alloc (.cells #[.int .i64 0, .int .i64 0] 50)).cell? ⟨x4.heap.size, 1, none⟩ = some (.int .i64 0) := by go_simp
      replace d1 := below_cell bN d1
      replace d2 := below_cell bN d2
      replace d3 := below_cell bN d3
      replace d4 := below_cell bN d4
      replace d5 := below_cell bN d5
      replace d6 := below_cell bN d6
      replace d7 := below_cell bN d7
      replace d8 := below_cell bN d8
      replace hN := hN.later bN
      replace hB := hB.trans (bN.mono hB.size)
      clear bN
      go_wp2_with fail
      generalize x4.alloc (.cells #[.int .i64 0, .int .i64 0] 50) = yv at d1 d2 d3 d4 d5 d6 d7 d8 hN hB v0 v1 ⊢
      refine (press_no _ _ _ _ _ _ _ _ _ _ hN).mono ?_
      rintro e x5 ⟨rfl, b5⟩
      replace d1 := below_cell b5 d1
      replace d2 := below_cell b5 d2
      replace d3 := below_cell b5 d3
      replace d4 := below_cell b5 d4
      replace d5 := below_cell b5 d5
      replace d6 := below_cell b5 d6
      replace d7 := below_cell b5 d7
      replace d8 := below_cell b5 d8
      replace v0 := below_cell b5 v0
      replace v1 := below_cell b5 v1
      replace hN := hN.later b5
      replace hB := hB.trans (b5.mono hB.size)
      clear b5
      have bN := below_alloc (w := x5) (.cells #[.int .i64 0, .int .i64 0] 50)
      have p0 : (x5.alloc (.cells #[.int .i64 0, .int .i64 0] 50)).cell? ⟨x5.heap.size, 0, none⟩ = some (.int .i64 0) := by go_simp
      have p1 : (x5.alloc (.cells #[.int .i64 0, .int .i64 0] 50)).cell? ⟨x5.heap.size, 1, none⟩ = some (.int .i64 0) := by go_simp
      replace d1 := below_cell bN d1
      replace d2 := below_cell bN d2
      replace d3 := below_cell bN d3
      replace d4 := below_cell bN d4
      replace d5 := below_cell bN d5
      replace d6 := below_cell bN d6
      replace d7 := below_cell bN d7
      replace d8 := below_cell bN d8
      replace v0 := below_cell bN v0
      replace v1 := below_cell bN v1
      replace hN := hN.later bN
      replace hB := hB.trans (bN.mono hB.size)
      clear bN
      go_wp2_with fail
      generalize x5.alloc (.cells #[.int .i64 0, .int .i64 0] 50) = yp at d1 d2 d3 d4 d5 d6 d7 d8 hN hB v0 v1 p0 p1 ⊢
      refine (fixed_no _ _ _ hN).mono ?_
      rintro e x6 ⟨rfl, b6⟩
      replace d1 := below_cell b6 d1
      replace d2 := below_cell b6 d2
      replace d3 := below_cell b6 d3
      replace d4 := below_cell b6 d4
      replace d5 := below_cell b6 d5
      replace d6 := below_cell b6 d6
      replace d7 := below_cell b6 d7
      replace d8 := below_cell b6 d8
      replace v0 := below_cell b6 v0
      replace v1 := below_cell b6 v1
      replace p0 := below_cell b6 p0
      replace p1 := below_cell b6 p1
      replace hN := hN.later b6
      replace hB := hB.trans (b6.mono hB.size)
      clear b6
      go_wp2_with fail
      refine (inside_no _ _ _ _ _ _ _ _ _ hN).mono ?_
      rintro e x7 ⟨rfl, b7⟩
      replace d1 := below_cell b7 d1
      replace d2 := below_cell b7 d2
      replace d3 := below_cell b7 d3
      replace d4 := below_cell b7 d4
      replace d5 := below_cell b7 d5
      replace d6 := below_cell b7 d6
      replace d7 := below_cell b7 d7
      replace d8 := below_cell b7 d8
      replace v0 := below_cell b7 v0
      replace v1 := below_cell b7 v1
      replace p0 := below_cell b7 p0
      replace p1 := below_cell b7 p1
      replace hN := hN.later b7
      replace hB := hB.trans (b7.mono hB.size)
      clear b7
      go_wp2_with fail
      refine (back_no _ _ _ hN).mono ?_
      rintro e x8 ⟨rfl, b8⟩
      replace d1 := below_cell b8 d1
      replace d2 := below_cell b8 d2
      replace d3 := below_cell b8 d3
      replace d4 := below_cell b8 d4
      replace d5 := below_cell b8 d5
      replace d6 := below_cell b8 d6
      replace d7 := below_cell b8 d7
      replace d8 := below_cell b8 d8
      replace v0 := below_cell b8 v0
      replace v1 := below_cell b8 v1
      replace p0 := below_cell b8 p0
      replace p1 := below_cell b8 p1
      replace hN := hN.later b8
      replace hB := hB.trans (b8.mono hB.size)
      clear b8
      go_wp2_with fail
      refine (vars_no _ _ hN).mono ?_
      rintro e x9 ⟨rfl, b9⟩
      replace d1 := below_cell b9 d1
      replace d2 := below_cell b9 d2
      replace d3 := below_cell b9 d3
      replace d4 := below_cell b9 d4
      replace d5 := below_cell b9 d5
      replace d6 := below_cell b9 d6
      replace d7 := below_cell b9 d7
      replace d8 := below_cell b9 d8
      replace v0 := below_cell b9 v0
      replace v1 := below_cell b9 v1
      replace p0 := below_cell b9 p0
      replace p1 := below_cell b9 p1
      replace hN := hN.later b9
      replace hB := hB.trans (b9.mono hB.size)
      clear b9
      go_wp2_with fail
      refine (level_no _ _ hN).mono ?_
      rintro e x10 ⟨rfl, b10⟩
      replace d1 := below_cell b10 d1
      replace d2 := below_cell b10 d2
      replace d3 := below_cell b10 d3
      replace d4 := below_cell b10 d4
      replace d5 := below_cell b10 d5
      replace d6 := below_cell b10 d6
      replace d7 := below_cell b10 d7
      replace d8 := below_cell b10 d8
      replace v0 := below_cell b10 v0
      replace v1 := below_cell b10 v1
      replace p0 := below_cell b10 p0
      replace p1 := below_cell b10 p1
      replace hN := hN.later b10
      replace hB := hB.trans (b10.mono hB.size)
      clear b10
      go_wp2_with fail
      refine (fits_no _ _ _ hN).mono ?_
      rintro e x11 ⟨rfl, b11⟩
      replace d1 := below_cell b11 d1
      replace d2 := below_cell b11 d2
      replace d3 := below_cell b11 d3
      replace d4 := below_cell b11 d4
      replace d5 := below_cell b11 d5
      replace d6 := below_cell b11 d6
      replace d7 := below_cell b11 d7
      replace d8 := below_cell b11 d8
      replace v0 := below_cell b11 v0
      replace v1 := below_cell b11 v1
      replace p0 := below_cell b11 p0
      replace p1 := below_cell b11 p1
      replace hN := hN.later b11
      replace hB := hB.trans (b11.mono hB.size)
      clear b11
      go_wp2_with fail
      refine (state_no _ _ hN).mono ?_
      rintro e x12 ⟨rfl, b12⟩
      replace d1 := below_cell b12 d1
      replace d2 := below_cell b12 d2
      replace d3 := below_cell b12 d3
      replace d4 := below_cell b12 d4
      replace d5 := below_cell b12 d5
      replace d6 := below_cell b12 d6
      replace d7 := below_cell b12 d7
      replace d8 := below_cell b12 d8
      replace v0 := below_cell b12 v0
      replace v1 := below_cell b12 v1
      replace p0 := below_cell b12 p0
      replace p1 := below_cell b12 p1
      replace hN := hN.later b12
      replace hB := hB.trans (b12.mono hB.size)
      clear b12
      go_wp2_with fail
      refine (sameState_zero _).mono ?_
      rintro e x13 ⟨rfl, b13⟩
      replace d1 := below_cell b13 d1
      replace d2 := below_cell b13 d2
      replace d3 := below_cell b13 d3
      replace d4 := below_cell b13 d4
      replace d5 := below_cell b13 d5
      replace d6 := below_cell b13 d6
      replace d7 := below_cell b13 d7
      replace d8 := below_cell b13 d8
      replace v0 := below_cell b13 v0
      replace v1 := below_cell b13 v1
      replace p0 := below_cell b13 p0
      replace p1 := below_cell b13 p1
      replace hN := hN.later b13
      replace hB := hB.trans (b13.mono hB.size)
      clear b13
      go_wp2
      go_roundw
      case rel => exact ⟨2, by omega, by go_num, hB⟩
      case measure => simp [intOf]
    · go_wp2
      go_ret
      exact ⟨rfl, hBA.trans (hB.mono hBA.size)⟩

set_option maxRecDepth 100000 in
theorem contract (H : Type) (enc : TypeId × Value → H) (W : World) (base : Nat) (args : Array Value) (ds gs : List (DataW H)) (before : List MemPlace)
    (hval : ∀ (j : Nat) t v, Try.f3.params[j]? = some t → args[j]? = some v → Value.okWide Try.prog W .any base t v)
    (hW : DataW.Whole enc Try.prog Try.f3.params.toList Rows.boundsNobodySpec.vars false W args.toList ds gs before)
    (hsz : (DataW.weightsEach Try.prog (Try.f3.params.toList ++ Rows.boundsNobodySpec.plain.varTypes Try.prog) (ds ++ gs)).all (· ≤ reachBytes) = true) :
    Calls Try.prog 3 args W fun e W' => ∃ v, e = .returned v ∧ Rows.boundsNobodySpec.post enc Try.prog Try.f3 false true false false W args v W' := by
  have hW' := hW
  obtain ⟨p, q, hA0, hV, rfl, hfz, hnd⟩ := hW
  have hA : DataW.TrodAll enc Try.prog W 0 (fun _ => true) true Try.f3.params.toList args.toList ds p := hA0
  rw [Try.params3] at hA hval hsz
  obtain ⟨v0, vs0, d0, ds0, p0, q0, hargs, rfl, rfl, h0, r0⟩ := trodAll_cons hA
  obtain ⟨rfl, rfl, rfl⟩ := trodAll_nil r0
  obtain rfl : args = #[v0] := by cases args; simp_all
  obtain ⟨rfl, rfl⟩ := trodVars_none hV
  have lt0 : ∀ x ∈ p0, x.block < W.heap.size := by obtain ⟨m, hm⟩ := h0; exact DataW.trod_lt m _ _ _ hm
  obtain ⟨cs0, rfl, hcs0⟩ := okWide_struct Try.underlying32 (hval 0 32 v0 rfl rfl)
  rw [show Try.prog.cellsOf 32 = 10 by kernel_rfl] at hcs0
  obtain ⟨rc0_0, rc0_1, rc0_2, rc0_3, rc0_4, rc0_5, rc0_6, rc0_7, rc0_8, rc0_9, rfl⟩ : ∃ rc0_0 rc0_1 rc0_2 rc0_3 rc0_4 rc0_5 rc0_6 rc0_7 rc0_8 rc0_9, cs0 = #[rc0_0, rc0_1, rc0_2, rc0_3, rc0_4, rc0_5, rc0_6, rc0_7, rc0_8, rc0_9] := by
    match cs0, hcs0 with
    | ⟨[rc0_0, rc0_1, rc0_2, rc0_3, rc0_4, rc0_5, rc0_6, rc0_7, rc0_8, rc0_9]⟩, _ => exact ⟨rc0_0, rc0_1, rc0_2, rc0_3, rc0_4, rc0_5, rc0_6, rc0_7, rc0_8, rc0_9, rfl⟩
  clear hA0
  simp only [List.append_nil] at hW'
  refine (walk rc0_0 rc0_1 rc0_2 rc0_3 rc0_4 rc0_5 rc0_6 rc0_7 rc0_8 rc0_9 W ).mono fun e W' ⟨he, bel⟩ => ?_
  subst he
  exact ⟨_, rfl, _, _, _, [], _, [], hW', trodAll_mk1 (shut_bool Try.underlying4 _), (trodAll_cons_mk (Below.trod laidOut (by kernel_rfl) (of_decide_eq_true (by kernel_rfl)) h0 bel lt0) trodAll_mk0), rfl, bel.frame _, fun h => by cases h⟩

set_option maxRecDepth 100000 in
theorem lifted (os : Os) (started : os.Started) (H : Type) (enc : TypeId × Value → H) :
    ReturnsInHanded {} Try.checked os 3 .any (Rows.boundsNobodySpec.pre6 enc Try.prog Try.f3 Rows.boundsNobodyRow.domain false) (Rows.boundsNobodySpec.post enc Try.prog Try.f3 false true false false) := by
  refine returnsInHanded_of_change_sized (C := Try.checked) own started (by kernel_rfl) Try.func3
    (ChangeSpec.witness6 (enc := enc) (C := Try.checked) false ⟨#[], #[.agg #[.int .i64 0, .int .i64 0, .bool false, .slice none 0 0, .slice none 0 0, .bool false, .slice none 0 0, .slice none 0 0, .int .i64 0, .slice none 0 0]], []⟩ 8 (by kernel_rfl) (by kernel_rfl) (by kernel_rfl) (by kernel_rfl)) ?_
  intro W base args ds gs before hval hW _ hsz _
  exact contract H enc W base args ds gs before hval hW hsz

theorem over : Rows.boundsNobodyRow.holds Try.pinned (OpenSpec.ofChange Rows.boundsNobodySpec) :=
  OpenClaim.holds_of_wide 3 Try.f3 rfl rfl rfl rfl rfl rfl rfl ⟨rfl, rfl, rfl, rfl, rfl⟩ rfl rfl rfl rfl rfl (by kernel_rfl) Try.func3 (by kernel_rfl)
    (of_decide_eq_true (by kernel_rfl)) (by unfold Func.isWrapper; first | (rw [if_pos (by decide +kernel)]; kernel_rfl) | (rw [if_neg (by decide +kernel)]; exact ⟨rfl, rfl⟩))
    (fun os started H enc _ => lifted os started H enc)

end Go.Proofs.Ytbjmmliajacklaa.boundsNobody
namespace Go.Proofs.Ytbjmmliajacklaa
theorem boundsNobody_holds : Rows.BoundsNobodySaid := boundsNobody.over
#print axioms boundsNobody_holds
end Go.Proofs.Ytbjmmliajacklaa
