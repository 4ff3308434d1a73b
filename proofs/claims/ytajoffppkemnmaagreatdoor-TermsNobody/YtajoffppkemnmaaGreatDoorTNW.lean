/-
  TermsNobody: the walk.
-/
import Derived.Test.YtajoffppkemnmaaGreatDoorTNB
namespace Go.Proofs.YtajoffppkemnmaaGreatDoor.termsNobody
open Go.RowKit Go.Proofs.YtajoffppkemnmaaGreatDoor
set_option linter.unusedVariables false
set_option linter.unusedSimpArgs false

set_option maxHeartbeats 8000000 in
set_option maxRecDepth 100000 in
theorem walk (c0 c1 c2 c3 c4 c5 c6 c7 c8 c9 c10 c11 c12 c13 c14 c15 c16 c17 c18 : Value) (w : World) :
    Calls Tryz.prog 3 #[.agg #[c0, c1, c2, c3, c4, c5, c6, c7, c8, c9, c10, c11, c12, c13, c14, c15, c16, c17, c18]] w fun e w' => e = .returned (.bool true) ∧ Below w.heap.size w w' := by
  go_enter Tryz.func3, Tryz.ntmps3
  go_wp2_with fail
  obtain ⟨wA, hwA⟩ : ∃ wA, w.alloc (.cells #[c0, c1, c2, c3, c4, c5, c6, c7, c8, c9, c10, c11, c12, c13, c14, c15, c16, c17, c18] 38) = wA := ⟨_, rfl⟩
  have hBA : Below w.heap.size w wA := by subst hwA; exact below_alloc _
  have d1 : wA.cell? ⟨w.heap.size, 1, none⟩ = some c1 := by subst hwA; go_simp
  have d2 : wA.cell? ⟨w.heap.size, 2, none⟩ = some c2 := by subst hwA; go_simp
  have d3 : wA.cell? ⟨w.heap.size, 3, none⟩ = some c3 := by subst hwA; go_simp
  have d4 : wA.cell? ⟨w.heap.size, 4, none⟩ = some c4 := by subst hwA; go_simp
  have d5 : wA.cell? ⟨w.heap.size, 5, none⟩ = some c5 := by subst hwA; go_simp
  have d6 : wA.cell? ⟨w.heap.size, 6, none⟩ = some c6 := by subst hwA; go_simp
  have d7 : wA.cell? ⟨w.heap.size, 7, none⟩ = some c7 := by subst hwA; go_simp
  have d8 : wA.cell? ⟨w.heap.size, 8, none⟩ = some c8 := by subst hwA; go_simp
  have d9 : wA.cell? ⟨w.heap.size, 9, none⟩ = some c9 := by subst hwA; go_simp
  have d10 : wA.cell? ⟨w.heap.size, 10, none⟩ = some c10 := by subst hwA; go_simp
  have d11 : wA.cell? ⟨w.heap.size, 11, none⟩ = some c11 := by subst hwA; go_simp
  have d12 : wA.cell? ⟨w.heap.size, 12, none⟩ = some c12 := by subst hwA; go_simp
  have d13 : wA.cell? ⟨w.heap.size, 13, none⟩ = some c13 := by subst hwA; go_simp
  have d14 : wA.cell? ⟨w.heap.size, 14, none⟩ = some c14 := by subst hwA; go_simp
  have d15 : wA.cell? ⟨w.heap.size, 15, none⟩ = some c15 := by subst hwA; go_simp
  have d16 : wA.cell? ⟨w.heap.size, 16, none⟩ = some c16 := by subst hwA; go_simp
  have d17 : wA.cell? ⟨w.heap.size, 17, none⟩ = some c17 := by subst hwA; go_simp
  have d18 : wA.cell? ⟨w.heap.size, 18, none⟩ = some c18 := by subst hwA; go_simp
  rw [hwA]
  clear hwA
  go_loopw [4] (fun vi wr => ∃ k : Nat, k ≤ 2 ∧ vi = .int .i64 k ∧ Below wA.heap.size wA wr) (fun vi _ => 2 - (intOf vi).toNat)
  case atStart => exact ⟨0, by omega, rfl, Below.refl _ _⟩
  case round =>
    obtain ⟨k, hk, rfl, hB⟩ := hrel
    replace d1 := below_cell hB d1
    replace d2 := below_cell hB d2
    replace d3 := below_cell hB d3
    replace d4 := below_cell hB d4
    replace d5 := below_cell hB d5
    replace d6 := below_cell hB d6
    replace d7 := below_cell hB d7
    replace d8 := below_cell hB d8
    replace d9 := below_cell hB d9
    replace d10 := below_cell hB d10
    replace d11 := below_cell hB d11
    replace d12 := below_cell hB d12
    replace d13 := below_cell hB d13
    replace d14 := below_cell hB d14
    replace d15 := below_cell hB d15
    replace d16 := below_cell hB d16
    replace d17 := below_cell hB d17
    replace d18 := below_cell hB d18
    rcases (show k = 0 ∨ k = 1 ∨ k = 2 by omega) with rfl | rfl | rfl
    · have hN : NobB wr (.pointer none) := Or.inl rfl
      go_wp2_with fail
      refine (add_no _ _ _ _ _ _ _ _ _ hN).mono ?_
      rintro e x1 ⟨rfl, b1⟩
      replace d1 := below_cell b1 d1
      replace d2 := below_cell b1 d2
      replace d3 := below_cell b1 d3
      replace d4 := below_cell b1 d4
      replace d5 := below_cell b1 d5
      replace d6 := below_cell b1 d6
      replace d7 := below_cell b1 d7
      replace d8 := below_cell b1 d8
      replace d9 := below_cell b1 d9
      replace d10 := below_cell b1 d10
      replace d11 := below_cell b1 d11
      replace d12 := below_cell b1 d12
      replace d13 := below_cell b1 d13
      replace d14 := below_cell b1 d14
      replace d15 := below_cell b1 d15
      replace d16 := below_cell b1 d16
      replace d17 := below_cell b1 d17
      replace d18 := below_cell b1 d18
      replace hN := hN.later b1
      replace hB := hB.trans (b1.mono hB.size)
      clear b1
      go_wp2_with fail
      refine (declare_no _ _ _ _ hN).mono ?_
      rintro e x2 ⟨rfl, b2⟩
      replace d1 := below_cell b2 d1
      replace d2 := below_cell b2 d2
      replace d3 := below_cell b2 d3
      replace d4 := below_cell b2 d4
      replace d5 := below_cell b2 d5
      replace d6 := below_cell b2 d6
      replace d7 := below_cell b2 d7
      replace d8 := below_cell b2 d8
      replace d9 := below_cell b2 d9
      replace d10 := below_cell b2 d10
      replace d11 := below_cell b2 d11
      replace d12 := below_cell b2 d12
      replace d13 := below_cell b2 d13
      replace d14 := below_cell b2 d14
      replace d15 := below_cell b2 d15
      replace d16 := below_cell b2 d16
      replace d17 := below_cell b2 d17
      replace d18 := below_cell b2 d18
      replace hN := hN.later b2
      replace hB := hB.trans (b2.mono hB.size)
      clear b2
      go_wp2_with fail
      refine (define_no _ _ _ _ _ _ _ _ _ _ _ _ hN).mono ?_
      rintro e x3 ⟨rfl, b3⟩
      replace d1 := below_cell b3 d1
      replace d2 := below_cell b3 d2
      replace d3 := below_cell b3 d3
      replace d4 := below_cell b3 d4
      replace d5 := below_cell b3 d5
      replace d6 := below_cell b3 d6
      replace d7 := below_cell b3 d7
      replace d8 := below_cell b3 d8
      replace d9 := below_cell b3 d9
      replace d10 := below_cell b3 d10
      replace d11 := below_cell b3 d11
      replace d12 := below_cell b3 d12
      replace d13 := below_cell b3 d13
      replace d14 := below_cell b3 d14
      replace d15 := below_cell b3 d15
      replace d16 := below_cell b3 d16
      replace d17 := below_cell b3 d17
      replace d18 := below_cell b3 d18
      replace hN := hN.later b3
      replace hB := hB.trans (b3.mono hB.size)
      clear b3
      have bN := below_alloc (w := x3) (.cells #[.int .i64 0, .string ⟨#[]⟩, .int .i64 0, .int .i64 0, .int .i64 0, .int .i64 0, .slice none 0 0] 36)
      replace d1 := below_cell bN d1
      replace d2 := below_cell bN d2
      replace d3 := below_cell bN d3
      replace d4 := below_cell bN d4
      replace d5 := below_cell bN d5
      replace d6 := below_cell bN d6
      replace d7 := below_cell bN d7
      replace d8 := below_cell bN d8
      replace d9 := below_cell bN d9
      replace d10 := below_cell bN d10
      replace d11 := below_cell bN d11
      replace d12 := below_cell bN d12
      replace d13 := below_cell bN d13
      replace d14 := below_cell bN d14
      replace d15 := below_cell bN d15
      replace d16 := below_cell bN d16
      replace d17 := below_cell bN d17
      replace d18 := below_cell bN d18
      replace hN := hN.later bN
      replace hB := hB.trans (bN.mono hB.size)
      clear bN
      go_wp2_with fail
      generalize x3.alloc (.cells #[.int .i64 0, .string ⟨#[]⟩, .int .i64 0, .int .i64 0, .int .i64 0, .int .i64 0, .slice none 0 0] 36) = y3 at d1 d2 d3 d4 d5 d6 d7 d8 d9 d10 d11 d12 d13 d14 d15 d16 d17 d18 hN hB ⊢
      refine (get_no _ _ _ hN).mono ?_
      rintro e x4 ⟨rfl, b4⟩
      replace d1 := below_cell b4 d1
      replace d2 := below_cell b4 d2
      replace d3 := below_cell b4 d3
      replace d4 := below_cell b4 d4
      replace d5 := below_cell b4 d5
      replace d6 := below_cell b4 d6
      replace d7 := below_cell b4 d7
      replace d8 := below_cell b4 d8
      replace d9 := below_cell b4 d9
      replace d10 := below_cell b4 d10
      replace d11 := below_cell b4 d11
      replace d12 := below_cell b4 d12
      replace d13 := below_cell b4 d13
      replace d14 := below_cell b4 d14
      replace d15 := below_cell b4 d15
      replace d16 := below_cell b4 d16
      replace d17 := below_cell b4 d17
      replace d18 := below_cell b4 d18
      replace hN := hN.later b4
      replace hB := hB.trans (b4.mono hB.size)
      clear b4
      have bN := below_alloc (w := x4) (.cells #[.int .i64 0, .int .i64 0, .string ⟨#[]⟩, .bool false, .slice none 0 0, .slice none 0 0, .slice none 0 0] 30)
      replace d1 := below_cell bN d1
      replace d2 := below_cell bN d2
      replace d3 := below_cell bN d3
      replace d4 := below_cell bN d4
      replace d5 := below_cell bN d5
      replace d6 := below_cell bN d6
      replace d7 := below_cell bN d7
      replace d8 := below_cell bN d8
      replace d9 := below_cell bN d9
      replace d10 := below_cell bN d10
      replace d11 := below_cell bN d11
      replace d12 := below_cell bN d12
      replace d13 := below_cell bN d13
      replace d14 := below_cell bN d14
      replace d15 := below_cell bN d15
      replace d16 := below_cell bN d16
      replace d17 := below_cell bN d17
      replace d18 := below_cell bN d18
      replace hN := hN.later bN
      replace hB := hB.trans (bN.mono hB.size)
      clear bN
      go_wp2_with fail
      generalize x4.alloc (.cells #[.int .i64 0, .int .i64 0, .string ⟨#[]⟩, .bool false, .slice none 0 0, .slice none 0 0, .slice none 0 0] 30) = y4 at d1 d2 d3 d4 d5 d6 d7 d8 d9 d10 d11 d12 d13 d14 d15 d16 d17 d18 hN hB ⊢
      refine (read_no _ _ _ _ _ _ _ _ _ hN).mono ?_
      rintro e x5 ⟨rfl, b5⟩
      replace d1 := below_cell b5 d1
      replace d2 := below_cell b5 d2
      replace d3 := below_cell b5 d3
      replace d4 := below_cell b5 d4
      replace d5 := below_cell b5 d5
      replace d6 := below_cell b5 d6
      replace d7 := below_cell b5 d7
      replace d8 := below_cell b5 d8
      replace d9 := below_cell b5 d9
      replace d10 := below_cell b5 d10
      replace d11 := below_cell b5 d11
      replace d12 := below_cell b5 d12
      replace d13 := below_cell b5 d13
      replace d14 := below_cell b5 d14
      replace d15 := below_cell b5 d15
      replace d16 := below_cell b5 d16
      replace d17 := below_cell b5 d17
      replace d18 := below_cell b5 d18
      replace hN := hN.later b5
      replace hB := hB.trans (b5.mono hB.size)
      clear b5
      have bN := below_alloc (w := x5) (.cells #[.int .i64 0, .string ⟨#[]⟩, .int .i64 0, .int .i64 0, .int .i64 0, .int .i64 0, .slice none 0 0] 36)
      replace d1 := below_cell bN d1
      replace d2 := below_cell bN d2
      replace d3 := below_cell bN d3
      replace d4 := below_cell bN d4
      replace d5 := below_cell bN d5
      replace d6 := below_cell bN d6
      replace d7 := below_cell bN d7
      replace d8 := below_cell bN d8
      replace d9 := below_cell bN d9
      replace d10 := below_cell bN d10
      replace d11 := below_cell bN d11
      replace d12 := below_cell bN d12
      replace d13 := below_cell bN d13
      replace d14 := below_cell bN d14
      replace d15 := below_cell bN d15
      replace d16 := below_cell bN d16
      replace d17 := below_cell bN d17
      replace d18 := below_cell bN d18
      replace hN := hN.later bN
      replace hB := hB.trans (bN.mono hB.size)
      clear bN
      go_wp2_with fail
      generalize x5.alloc (.cells #[.int .i64 0, .string ⟨#[]⟩, .int .i64 0, .int .i64 0, .int .i64 0, .int .i64 0, .slice none 0 0] 36) = y5 at d1 d2 d3 d4 d5 d6 d7 d8 d9 d10 d11 d12 d13 d14 d15 d16 d17 d18 hN hB ⊢
      refine (print_no _ _ _ hN).mono ?_
      rintro e x6 ⟨rfl, b6⟩
      replace d1 := below_cell b6 d1
      replace d2 := below_cell b6 d2
      replace d3 := below_cell b6 d3
      replace d4 := below_cell b6 d4
      replace d5 := below_cell b6 d5
      replace d6 := below_cell b6 d6
      replace d7 := below_cell b6 d7
      replace d8 := below_cell b6 d8
      replace d9 := below_cell b6 d9
      replace d10 := below_cell b6 d10
      replace d11 := below_cell b6 d11
      replace d12 := below_cell b6 d12
      replace d13 := below_cell b6 d13
      replace d14 := below_cell b6 d14
      replace d15 := below_cell b6 d15
      replace d16 := below_cell b6 d16
      replace d17 := below_cell b6 d17
      replace d18 := below_cell b6 d18
      replace hN := hN.later b6
      replace hB := hB.trans (b6.mono hB.size)
      clear b6
      go_wp2_with fail
      refine (stand_no _ _ _ hN).mono ?_
      rintro e x7 ⟨rfl, b7⟩
      replace d1 := below_cell b7 d1
      replace d2 := below_cell b7 d2
      replace d3 := below_cell b7 d3
      replace d4 := below_cell b7 d4
      replace d5 := below_cell b7 d5
      replace d6 := below_cell b7 d6
      replace d7 := below_cell b7 d7
      replace d8 := below_cell b7 d8
      replace d9 := below_cell b7 d9
      replace d10 := below_cell b7 d10
      replace d11 := below_cell b7 d11
      replace d12 := below_cell b7 d12
      replace d13 := below_cell b7 d13
      replace d14 := below_cell b7 d14
      replace d15 := below_cell b7 d15
      replace d16 := below_cell b7 d16
      replace d17 := below_cell b7 d17
      replace d18 := below_cell b7 d18
      replace hN := hN.later b7
      replace hB := hB.trans (b7.mono hB.size)
      clear b7
      go_wp2_with fail
      refine (forget_no _ _ _ hN).mono ?_
      rintro e x8 ⟨rfl, b8⟩
      replace d1 := below_cell b8 d1
      replace d2 := below_cell b8 d2
      replace d3 := below_cell b8 d3
      replace d4 := below_cell b8 d4
      replace d5 := below_cell b8 d5
      replace d6 := below_cell b8 d6
      replace d7 := below_cell b8 d7
      replace d8 := below_cell b8 d8
      replace d9 := below_cell b8 d9
      replace d10 := below_cell b8 d10
      replace d11 := below_cell b8 d11
      replace d12 := below_cell b8 d12
      replace d13 := below_cell b8 d13
      replace d14 := below_cell b8 d14
      replace d15 := below_cell b8 d15
      replace d16 := below_cell b8 d16
      replace d17 := below_cell b8 d17
      replace d18 := below_cell b8 d18
      replace hN := hN.later b8
      replace hB := hB.trans (b8.mono hB.size)
      clear b8
      go_wp2_with fail
      refine (len_no _ _ hN).mono ?_
      rintro e x9 ⟨rfl, b9⟩
      replace d1 := below_cell b9 d1
      replace d2 := below_cell b9 d2
      replace d3 := below_cell b9 d3
      replace d4 := below_cell b9 d4
      replace d5 := below_cell b9 d5
      replace d6 := below_cell b9 d6
      replace d7 := below_cell b9 d7
      replace d8 := below_cell b9 d8
      replace d9 := below_cell b9 d9
      replace d10 := below_cell b9 d10
      replace d11 := below_cell b9 d11
      replace d12 := below_cell b9 d12
      replace d13 := below_cell b9 d13
      replace d14 := below_cell b9 d14
      replace d15 := below_cell b9 d15
      replace d16 := below_cell b9 d16
      replace d17 := below_cell b9 d17
      replace d18 := below_cell b9 d18
      replace hN := hN.later b9
      replace hB := hB.trans (b9.mono hB.size)
      clear b9
      go_wp2_with fail
      refine (names_no _ _ hN).mono ?_
      rintro e x10 ⟨rfl, b10⟩
      replace d1 := below_cell b10 d1
      replace d2 := below_cell b10 d2
      replace d3 := below_cell b10 d3
      replace d4 := below_cell b10 d4
      replace d5 := below_cell b10 d5
      replace d6 := below_cell b10 d6
      replace d7 := below_cell b10 d7
      replace d8 := below_cell b10 d8
      replace d9 := below_cell b10 d9
      replace d10 := below_cell b10 d10
      replace d11 := below_cell b10 d11
      replace d12 := below_cell b10 d12
      replace d13 := below_cell b10 d13
      replace d14 := below_cell b10 d14
      replace d15 := below_cell b10 d15
      replace d16 := below_cell b10 d16
      replace d17 := below_cell b10 d17
      replace d18 := below_cell b10 d18
      replace hN := hN.later b10
      replace hB := hB.trans (b10.mono hB.size)
      clear b10
      go_wp2_with fail
      refine (declared_no _ _ hN).mono ?_
      rintro e x11 ⟨rfl, b11⟩
      replace d1 := below_cell b11 d1
      replace d2 := below_cell b11 d2
      replace d3 := below_cell b11 d3
      replace d4 := below_cell b11 d4
      replace d5 := below_cell b11 d5
      replace d6 := below_cell b11 d6
      replace d7 := below_cell b11 d7
      replace d8 := below_cell b11 d8
      replace d9 := below_cell b11 d9
      replace d10 := below_cell b11 d10
      replace d11 := below_cell b11 d11
      replace d12 := below_cell b11 d12
      replace d13 := below_cell b11 d13
      replace d14 := below_cell b11 d14
      replace d15 := below_cell b11 d15
      replace d16 := below_cell b11 d16
      replace d17 := below_cell b11 d17
      replace d18 := below_cell b11 d18
      replace hN := hN.later b11
      replace hB := hB.trans (b11.mono hB.size)
      clear b11
      go_wp2
      go_roundw
      case rel => exact ⟨1, by omega, by go_num, hB⟩
      case measure => simp [intOf]
    · have bS := below_alloc (w := wr) (.cells #[.slice none 0 0, .map none, .map none, .slice none 0 0, .map none] 46)
      have hN : NobB (wr.alloc (.cells #[.slice none 0 0, .map none, .map none, .slice none 0 0, .map none] 46)) (.pointer (some ⟨wr.heap.size, 0, none⟩)) := Or.inr ⟨wr.heap.size, rfl, by go_simp⟩
      replace d1 := below_cell bS d1
      replace d2 := below_cell bS d2
      replace d3 := below_cell bS d3
      replace d4 := below_cell bS d4
      replace d5 := below_cell bS d5
      replace d6 := below_cell bS d6
      replace d7 := below_cell bS d7
      replace d8 := below_cell bS d8
      replace d9 := below_cell bS d9
      replace d10 := below_cell bS d10
      replace d11 := below_cell bS d11
      replace d12 := below_cell bS d12
      replace d13 := below_cell bS d13
      replace d14 := below_cell bS d14
      replace d15 := below_cell bS d15
      replace d16 := below_cell bS d16
      replace d17 := below_cell bS d17
      replace d18 := below_cell bS d18
      replace hB := hB.trans (bS.mono hB.size)
      clear bS
      go_upto_region 8 with fail
      generalize wr.alloc (.cells #[.slice none 0 0, .map none, .map none, .slice none 0 0, .map none] 46) = ws at hN hB d1 d2 d3 d4 d5 d6 d7 d8 d9 d10 d11 d12 d13 d14 d15 d16 d17 d18 ⊢
      go_wp2_with fail
      refine (add_no _ _ _ _ _ _ _ _ _ hN).mono ?_
      rintro e x1 ⟨rfl, b1⟩
      replace d1 := below_cell b1 d1
      replace d2 := below_cell b1 d2
      replace d3 := below_cell b1 d3
      replace d4 := below_cell b1 d4
      replace d5 := below_cell b1 d5
      replace d6 := below_cell b1 d6
      replace d7 := below_cell b1 d7
      replace d8 := below_cell b1 d8
      replace d9 := below_cell b1 d9
      replace d10 := below_cell b1 d10
      replace d11 := below_cell b1 d11
      replace d12 := below_cell b1 d12
      replace d13 := below_cell b1 d13
      replace d14 := below_cell b1 d14
      replace d15 := below_cell b1 d15
      replace d16 := below_cell b1 d16
      replace d17 := below_cell b1 d17
      replace d18 := below_cell b1 d18
      replace hN := hN.later b1
      replace hB := hB.trans (b1.mono hB.size)
      clear b1
      go_wp2_with fail
      refine (declare_no _ _ _ _ hN).mono ?_
      rintro e x2 ⟨rfl, b2⟩
      replace d1 := below_cell b2 d1
      replace d2 := below_cell b2 d2
      replace d3 := below_cell b2 d3
      replace d4 := below_cell b2 d4
      replace d5 := below_cell b2 d5
      replace d6 := below_cell b2 d6
      replace d7 := below_cell b2 d7
      replace d8 := below_cell b2 d8
      replace d9 := below_cell b2 d9
      replace d10 := below_cell b2 d10
      replace d11 := below_cell b2 d11
      replace d12 := below_cell b2 d12
      replace d13 := below_cell b2 d13
      replace d14 := below_cell b2 d14
      replace d15 := below_cell b2 d15
      replace d16 := below_cell b2 d16
      replace d17 := below_cell b2 d17
      replace d18 := below_cell b2 d18
      replace hN := hN.later b2
      replace hB := hB.trans (b2.mono hB.size)
      clear b2
      go_wp2_with fail
      refine (define_no _ _ _ _ _ _ _ _ _ _ _ _ hN).mono ?_
      rintro e x3 ⟨rfl, b3⟩
      replace d1 := below_cell b3 d1
      replace d2 := below_cell b3 d2
      replace d3 := below_cell b3 d3
      replace d4 := below_cell b3 d4
      replace d5 := below_cell b3 d5
      replace d6 := below_cell b3 d6
      replace d7 := below_cell b3 d7
      replace d8 := below_cell b3 d8
      replace d9 := below_cell b3 d9
      replace d10 := below_cell b3 d10
      replace d11 := below_cell b3 d11
      replace d12 := below_cell b3 d12
      replace d13 := below_cell b3 d13
      replace d14 := below_cell b3 d14
      replace d15 := below_cell b3 d15
      replace d16 := below_cell b3 d16
      replace d17 := below_cell b3 d17
      replace d18 := below_cell b3 d18
      replace hN := hN.later b3
      replace hB := hB.trans (b3.mono hB.size)
      clear b3
      have bN := below_alloc (w := x3) (.cells #[.int .i64 0, .string ⟨#[]⟩, .int .i64 0, .int .i64 0, .int .i64 0, .int .i64 0, .slice none 0 0] 36)
      replace d1 := below_cell bN d1
      replace d2 := below_cell bN d2
      replace d3 := below_cell bN d3
      replace d4 := below_cell bN d4
      replace d5 := below_cell bN d5
      replace d6 := below_cell bN d6
      replace d7 := below_cell bN d7
      replace d8 := below_cell bN d8
      replace d9 := below_cell bN d9
      replace d10 := below_cell bN d10
      replace d11 := below_cell bN d11
      replace d12 := below_cell bN d12
      replace d13 := below_cell bN d13
      replace d14 := below_cell bN d14
      replace d15 := below_cell bN d15
      replace d16 := below_cell bN d16
      replace d17 := below_cell bN d17
      replace d18 := below_cell bN d18
      replace hN := hN.later bN
      replace hB := hB.trans (bN.mono hB.size)
      clear bN
      go_wp2_with fail
      generalize x3.alloc (.cells #[.int .i64 0, .string ⟨#[]⟩, .int .i64 0, .int .i64 0, .int .i64 0, .int .i64 0, .slice none 0 0] 36) = y3 at d1 d2 d3 d4 d5 d6 d7 d8 d9 d10 d11 d12 d13 d14 d15 d16 d17 d18 hN hB ⊢
      refine (get_no _ _ _ hN).mono ?_
      rintro e x4 ⟨rfl, b4⟩
      replace d1 := below_cell b4 d1
      replace d2 := below_cell b4 d2
      replace d3 := below_cell b4 d3
      replace d4 := below_cell b4 d4
      replace d5 := below_cell b4 d5
      replace d6 := below_cell b4 d6
      replace d7 := below_cell b4 d7
      replace d8 := below_cell b4 d8
      replace d9 := below_cell b4 d9
      replace d10 := below_cell b4 d10
      replace d11 := below_cell b4 d11
      replace d12 := below_cell b4 d12
      replace d13 := below_cell b4 d13
      replace d14 := below_cell b4 d14
      replace d15 := below_cell b4 d15
      replace d16 := below_cell b4 d16
      replace d17 := below_cell b4 d17
      replace d18 := below_cell b4 d18
      replace hN := hN.later b4
      replace hB := hB.trans (b4.mono hB.size)
      clear b4
      have bN := below_alloc (w := x4) (.cells #[.int .i64 0, .int .i64 0, .string ⟨#[]⟩, .bool false, .slice none 0 0, .slice none 0 0, .slice none 0 0] 30)
      replace d1 := below_cell bN d1
      replace d2 := below_cell bN d2
      replace d3 := below_cell bN d3
      replace d4 := below_cell bN d4
      replace d5 := below_cell bN d5
      replace d6 := below_cell bN d6
      replace d7 := below_cell bN d7
      replace d8 := below_cell bN d8
      replace d9 := below_cell bN d9
      replace d10 := below_cell bN d10
      replace d11 := below_cell bN d11
      replace d12 := below_cell bN d12
      replace d13 := below_cell bN d13
      replace d14 := below_cell bN d14
      replace d15 := below_cell bN d15
      replace d16 := below_cell bN d16
      replace d17 := below_cell bN d17
      replace d18 := below_cell bN d18
      replace hN := hN.later bN
      replace hB := hB.trans (bN.mono hB.size)
      clear bN
      go_wp2_with fail
      generalize x4.alloc (.cells #[.int .i64 0, .int .i64 0, .string ⟨#[]⟩, .bool false, .slice none 0 0, .slice none 0 0, .slice none 0 0] 30) = y4 at d1 d2 d3 d4 d5 d6 d7 d8 d9 d10 d11 d12 d13 d14 d15 d16 d17 d18 hN hB ⊢
      refine (read_no _ _ _ _ _ _ _ _ _ hN).mono ?_
      rintro e x5 ⟨rfl, b5⟩
      replace d1 := below_cell b5 d1
      replace d2 := below_cell b5 d2
      replace d3 := below_cell b5 d3
      replace d4 := below_cell b5 d4
      replace d5 := below_cell b5 d5
      replace d6 := below_cell b5 d6
      replace d7 := below_cell b5 d7
      replace d8 := below_cell b5 d8
      replace d9 := below_cell b5 d9
      replace d10 := below_cell b5 d10
      replace d11 := below_cell b5 d11
      replace d12 := below_cell b5 d12
      replace d13 := below_cell b5 d13
      replace d14 := below_cell b5 d14
      replace d15 := below_cell b5 d15
      replace d16 := below_cell b5 d16
      replace d17 := below_cell b5 d17
      replace d18 := below_cell b5 d18
      replace hN := hN.later b5
      replace hB := hB.trans (b5.mono hB.size)
      clear b5
      have bN := below_alloc (w := x5) (.cells #[.int .i64 0, .string ⟨#[]⟩, .int .i64 0, .int .i64 0, .int .i64 0, .int .i64 0, .slice none 0 0] 36)
      replace d1 := below_cell bN d1
      replace d2 := below_cell bN d2
      replace d3 := below_cell bN d3
      replace d4 := below_cell bN d4
      replace d5 := below_cell bN d5
      replace d6 := below_cell bN d6
      replace d7 := below_cell bN d7
      replace d8 := below_cell bN d8
      replace d9 := below_cell bN d9
      replace d10 := below_cell bN d10
      replace d11 := below_cell bN d11
      replace d12 := below_cell bN d12
      replace d13 := below_cell bN d13
      replace d14 := below_cell bN d14
      replace d15 := below_cell bN d15
      replace d16 := below_cell bN d16
      replace d17 := below_cell bN d17
      replace d18 := below_cell bN d18
      replace hN := hN.later bN
      replace hB := hB.trans (bN.mono hB.size)
      clear bN
      go_wp2_with fail
      generalize x5.alloc (.cells #[.int .i64 0, .string ⟨#[]⟩, .int .i64 0, .int .i64 0, .int .i64 0, .int .i64 0, .slice none 0 0] 36) = y5 at d1 d2 d3 d4 d5 d6 d7 d8 d9 d10 d11 d12 d13 d14 d15 d16 d17 d18 hN hB ⊢
      refine (print_no _ _ _ hN).mono ?_
      rintro e x6 ⟨rfl, b6⟩
      replace d1 := below_cell b6 d1
      replace d2 := below_cell b6 d2
      replace d3 := below_cell b6 d3
      replace d4 := below_cell b6 d4
      replace d5 := below_cell b6 d5
      replace d6 := below_cell b6 d6
      replace d7 := below_cell b6 d7
      replace d8 := below_cell b6 d8
      replace d9 := below_cell b6 d9
      replace d10 := below_cell b6 d10
      replace d11 := below_cell b6 d11
      replace d12 := below_cell b6 d12
      replace d13 := below_cell b6 d13
      replace d14 := below_cell b6 d14
      replace d15 := below_cell b6 d15
      replace d16 := below_cell b6 d16
      replace d17 := below_cell b6 d17
      replace d18 := below_cell b6 d18
      replace hN := hN.later b6
      replace hB := hB.trans (b6.mono hB.size)
      clear b6
      go_wp2_with fail
      refine (stand_no _ _ _ hN).mono ?_
      rintro e x7 ⟨rfl, b7⟩
      replace d1 := below_cell b7 d1
      replace d2 := below_cell b7 d2
      replace d3 := below_cell b7 d3
      replace d4 := below_cell b7 d4
      replace d5 := below_cell b7 d5
      replace d6 := below_cell b7 d6
      replace d7 := below_cell b7 d7
      replace d8 := below_cell b7 d8
      replace d9 := below_cell b7 d9
      replace d10 := below_cell b7 d10
      replace d11 := below_cell b7 d11
      replace d12 := below_cell b7 d12
      replace d13 := below_cell b7 d13
      replace d14 := below_cell b7 d14
      replace d15 := below_cell b7 d15
      replace d16 := below_cell b7 d16
      replace d17 := below_cell b7 d17
      replace d18 := below_cell b7 d18
      replace hN := hN.later b7
      replace hB := hB.trans (b7.mono hB.size)
      clear b7
      go_wp2_with fail
      refine (forget_no _ _ _ hN).mono ?_
      rintro e x8 ⟨rfl, b8⟩
      replace d1 := below_cell b8 d1
      replace d2 := below_cell b8 d2
      replace d3 := below_cell b8 d3
      replace d4 := below_cell b8 d4
      replace d5 := below_cell b8 d5
      replace d6 := below_cell b8 d6
      replace d7 := below_cell b8 d7
      replace d8 := below_cell b8 d8
      replace d9 := below_cell b8 d9
      replace d10 := below_cell b8 d10
      replace d11 := below_cell b8 d11
      replace d12 := below_cell b8 d12
      replace d13 := below_cell b8 d13
      replace d14 := below_cell b8 d14
      replace d15 := below_cell b8 d15
      replace d16 := below_cell b8 d16
      replace d17 := below_cell b8 d17
      replace d18 := below_cell b8 d18
      replace hN := hN.later b8
      replace hB := hB.trans (b8.mono hB.size)
      clear b8
      go_wp2_with fail
      refine (len_no _ _ hN).mono ?_
      rintro e x9 ⟨rfl, b9⟩
      replace d1 := below_cell b9 d1
      replace d2 := below_cell b9 d2
      replace d3 := below_cell b9 d3
      replace d4 := below_cell b9 d4
      replace d5 := below_cell b9 d5
      replace d6 := below_cell b9 d6
      replace d7 := below_cell b9 d7
      replace d8 := below_cell b9 d8
      replace d9 := below_cell b9 d9
      replace d10 := below_cell b9 d10
      replace d11 := below_cell b9 d11
      replace d12 := below_cell b9 d12
      replace d13 := below_cell b9 d13
      replace d14 := below_cell b9 d14
      replace d15 := below_cell b9 d15
      replace d16 := below_cell b9 d16
      replace d17 := below_cell b9 d17
      replace d18 := below_cell b9 d18
      replace hN := hN.later b9
      replace hB := hB.trans (b9.mono hB.size)
      clear b9
      go_wp2_with fail
      refine (names_no _ _ hN).mono ?_
      rintro e x10 ⟨rfl, b10⟩
      replace d1 := below_cell b10 d1
      replace d2 := below_cell b10 d2
      replace d3 := below_cell b10 d3
      replace d4 := below_cell b10 d4
      replace d5 := below_cell b10 d5
      replace d6 := below_cell b10 d6
      replace d7 := below_cell b10 d7
      replace d8 := below_cell b10 d8
      replace d9 := below_cell b10 d9
      replace d10 := below_cell b10 d10
      replace d11 := below_cell b10 d11
      replace d12 := below_cell b10 d12
      replace d13 := below_cell b10 d13
      replace d14 := below_cell b10 d14
      replace d15 := below_cell b10 d15
      replace d16 := below_cell b10 d16
      replace d17 := below_cell b10 d17
      replace d18 := below_cell b10 d18
      replace hN := hN.later b10
      replace hB := hB.trans (b10.mono hB.size)
      clear b10
      go_wp2_with fail
      refine (declared_no _ _ hN).mono ?_
      rintro e x11 ⟨rfl, b11⟩
      replace d1 := below_cell b11 d1
      replace d2 := below_cell b11 d2
      replace d3 := below_cell b11 d3
      replace d4 := below_cell b11 d4
      replace d5 := below_cell b11 d5
      replace d6 := below_cell b11 d6
      replace d7 := below_cell b11 d7
      replace d8 := below_cell b11 d8
      replace d9 := below_cell b11 d9
      replace d10 := below_cell b11 d10
      replace d11 := below_cell b11 d11
      replace d12 := below_cell b11 d12
      replace d13 := below_cell b11 d13
      replace d14 := below_cell b11 d14
      replace d15 := below_cell b11 d15
      replace d16 := below_cell b11 d16
      replace d17 := below_cell b11 d17
      replace d18 := below_cell b11 d18
      replace hN := hN.later b11
      replace hB := hB.trans (b11.mono hB.size)
      clear b11
      go_wp2
      go_roundw
      case rel => exact ⟨2, by omega, by go_num, hB⟩
      case measure => simp [intOf]
    · go_wp2
      go_ret
      exact ⟨rfl, hBA.trans (hB.mono hBA.size)⟩


end Go.Proofs.YtajoffppkemnmaaGreatDoor.termsNobody
