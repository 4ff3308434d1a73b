/-
  Layer 8: a store that nobody made.
-/
import Derived.Test.YtbjmmliajacklaaMemB
namespace Go.Proofs.Ytbjmmliajacklaa
open Go.RowKit
set_option linter.unusedVariables false
set_option linter.unusedSimpArgs false

/-- nobody's store: nil, or a plain one -/
def Nob (w : World) (v : Value) : Prop := v = .pointer none ∨ ∃ b, v = .pointer (some ⟨b, 0, none⟩) ∧ w.cell? ⟨b, 2, none⟩ = some (.bool false)
theorem Nob.later {w w' : World} {v : Value} (h : Nob w v) (hb : Below w.heap.size w w') : Nob w' v := by
  rcases h with h | ⟨b, h, hc⟩
  · exact Or.inl h
  · exact Or.inr ⟨b, h, below_cell hb hc⟩
set_option maxHeartbeats 1000000 in
set_option maxRecDepth 100000 in
theorem isNone_yes (v : Value) (w : World) (h : Nob w v) :
    Calls Try.prog 17 #[v] w fun e w' => e = .returned (.bool true) ∧ Below w.heap.size w w' := by
  rcases h with rfl | ⟨b, rfl, hc⟩
  · go_enter Try.func17, Try.ntmps17
    go_wp2
    go_ret
    exact ⟨rfl, Below.refl _ _⟩
  · go_enter Try.func17, Try.ntmps17
    go_wp2
    go_ret
    exact ⟨rfl, Below.refl _ _⟩
set_option maxHeartbeats 1000000 in
set_option maxRecDepth 100000 in
theorem lacks_yes (v : Value) (x : Value) (w : World) (h : Nob w v) :
    Calls Try.prog 19 #[v, x] w fun e w' => e = .returned (.int .i64 1) ∧ Below w.heap.size w w' := by
  have G := hide' (fun w' (hb : Below w.heap.size w w') => isNone_yes v w' (h.later hb))
  have hB : Below w.heap.size w w := Below.refl _ _
  clear h
  go_enter Try.func19, Try.ntmps19
  go_wp2_with fail
  refine (G.out _ hB).mono ?_
  rintro e w1 ⟨rfl, b1⟩
  replace hB := hB.trans (b1.mono hB.size)
  go_wp2
  go_ret
  exact ⟨rfl, hB⟩
set_option maxHeartbeats 1000000 in
set_option maxRecDepth 100000 in
theorem grow_no (v : Value) (w : World) (h : Nob w v) :
    Calls Try.prog 5 #[v] w fun e w' => e = .returned (.tuple #[.int .i64 0, .int .i64 1]) ∧ Below w.heap.size w w' := by
  have G := hide' (fun w' (hb : Below w.heap.size w w') => isNone_yes v w' (h.later hb))
  have hB : Below w.heap.size w w := Below.refl _ _
  clear h
  go_enter Try.func5, Try.ntmps5
  go_wp2_with fail
  refine (G.out _ hB).mono ?_
  rintro e w1 ⟨rfl, b1⟩
  replace hB := hB.trans (b1.mono hB.size)
  go_wp2
  refine bodyPost_ret (v := .tuple #[.int .i64 0, .int .i64 1]) (by rw [results_tt rfl]; go_simp) rfl ?_
  exact ⟨rfl, hB⟩
set_option maxHeartbeats 1000000 in
set_option maxRecDepth 100000 in
theorem fixed_no (v : Value) (x : Value) (w : World) (h : Nob w v) :
    Calls Try.prog 9 #[v, x] w fun e w' => e = .returned (.tuple #[.bool false, .int .i64 1]) ∧ Below w.heap.size w w' := by
  have G := hide' (fun w' (hb : Below w.heap.size w w') => lacks_yes v x w' (h.later hb))
  have hB : Below w.heap.size w w := Below.refl _ _
  clear h
  go_enter Try.func9, Try.ntmps9
  go_wp2_with fail
  refine (G.out _ hB).mono ?_
  rintro e w1 ⟨rfl, b1⟩
  replace hB := hB.trans (b1.mono hB.size)
  go_wp2
  refine bodyPost_ret (v := .tuple #[.bool false, .int .i64 1]) (by rw [results_tt rfl]; go_simp) rfl ?_
  exact ⟨rfl, hB⟩
set_option maxHeartbeats 1000000 in
set_option maxRecDepth 100000 in
theorem back_no (v : Value) (x : Value) (w : World) (h : Nob w v) :
    Calls Try.prog 11 #[v, x] w fun e w' => e = .returned (.int .i64 1) ∧ Below w.heap.size w w' := by
  have G := hide' (fun w' (hb : Below w.heap.size w w') => isNone_yes v w' (h.later hb))
  have hB : Below w.heap.size w w := Below.refl _ _
  clear h
  go_enter Try.func11, Try.ntmps11
  go_wp2_with fail
  refine (G.out _ hB).mono ?_
  rintro e w1 ⟨rfl, b1⟩
  replace hB := hB.trans (b1.mono hB.size)
  go_wp2
  go_ret
  exact ⟨rfl, hB⟩
set_option maxHeartbeats 1000000 in
set_option maxRecDepth 100000 in
theorem vars_no (v : Value) (w : World) (h : Nob w v) :
    Calls Try.prog 12 #[v] w fun e w' => e = .returned (.int .i64 0) ∧ Below w.heap.size w w' := by
  have G := hide' (fun w' (hb : Below w.heap.size w w') => isNone_yes v w' (h.later hb))
  have hB : Below w.heap.size w w := Below.refl _ _
  clear h
  go_enter Try.func12, Try.ntmps12
  go_wp2_with fail
  refine (G.out _ hB).mono ?_
  rintro e w1 ⟨rfl, b1⟩
  replace hB := hB.trans (b1.mono hB.size)
  go_wp2
  go_ret
  exact ⟨rfl, hB⟩
set_option maxHeartbeats 1000000 in
set_option maxRecDepth 100000 in
theorem level_no (v : Value) (w : World) (h : Nob w v) :
    Calls Try.prog 13 #[v] w fun e w' => e = .returned (.int .i64 0) ∧ Below w.heap.size w w' := by
  have G := hide' (fun w' (hb : Below w.heap.size w w') => isNone_yes v w' (h.later hb))
  have hB : Below w.heap.size w w := Below.refl _ _
  clear h
  go_enter Try.func13, Try.ntmps13
  go_wp2_with fail
  refine (G.out _ hB).mono ?_
  rintro e w1 ⟨rfl, b1⟩
  replace hB := hB.trans (b1.mono hB.size)
  go_wp2
  go_ret
  exact ⟨rfl, hB⟩
set_option maxHeartbeats 1000000 in
set_option maxRecDepth 100000 in
theorem limit_no (v : Value) (x : Value) (w : World) (h : Nob w v) :
    Calls Try.prog 6 #[v, x] w fun e w' => e = .returned (.tuple #[.agg #[.bool false, .bool false, .slice none 0 0, .slice none 0 0, .bool false, .slice none 0 0, .slice none 0 0, .int .i64 0, .bool false, .bool false, .slice none 0 0, .slice none 0 0, .bool false, .slice none 0 0, .slice none 0 0, .int .i64 0], .int .i64 1]) ∧ Below w.heap.size w w' := by
  have G := hide' (fun w' (hb : Below w.heap.size w w') => lacks_yes v x w' (h.later hb))
  clear h
  go_enter Try.func6, Try.ntmps6
  go_wp2_with fail
  obtain ⟨wA, hwA⟩ : ∃ wA, w.alloc (.cells #[.bool false, .bool false, .slice none 0 0, .slice none 0 0, .bool false, .slice none 0 0, .slice none 0 0, .int .i64 0, .bool false, .bool false, .slice none 0 0, .slice none 0 0, .bool false, .slice none 0 0, .slice none 0 0, .int .i64 0] 46) = wA := ⟨_, rfl⟩
  have hB : Below w.heap.size w wA := by subst hwA; exact below_alloc _
  have z0 : wA.cell? ⟨w.heap.size, 0, none⟩ = some (.bool false) := by subst hwA; go_simp
  have z1 : wA.cell? ⟨w.heap.size, 1, none⟩ = some (.bool false) := by subst hwA; go_simp
  have z2 : wA.cell? ⟨w.heap.size, 2, none⟩ = some (.slice none 0 0) := by subst hwA; go_simp
  have z3 : wA.cell? ⟨w.heap.size, 3, none⟩ = some (.slice none 0 0) := by subst hwA; go_simp
  have z4 : wA.cell? ⟨w.heap.size, 4, none⟩ = some (.bool false) := by subst hwA; go_simp
  have z5 : wA.cell? ⟨w.heap.size, 5, none⟩ = some (.slice none 0 0) := by subst hwA; go_simp
  have z6 : wA.cell? ⟨w.heap.size, 6, none⟩ = some (.slice none 0 0) := by subst hwA; go_simp
  have z7 : wA.cell? ⟨w.heap.size, 7, none⟩ = some (.int .i64 0) := by subst hwA; go_simp
  have z8 : wA.cell? ⟨w.heap.size, 8, none⟩ = some (.bool false) := by subst hwA; go_simp
  have z9 : wA.cell? ⟨w.heap.size, 9, none⟩ = some (.bool false) := by subst hwA; go_simp
  have z10 : wA.cell? ⟨w.heap.size, 10, none⟩ = some (.slice none 0 0) := by subst hwA; go_simp
  have z11 : wA.cell? ⟨w.heap.size, 11, none⟩ = some (.slice none 0 0) := by subst hwA; go_simp
  have z12 : wA.cell? ⟨w.heap.size, 12, none⟩ = some (.bool false) := by subst hwA; go_simp
  have z13 : wA.cell? ⟨w.heap.size, 13, none⟩ = some (.slice none 0 0) := by subst hwA; go_simp
  have z14 : wA.cell? ⟨w.heap.size, 14, none⟩ = some (.slice none 0 0) := by subst hwA; go_simp
  have z15 : wA.cell? ⟨w.heap.size, 15, none⟩ = some (.int .i64 0) := by subst hwA; go_simp
  have zR : Row wA w.heap.size := by subst hwA; exact row_new _ _ _
  rw [hwA]
  clear hwA
  refine (G.out _ hB).mono ?_
  rintro e w1 ⟨rfl, b1⟩
  replace hB := hB.trans (b1.mono hB.size)
  replace z0 := below_cell b1 z0
  replace z1 := below_cell b1 z1
  replace z2 := below_cell b1 z2
  replace z3 := below_cell b1 z3
  replace z4 := below_cell b1 z4
  replace z5 := below_cell b1 z5
  replace z6 := below_cell b1 z6
  replace z7 := below_cell b1 z7
  replace z8 := below_cell b1 z8
  replace z9 := below_cell b1 z9
  replace z10 := below_cell b1 z10
  replace z11 := below_cell b1 z11
  replace z12 := below_cell b1 z12
  replace z13 := below_cell b1 z13
  replace z14 := below_cell b1 z14
  replace z15 := below_cell b1 z15
  replace zR := below_row b1 zR
  have fz := fun o => zR.frozen o
  go_wp2
  refine bodyPost_ret (v := .tuple #[.agg #[.bool false, .bool false, .slice none 0 0, .slice none 0 0, .bool false, .slice none 0 0, .slice none 0 0, .int .i64 0, .bool false, .bool false, .slice none 0 0, .slice none 0 0, .bool false, .slice none 0 0, .slice none 0 0, .int .i64 0], .int .i64 1]) (by rw [results_ct rfl]; go_simp) rfl ?_
  exact ⟨rfl, bset (bset (bset (bset (bset (bset (bset (bset (bset (bset (bset (bset (bset (bset (bset (bset (hB) (show w.heap.size ≤ w.heap.size by omega)) (show w.heap.size ≤ w.heap.size by omega)) (show w.heap.size ≤ w.heap.size by omega)) (show w.heap.size ≤ w.heap.size by omega)) (show w.heap.size ≤ w.heap.size by omega)) (show w.heap.size ≤ w.heap.size by omega)) (show w.heap.size ≤ w.heap.size by omega)) (show w.heap.size ≤ w.heap.size by omega)) (show w.heap.size ≤ w.heap.size by omega)) (show w.heap.size ≤ w.heap.size by omega)) (show w.heap.size ≤ w.heap.size by omega)) (show w.heap.size ≤ w.heap.size by omega)) (show w.heap.size ≤ w.heap.size by omega)) (show w.heap.size ≤ w.heap.size by omega)) (show w.heap.size ≤ w.heap.size by omega)) (show w.heap.size ≤ w.heap.size by omega)⟩
set_option maxHeartbeats 1000000 in
set_option maxRecDepth 100000 in
theorem assert_no (v : Value) (x u y : Value) (c0 c1 c2 c3 c4 c5 : Value) (w : World) (h : Nob w v) :
    Calls Try.prog 21 #[v, x, u, .agg #[c0, c1, c2, c3, c4, c5], y] w fun e w' => e = .returned (.tuple #[.agg #[.int .i64 0, .int .i64 0], .int .i64 1]) ∧ Below w.heap.size w w' := by
  have G := hide' (fun w' (hb : Below w.heap.size w w') => lacks_yes v x w' (h.later hb))
  clear h
  go_enter Try.func21, Try.ntmps21
  go_wp2_with fail
  obtain ⟨wA, hwA⟩ : ∃ wA, (w.alloc (.cells #[c0, c1, c2, c3, c4, c5] 29)).alloc (.cells #[.int .i64 0, .int .i64 0] 50) = wA := ⟨_, rfl⟩
  have hB : Below w.heap.size w wA := by subst hwA; exact (below_alloc _).trans ((below_alloc _).mono (below_alloc _).size)
  have z0 : wA.cell? ⟨w.heap.size + 1, 0, none⟩ = some (.int .i64 0) := by subst hwA; go_simp
  have z1 : wA.cell? ⟨w.heap.size + 1, 1, none⟩ = some (.int .i64 0) := by subst hwA; go_simp
  have zR : Row wA (w.heap.size + 1) := by subst hwA; have h := row_new (w.alloc (.cells #[c0, c1, c2, c3, c4, c5] 29)) #[.int .i64 0, .int .i64 0] 50; rw [size_alloc] at h; exact h
  rw [hwA]
  clear hwA
  refine (G.out _ hB).mono ?_
  rintro e w1 ⟨rfl, b1⟩
  replace hB := hB.trans (b1.mono hB.size)
  replace z0 := below_cell b1 z0
  replace z1 := below_cell b1 z1
  replace zR := below_row b1 zR
  have fz := fun o => zR.frozen o
  go_wp2
  refine bodyPost_ret (v := .tuple #[.agg #[.int .i64 0, .int .i64 0], .int .i64 1]) (by rw [results_ct rfl]; go_simp) rfl ?_
  exact ⟨rfl, bset (bset (hB) (show w.heap.size ≤ w.heap.size + 1 by omega)) (show w.heap.size ≤ w.heap.size + 1 by omega)⟩
set_option maxHeartbeats 1000000 in
set_option maxRecDepth 100000 in
theorem lift_no (v : Value) (x y : Value) (c0 c1 c2 c3 c4 c5 : Value) (w : World) (h : Nob w v) :
    Calls Try.prog 7 #[v, x, .agg #[c0, c1, c2, c3, c4, c5], y] w fun e w' => e = .returned (.tuple #[.agg #[.int .i64 0, .int .i64 0], .int .i64 1]) ∧ Below w.heap.size w w' := by
  have G := hide' (fun w' (hb : Below w.heap.size w w') => assert_no v x (.bool false) y c0 c1 c2 c3 c4 c5 w' (h.later hb))
  clear h
  go_enter Try.func7, Try.ntmps7
  go_wp2_with fail
  obtain ⟨wA, hwA⟩ : ∃ wA, (w.alloc (.cells #[c0, c1, c2, c3, c4, c5] 29)).alloc (.cells #[.int .i64 0, .int .i64 0] 50) = wA := ⟨_, rfl⟩
  have hB : Below w.heap.size w wA := by subst hwA; exact (below_alloc _).trans ((below_alloc _).mono (below_alloc _).size)
  have z0 : wA.cell? ⟨w.heap.size + 1, 0, none⟩ = some (.int .i64 0) := by subst hwA; go_simp
  have z1 : wA.cell? ⟨w.heap.size + 1, 1, none⟩ = some (.int .i64 0) := by subst hwA; go_simp
  have zR : Row wA (w.heap.size + 1) := by subst hwA; have h := row_new (w.alloc (.cells #[c0, c1, c2, c3, c4, c5] 29)) #[.int .i64 0, .int .i64 0] 50; rw [size_alloc] at h; exact h
  rw [hwA]
  clear hwA
  refine (G.out _ hB).mono ?_
  rintro e w1 ⟨rfl, b1⟩
  replace hB := hB.trans (b1.mono hB.size)
  replace z0 := below_cell b1 z0
  replace z1 := below_cell b1 z1
  replace zR := below_row b1 zR
  have fz := fun o => zR.frozen o
  go_wp2
  refine bodyPost_ret (v := .tuple #[.agg #[.int .i64 0, .int .i64 0], .int .i64 1]) (by rw [results_ct rfl]; go_simp) rfl ?_
  exact ⟨rfl, bset (bset (hB) (show w.heap.size ≤ w.heap.size + 1 by omega)) (show w.heap.size ≤ w.heap.size + 1 by omega)⟩
set_option maxHeartbeats 1000000 in
set_option maxRecDepth 100000 in
theorem press_no (v : Value) (x y : Value) (c0 c1 c2 c3 c4 c5 : Value) (w : World) (h : Nob w v) :
    Calls Try.prog 8 #[v, x, .agg #[c0, c1, c2, c3, c4, c5], y] w fun e w' => e = .returned (.tuple #[.agg #[.int .i64 0, .int .i64 0], .int .i64 1]) ∧ Below w.heap.size w w' := by
  have G := hide' (fun w' (hb : Below w.heap.size w w') => assert_no v x (.bool true) y c0 c1 c2 c3 c4 c5 w' (h.later hb))
  clear h
  go_enter Try.func8, Try.ntmps8
  go_wp2_with fail
  obtain ⟨wA, hwA⟩ : ∃ wA, (w.alloc (.cells #[c0, c1, c2, c3, c4, c5] 29)).alloc (.cells #[.int .i64 0, .int .i64 0] 50) = wA := ⟨_, rfl⟩
  have hB : Below w.heap.size w wA := by subst hwA; exact (below_alloc _).trans ((below_alloc _).mono (below_alloc _).size)
  have z0 : wA.cell? ⟨w.heap.size + 1, 0, none⟩ = some (.int .i64 0) := by subst hwA; go_simp
  have z1 : wA.cell? ⟨w.heap.size + 1, 1, none⟩ = some (.int .i64 0) := by subst hwA; go_simp
  have zR : Row wA (w.heap.size + 1) := by subst hwA; have h := row_new (w.alloc (.cells #[c0, c1, c2, c3, c4, c5] 29)) #[.int .i64 0, .int .i64 0] 50; rw [size_alloc] at h; exact h
  rw [hwA]
  clear hwA
  refine (G.out _ hB).mono ?_
  rintro e w1 ⟨rfl, b1⟩
  replace hB := hB.trans (b1.mono hB.size)
  replace z0 := below_cell b1 z0
  replace z1 := below_cell b1 z1
  replace zR := below_row b1 zR
  have fz := fun o => zR.frozen o
  go_wp2
  refine bodyPost_ret (v := .tuple #[.agg #[.int .i64 0, .int .i64 0], .int .i64 1]) (by rw [results_ct rfl]; go_simp) rfl ?_
  exact ⟨rfl, bset (bset (hB) (show w.heap.size ≤ w.heap.size + 1 by omega)) (show w.heap.size ≤ w.heap.size + 1 by omega)⟩
set_option maxHeartbeats 1000000 in
set_option maxRecDepth 100000 in
theorem inside_no (v : Value) (x : Value) (c0 c1 c2 c3 c4 c5 : Value) (w : World) (h : Nob w v) :
    Calls Try.prog 10 #[v, x, .agg #[c0, c1, c2, c3, c4, c5]] w fun e w' => e = .returned (.tuple #[.bool false, .int .i64 1]) ∧ Below w.heap.size w w' := by
  have G := hide' (fun w' (hb : Below w.heap.size w w') => lacks_yes v x w' (h.later hb))
  clear h
  go_enter Try.func10, Try.ntmps10
  go_wp2_with fail
  obtain ⟨wA, hwA⟩ : ∃ wA, w.alloc (.cells #[c0, c1, c2, c3, c4, c5] 29) = wA := ⟨_, rfl⟩
  have hB : Below w.heap.size w wA := by subst hwA; exact below_alloc _
  rw [hwA]
  clear hwA
  refine (G.out _ hB).mono ?_
  rintro e w1 ⟨rfl, b1⟩
  replace hB := hB.trans (b1.mono hB.size)
  go_wp2
  refine bodyPost_ret (v := .tuple #[.bool false, .int .i64 1]) (by rw [results_tt rfl]; go_simp) rfl ?_
  exact ⟨rfl, hB⟩
set_option maxHeartbeats 1000000 in
set_option maxRecDepth 100000 in
theorem state_no (v : Value) (w : World) (h : Nob w v) :
    Calls Try.prog 16 #[v] w fun e w' => e = .returned (.agg #[.slice none 0 0, .int .i64 0, .slice none 0 0]) ∧ Below w.heap.size w w' := by
  have G := hide' (fun w' (hb : Below w.heap.size w w') => isNone_yes v w' (h.later hb))
  clear h
  go_enter Try.func16, Try.ntmps16
  go_wp2_with fail
  obtain ⟨wA, hwA⟩ : ∃ wA, w.alloc (.cells #[.slice none 0 0, .int .i64 0, .slice none 0 0] 61) = wA := ⟨_, rfl⟩
  have hB : Below w.heap.size w wA := by subst hwA; exact below_alloc _
  have z0 : wA.cell? ⟨w.heap.size, 0, none⟩ = some (.slice none 0 0) := by subst hwA; go_simp
  have z1 : wA.cell? ⟨w.heap.size, 1, none⟩ = some (.int .i64 0) := by subst hwA; go_simp
  have z2 : wA.cell? ⟨w.heap.size, 2, none⟩ = some (.slice none 0 0) := by subst hwA; go_simp
  have zR : Row wA w.heap.size := by subst hwA; exact row_new _ _ _
  rw [hwA]
  clear hwA
  refine (G.out _ hB).mono ?_
  rintro e w1 ⟨rfl, b1⟩
  replace hB := hB.trans (b1.mono hB.size)
  replace z0 := below_cell b1 z0
  replace z1 := below_cell b1 z1
  replace z2 := below_cell b1 z2
  replace zR := below_row b1 zR
  have fz := fun o => zR.frozen o
  go_wp2
  refine bodyPost_ret (v := .agg #[.slice none 0 0, .int .i64 0, .slice none 0 0]) (by rw [results_cell rfl]; go_simp) rfl ?_
  exact ⟨rfl, bset (bset (bset (hB) (show w.heap.size ≤ w.heap.size by omega)) (show w.heap.size ≤ w.heap.size by omega)) (show w.heap.size ≤ w.heap.size by omega)⟩
set_option maxHeartbeats 1000000 in
set_option maxRecDepth 100000 in
theorem fits_no (v : Value) (l : Value) (w : World) (h : Nob w v) :
    Calls Try.prog 14 #[v, l] w fun e w' => e = .returned (.int .i64 (-1)) ∧ Below w.heap.size w w' := by
  have G := hide' (fun w' (hb : Below w.heap.size w w') => vars_no v w' (h.later hb))
  have hB : Below w.heap.size w w := Below.refl _ _
  clear h
  go_enter Try.func14, Try.ntmps14
  go_wp2_with fail
  refine (G.out _ hB).mono ?_
  rintro e w1 ⟨rfl, b1⟩
  replace hB := hB.trans (b1.mono hB.size)
  have i2 : ¬ (0 : Int) < (0 : Int) := by omega
  go_wp2_with fail
  go_loopw [9] (fun vi w9 => vi = .int .i64 0 ∧ w9 = w1) (fun _ _ => 0)
  case atStart => exact ⟨rfl, rfl⟩
  case round =>
    obtain ⟨rfl, rfl⟩ := hrel
    go_wp2
    go_ret
    exact ⟨rfl, hB⟩
set_option maxHeartbeats 1000000 in
set_option maxRecDepth 100000 in
theorem push_no (v : Value) (w : World) (h : Nob w v) :
    Calls Try.prog 4 #[v] w fun e w' => (∃ u, e = .returned u) ∧ Below w.heap.size w w' := by
  have G := hide' (fun w' (hb : Below w.heap.size w w') => isNone_yes v w' (h.later hb))
  have hB : Below w.heap.size w w := Below.refl _ _
  clear h
  go_enter Try.func4, Try.ntmps4
  go_wp2_with fail
  refine (G.out _ hB).mono ?_
  rintro e w1 ⟨rfl, b1⟩
  replace hB := hB.trans (b1.mono hB.size)
  go_wp2
  refine bodyPost_end (v := .tuple #[]) (by kernel_rfl) rfl ?_
  exact ⟨⟨_, rfl⟩, hB⟩
set_option maxHeartbeats 1000000 in
set_option maxRecDepth 100000 in
theorem sameState_zero (w : World) :
    Calls Try.prog 15 #[.agg #[.slice none 0 0, .int .i64 0, .slice none 0 0], .agg #[.slice none 0 0, .int .i64 0, .slice none 0 0]] w fun e w' => e = .returned (.bool true) ∧ Below w.heap.size w w' := by
  go_enter Try.func15, Try.ntmps15
  go_wp2_with fail
  obtain ⟨wA, hwA⟩ : ∃ wA, (w.alloc (.cells #[.slice none 0 0, .int .i64 0, .slice none 0 0] 61)).alloc (.cells #[.slice none 0 0, .int .i64 0, .slice none 0 0] 61) = wA := ⟨_, rfl⟩
  have hB : Below w.heap.size w wA := by subst hwA; exact (below_alloc _).trans ((below_alloc _).mono (below_alloc _).size)
  have d0 : wA.cell? ⟨w.heap.size, 0, none⟩ = some (.slice none 0 0) := by subst hwA; go_simp
  have d2 : wA.cell? ⟨w.heap.size, 2, none⟩ = some (.slice none 0 0) := by subst hwA; go_simp
  have i2 : ¬ (0 : Int) < (0 : Int) := by omega
  rw [hwA]
  clear hwA
  go_loopw [5] (fun vi w9 => vi = .int .i64 0 ∧ w9 = wA) (fun _ _ => 0)
  case atStart => exact ⟨rfl, rfl⟩
  case round =>
    obtain ⟨rfl, rfl⟩ := hrel
    go_wp2_with fail
    go_loopw [7] (fun vi w9 => vi = .int .i64 0 ∧ w9 = wr) (fun _ _ => 0)
    case atStart => exact ⟨rfl, rfl⟩
    case round =>
      obtain ⟨rfl, rfl⟩ := hrel
      go_wp2
      go_ret
      exact ⟨rfl, hB⟩
end Go.Proofs.Ytbjmmliajacklaa
