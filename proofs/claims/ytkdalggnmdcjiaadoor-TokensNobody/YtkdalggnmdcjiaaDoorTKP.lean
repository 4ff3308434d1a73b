/-
  The reference's Place of nothing.
-/
import Derived.Test.YtkdalggnmdcjiaaDoorTKN
namespace Go.Proofs.YtkdalggnmdcjiaaDoor
open Go.RowKit
set_option linter.unusedVariables false
set_option linter.unusedSimpArgs false
set_option maxHeartbeats 1000000 in
set_option maxRecDepth 100000 in
theorem place_none (w : World) : Calls Tryd.prog 7 #[.string ⟨#[]⟩, .int .i64 0] w fun e w' => e = .returned (.agg #[.int .i64 0, .string ⟨#[]⟩, .int .i64 0, .int .i64 0, .int .i64 1, .int .i64 1]) ∧ Below w.heap.size w w' := by
  have hB : Below w.heap.size w (w.alloc (.cells #[.int .i64 0, .string ⟨#[]⟩, .int .i64 0, .int .i64 0, .int .i64 0, .int .i64 0] 26)) := below_alloc _
  have qT := Blk.new w #[.int .i64 0, .string ⟨#[]⟩, .int .i64 0, .int .i64 0, .int .i64 0, .int .i64 0] 26
  go_enter Tryd.func7, Tryd.ntmps7
  go_wp2_with fail
  have eW : (w.alloc (.cells #[.int .i64 0, .string ⟨#[]⟩, .int .i64 0, .int .i64 0, .int .i64 0, .int .i64 0] 26)).heap.size = w.heap.size + 1 := by simp
  generalize w.alloc (.cells #[.int .i64 0, .string ⟨#[]⟩, .int .i64 0, .int .i64 0, .int .i64 0, .int .i64 0] 26) = W at hB qT eW ⊢
  have b2 := below_alloc (w := W) (.cells #[.int .i64 0, .string ⟨#[]⟩, .int .i64 0, .int .i64 0, .int .i64 1, .int .i64 1] 26)
  have q2 := Blk.new W #[.int .i64 0, .string ⟨#[]⟩, .int .i64 0, .int .i64 0, .int .i64 1, .int .i64 1] 26
  rw [eW] at q2
  replace qT := qT.later b2
  replace hB := hB.trans (b2.mono hB.size)
  clear b2
  generalize W.alloc (.cells #[.int .i64 0, .string ⟨#[]⟩, .int .i64 0, .int .i64 0, .int .i64 1, .int .i64 1] 26) = W2 at hB qT q2 ⊢
  go_loopw [6] (fun i wr => i = .int .i64 0 ∧ wr = W2) (fun _ _ => 0)
  case atStart => exact ⟨rfl, rfl⟩
  case round =>
    obtain ⟨rfl, rfl⟩ := hrel
    have fz := fun o => qT.frozen o
    have t0 := qT.cell 0
    have z0 := q2.cell 0
    have t1 := qT.cell 1
    have z1 := q2.cell 1
    have t2 := qT.cell 2
    have z2 := q2.cell 2
    have t3 := qT.cell 3
    have z3 := q2.cell 3
    have t4 := qT.cell 4
    have z4 := q2.cell 4
    have t5 := qT.cell 5
    have z5 := q2.cell 5
    simp only [List.getElem?_toArray, List.getElem?_cons_zero, List.getElem?_cons_succ] at t0 z0 t1 z1 t2 z2 t3 z3 t4 z4 t5 z5
    go_wp2
    clear t0 z0 t1 z1 t2 z2 t3 z3 t4 z4 t5 z5 fz
    obtain ⟨k6, q6⟩ := qT.set6 (.int .i64 0) (.string ⟨#[]⟩) (.int .i64 0) (.int .i64 0) (.int .i64 1) (.int .i64 1)
    unfold set6 at k6 q6
    have x0 := q6.cell 0
    have x1 := q6.cell 1
    have x2 := q6.cell 2
    have x3 := q6.cell 3
    have x4 := q6.cell 4
    have x5 := q6.cell 5
    simp only [List.getElem?_toArray, List.getElem?_cons_zero, List.getElem?_cons_succ] at x0 x1 x2 x3 x4 x5
    replace hB := hB.trans ((k6.below (Nat.le_refl _)).mono (Nat.le_refl _))
    clear k6 q6 qT
    generalize ((((((wr.setCell ⟨w.heap.size, 0, none⟩ (.int .i64 0)).setCell ⟨w.heap.size, 1, none⟩ (.string ⟨#[]⟩)).setCell ⟨w.heap.size, 2, none⟩ (.int .i64 0)).setCell ⟨w.heap.size, 3, none⟩ (.int .i64 0)).setCell ⟨w.heap.size, 4, none⟩ (.int .i64 1)).setCell ⟨w.heap.size, 5, none⟩ (.int .i64 1)) = w9 at x0 x1 x2 x3 x4 x5 hB ⊢
    refine bodyPost_ret (v := .agg #[.int .i64 0, .string ⟨#[]⟩, .int .i64 0, .int .i64 0, .int .i64 1, .int .i64 1]) (by rw [results_c rfl]; go_simp) rfl ?_
    exact ⟨rfl, hB⟩
end Go.Proofs.YtkdalggnmdcjiaaDoor
