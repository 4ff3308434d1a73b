/-
  units: side, isSafe, forces.
-/
import Derived.Test.YtfodejhipnmgnaaUC0
namespace Go.Proofs.Ytfodejhipnmgnaa
open Go.RowKit
set_option linter.unusedVariables false
set_option linter.unusedSimpArgs false
theorem ix0 (w : World) (x y : Int) : (Instr.index 87 (.agg #[.int .i64 x, .int .i64 y]) (.int .i64 0)).run Try.prog w = .ok (.int .i64 x) w := by kernel_rfl
theorem ix1 (w : World) (x y : Int) : (Instr.index 87 (.agg #[.int .i64 x, .int .i64 y]) (.int .i64 1)).run Try.prog w = .ok (.int .i64 y) w := by kernel_rfl
set_option maxHeartbeats 2000000 in
set_option maxRecDepth 100000 in
theorem side_is (g o : Nat) (x y : Int) (w : World) (k : w.cell? ⟨g, o + 1, none⟩ = some (.int .i64 y)) :
    Calls Try.prog 68 #[.pointer (some ⟨g, o, none⟩), .int .i64 x] w fun e w' => e = .returned (.int .i64 (if y = x then 0 else 1)) ∧ w' = w := by
  by_cases e : y = x
  · rw [if_pos e]
    subst e
    go_enter Try.func68, Try.ntmps68
    go_wp2
    go_ret
    exact ⟨rfl, rfl⟩
  · rw [if_neg e]
    go_enter Try.func68, Try.ntmps68
    go_wp2
    go_ret
    exact ⟨rfl, rfl⟩
set_option maxHeartbeats 2000000 in
set_option maxRecDepth 100000 in
theorem isSafe_is (ow : Nat → Tg) (b : Nat) (V : SV) (u : US) (x y : Int) (hx : InR u x) (hy : InR u y) (w : World) (h : UM w ow b V u) (hr : Rd u)  :
    Calls Try.prog 60 #[.pointer (some ⟨b, 0, none⟩), .agg #[.int .i64 x, .int .i64 y]] w fun e w' => e = .returned (.bool (safeV u x y)) ∧ Below w.heap.size w w' := by
  have G1 := hide' (fun w' (hb : Below w.heap.size w w') => truth_is ow b V u x hx w' (h.later hb) hr)
  have G2 := hide' (fun w' (hb : Below w.heap.size w w') => truth_is ow b V u y hy w' (h.later hb) hr)
  have G3 := hide' (fun w' (hb : Below w.heap.size w w') => since_is ow b V u x hx w' (h.later hb) hr)
  have G4 := hide' (fun w' (hb : Below w.heap.size w w') => since_is ow b V u y hy w' (h.later hb) hr)
  unfold safeV
  clear h hr hx hy
  generalize trv u x = p at *
  generalize trv u y = q at *
  generalize sinceV u x = s at *
  generalize sinceV u y = t at *
  by_cases h1 : p > 0
  · by_cases h3 : s ≤ t
    · skip
      have hi0 := fun w => ix0 w x y
      have hi1 := fun w => ix1 w x y
      go_enter Try.func60, Try.ntmps60
      go_wp2_with fail
      obtain ⟨wA, hwA⟩ : ∃ wA, w.alloc (.cells #[.int .i64 x, .int .i64 y] 87) = wA := ⟨_, rfl⟩
      have hB : Below w.heap.size w wA := by subst hwA; exact below_alloc _
      have d0 : wA.cell? ⟨w.heap.size, 0, none⟩ = some (.int .i64 x) := by subst hwA; go_simp
      have d1 : wA.cell? ⟨w.heap.size, 1, none⟩ = some (.int .i64 y) := by subst hwA; go_simp
      rw [hwA]
      clear hwA
      refine wp_loop_rounds 3 ?_
      rw [rounds_succ]
      go_wp2_with fail
      go_quiet (first | (go_at_call 53; exact Calls.quiet_of_same (G1.out _ (below_drewN hB))) | (go_at_call_of 63 (Value.int .i64 x); exact Calls.quiet_of_same (G3.out _ (below_drewN hB))) | (go_at_call_of 63 (Value.int .i64 y); exact Calls.quiet_of_same (G4.out _ (below_drewN hB))))
      obtain ⟨wB, hwB⟩ : ∃ wB, wA.drewN nq = wB := ⟨_, rfl⟩
      rw [hwB]
      replace hB : Below w.heap.size w wB := by subst hwB; exact below_drewN hB
      replace d0 : wB.cell? ⟨w.heap.size, 0, none⟩ = some (.int .i64 x) := by subst hwB; exact d0
      replace d1 : wB.cell? ⟨w.heap.size, 1, none⟩ = some (.int .i64 y) := by subst hwB; exact d1
      clear hwB
      go_wp2_with fail
      go_ret
      refine ⟨?_, hB⟩
      simp [h1, h3]
    · by_cases h2 : q > 0
      · skip
        have h4 : t ≤ s := by omega
        have hi0 := fun w => ix0 w x y
        have hi1 := fun w => ix1 w x y
        go_enter Try.func60, Try.ntmps60
        go_wp2_with fail
        obtain ⟨wA, hwA⟩ : ∃ wA, w.alloc (.cells #[.int .i64 x, .int .i64 y] 87) = wA := ⟨_, rfl⟩
        have hB : Below w.heap.size w wA := by subst hwA; exact below_alloc _
        have d0 : wA.cell? ⟨w.heap.size, 0, none⟩ = some (.int .i64 x) := by subst hwA; go_simp
        have d1 : wA.cell? ⟨w.heap.size, 1, none⟩ = some (.int .i64 y) := by subst hwA; go_simp
        rw [hwA]
        clear hwA
        refine wp_loop_rounds 3 ?_
        rw [rounds_succ]
        go_wp2_with fail
        go_quiet (first | (go_at_call 53; exact Calls.quiet_of_same (G1.out _ (below_drewN hB))) | (go_at_call_of 63 (Value.int .i64 x); exact Calls.quiet_of_same (G3.out _ (below_drewN hB))) | (go_at_call_of 63 (Value.int .i64 y); exact Calls.quiet_of_same (G4.out _ (below_drewN hB))))
        obtain ⟨wB, hwB⟩ : ∃ wB, wA.drewN nq = wB := ⟨_, rfl⟩
        rw [hwB]
        replace hB : Below w.heap.size w wB := by subst hwB; exact below_drewN hB
        replace d0 : wB.cell? ⟨w.heap.size, 0, none⟩ = some (.int .i64 x) := by subst hwB; exact d0
        replace d1 : wB.cell? ⟨w.heap.size, 1, none⟩ = some (.int .i64 y) := by subst hwB; exact d1
        clear hwB
        go_wp2_with fail
        rw [rounds_succ]
        go_wp2_with fail
        go_quiet (first | (go_at_call 53; exact Calls.quiet_of_same (G2.out _ (below_drewN hB))) | (go_at_call_of 63 (Value.int .i64 y); exact Calls.quiet_of_same (G4.out _ (below_drewN hB))) | (go_at_call_of 63 (Value.int .i64 x); exact Calls.quiet_of_same (G3.out _ (below_drewN hB))))
        go_wp2_with fail
        go_ret
        refine ⟨?_, below_drewN hB⟩
        first | (simp; omega) | simp | (simp_all; omega) | simp_all
      · skip
        have hq0 : decide (0 < q) = false := decide_eq_false (by omega)
        have hi0 := fun w => ix0 w x y
        have hi1 := fun w => ix1 w x y
        go_enter Try.func60, Try.ntmps60
        go_wp2_with fail
        obtain ⟨wA, hwA⟩ : ∃ wA, w.alloc (.cells #[.int .i64 x, .int .i64 y] 87) = wA := ⟨_, rfl⟩
        have hB : Below w.heap.size w wA := by subst hwA; exact below_alloc _
        have d0 : wA.cell? ⟨w.heap.size, 0, none⟩ = some (.int .i64 x) := by subst hwA; go_simp
        have d1 : wA.cell? ⟨w.heap.size, 1, none⟩ = some (.int .i64 y) := by subst hwA; go_simp
        rw [hwA]
        clear hwA
        refine wp_loop_rounds 3 ?_
        rw [rounds_succ]
        go_wp2_with fail
        go_quiet (first | (go_at_call 53; exact Calls.quiet_of_same (G1.out _ (below_drewN hB))) | (go_at_call_of 63 (Value.int .i64 x); exact Calls.quiet_of_same (G3.out _ (below_drewN hB))) | (go_at_call_of 63 (Value.int .i64 y); exact Calls.quiet_of_same (G4.out _ (below_drewN hB))))
        obtain ⟨wB, hwB⟩ : ∃ wB, wA.drewN nq = wB := ⟨_, rfl⟩
        rw [hwB]
        replace hB : Below w.heap.size w wB := by subst hwB; exact below_drewN hB
        replace d0 : wB.cell? ⟨w.heap.size, 0, none⟩ = some (.int .i64 x) := by subst hwB; exact d0
        replace d1 : wB.cell? ⟨w.heap.size, 1, none⟩ = some (.int .i64 y) := by subst hwB; exact d1
        clear hwB
        go_wp2_with fail
        rw [rounds_succ]
        go_wp2_with fail
        go_quiet (first | (go_at_call 53; exact Calls.quiet_of_same (G2.out _ (below_drewN hB))) | (go_at_call_of 63 (Value.int .i64 y); exact Calls.quiet_of_same (G4.out _ (below_drewN hB))) | (go_at_call_of 63 (Value.int .i64 x); exact Calls.quiet_of_same (G3.out _ (below_drewN hB))))
        go_wp2_with fail
        rw [rounds_succ]
        go_wp2
        go_ret
        refine ⟨?_, below_drewN hB⟩
        first | (simp; omega) | simp | (simp_all; omega) | simp_all
  · by_cases h2 : q > 0
    · by_cases h4 : t ≤ s
      · skip
        have hp0 : decide (0 < p) = false := decide_eq_false (by omega)
        have hi0 := fun w => ix0 w x y
        have hi1 := fun w => ix1 w x y
        go_enter Try.func60, Try.ntmps60
        go_wp2_with fail
        obtain ⟨wA, hwA⟩ : ∃ wA, w.alloc (.cells #[.int .i64 x, .int .i64 y] 87) = wA := ⟨_, rfl⟩
        have hB : Below w.heap.size w wA := by subst hwA; exact below_alloc _
        have d0 : wA.cell? ⟨w.heap.size, 0, none⟩ = some (.int .i64 x) := by subst hwA; go_simp
        have d1 : wA.cell? ⟨w.heap.size, 1, none⟩ = some (.int .i64 y) := by subst hwA; go_simp
        rw [hwA]
        clear hwA
        refine wp_loop_rounds 3 ?_
        rw [rounds_succ]
        go_wp2_with fail
        go_quiet (first | (go_at_call 53; exact Calls.quiet_of_same (G1.out _ (below_drewN hB))) | (go_at_call_of 63 (Value.int .i64 x); exact Calls.quiet_of_same (G3.out _ (below_drewN hB))) | (go_at_call_of 63 (Value.int .i64 y); exact Calls.quiet_of_same (G4.out _ (below_drewN hB))))
        obtain ⟨wB, hwB⟩ : ∃ wB, wA.drewN nq = wB := ⟨_, rfl⟩
        rw [hwB]
        replace hB : Below w.heap.size w wB := by subst hwB; exact below_drewN hB
        replace d0 : wB.cell? ⟨w.heap.size, 0, none⟩ = some (.int .i64 x) := by subst hwB; exact d0
        replace d1 : wB.cell? ⟨w.heap.size, 1, none⟩ = some (.int .i64 y) := by subst hwB; exact d1
        clear hwB
        go_wp2_with fail
        rw [rounds_succ]
        go_wp2_with fail
        go_quiet (first | (go_at_call 53; exact Calls.quiet_of_same (G2.out _ (below_drewN hB))) | (go_at_call_of 63 (Value.int .i64 y); exact Calls.quiet_of_same (G4.out _ (below_drewN hB))) | (go_at_call_of 63 (Value.int .i64 x); exact Calls.quiet_of_same (G3.out _ (below_drewN hB))))
        go_wp2_with fail
        go_ret
        refine ⟨?_, below_drewN hB⟩
        first | (simp; omega) | simp | (simp_all; omega) | simp_all
      · skip
        have hp0 : decide (0 < p) = false := decide_eq_false (by omega)
        have hi0 := fun w => ix0 w x y
        have hi1 := fun w => ix1 w x y
        go_enter Try.func60, Try.ntmps60
        go_wp2_with fail
        obtain ⟨wA, hwA⟩ : ∃ wA, w.alloc (.cells #[.int .i64 x, .int .i64 y] 87) = wA := ⟨_, rfl⟩
        have hB : Below w.heap.size w wA := by subst hwA; exact below_alloc _
        have d0 : wA.cell? ⟨w.heap.size, 0, none⟩ = some (.int .i64 x) := by subst hwA; go_simp
        have d1 : wA.cell? ⟨w.heap.size, 1, none⟩ = some (.int .i64 y) := by subst hwA; go_simp
        rw [hwA]
        clear hwA
        refine wp_loop_rounds 3 ?_
        rw [rounds_succ]
        go_wp2_with fail
        go_quiet (first | (go_at_call 53; exact Calls.quiet_of_same (G1.out _ (below_drewN hB))) | (go_at_call_of 63 (Value.int .i64 x); exact Calls.quiet_of_same (G3.out _ (below_drewN hB))) | (go_at_call_of 63 (Value.int .i64 y); exact Calls.quiet_of_same (G4.out _ (below_drewN hB))))
        obtain ⟨wB, hwB⟩ : ∃ wB, wA.drewN nq = wB := ⟨_, rfl⟩
        rw [hwB]
        replace hB : Below w.heap.size w wB := by subst hwB; exact below_drewN hB
        replace d0 : wB.cell? ⟨w.heap.size, 0, none⟩ = some (.int .i64 x) := by subst hwB; exact d0
        replace d1 : wB.cell? ⟨w.heap.size, 1, none⟩ = some (.int .i64 y) := by subst hwB; exact d1
        clear hwB
        go_wp2_with fail
        rw [rounds_succ]
        go_wp2_with fail
        go_quiet (first | (go_at_call 53; exact Calls.quiet_of_same (G2.out _ (below_drewN hB))) | (go_at_call_of 63 (Value.int .i64 y); exact Calls.quiet_of_same (G4.out _ (below_drewN hB))) | (go_at_call_of 63 (Value.int .i64 x); exact Calls.quiet_of_same (G3.out _ (below_drewN hB))))
        go_wp2_with fail
        rw [rounds_succ]
        go_wp2
        go_ret
        refine ⟨?_, below_drewN hB⟩
        first | (simp; omega) | simp | (simp_all; omega) | simp_all
    · skip
      have hp0 : decide (0 < p) = false := decide_eq_false (by omega)
      have hq0 : decide (0 < q) = false := decide_eq_false (by omega)
      have hi0 := fun w => ix0 w x y
      have hi1 := fun w => ix1 w x y
      go_enter Try.func60, Try.ntmps60
      go_wp2_with fail
      obtain ⟨wA, hwA⟩ : ∃ wA, w.alloc (.cells #[.int .i64 x, .int .i64 y] 87) = wA := ⟨_, rfl⟩
      have hB : Below w.heap.size w wA := by subst hwA; exact below_alloc _
      have d0 : wA.cell? ⟨w.heap.size, 0, none⟩ = some (.int .i64 x) := by subst hwA; go_simp
      have d1 : wA.cell? ⟨w.heap.size, 1, none⟩ = some (.int .i64 y) := by subst hwA; go_simp
      rw [hwA]
      clear hwA
      refine wp_loop_rounds 3 ?_
      rw [rounds_succ]
      go_wp2_with fail
      go_quiet (first | (go_at_call 53; exact Calls.quiet_of_same (G1.out _ (below_drewN hB))) | (go_at_call_of 63 (Value.int .i64 x); exact Calls.quiet_of_same (G3.out _ (below_drewN hB))) | (go_at_call_of 63 (Value.int .i64 y); exact Calls.quiet_of_same (G4.out _ (below_drewN hB))))
      obtain ⟨wB, hwB⟩ : ∃ wB, wA.drewN nq = wB := ⟨_, rfl⟩
      rw [hwB]
      replace hB : Below w.heap.size w wB := by subst hwB; exact below_drewN hB
      replace d0 : wB.cell? ⟨w.heap.size, 0, none⟩ = some (.int .i64 x) := by subst hwB; exact d0
      replace d1 : wB.cell? ⟨w.heap.size, 1, none⟩ = some (.int .i64 y) := by subst hwB; exact d1
      clear hwB
      go_wp2_with fail
      rw [rounds_succ]
      go_wp2_with fail
      go_quiet (first | (go_at_call 53; exact Calls.quiet_of_same (G2.out _ (below_drewN hB))) | (go_at_call_of 63 (Value.int .i64 y); exact Calls.quiet_of_same (G4.out _ (below_drewN hB))) | (go_at_call_of 63 (Value.int .i64 x); exact Calls.quiet_of_same (G3.out _ (below_drewN hB))))
      go_wp2_with fail
      rw [rounds_succ]
      go_wp2
      go_ret
      refine ⟨?_, below_drewN hB⟩
      first | (simp; omega) | simp | (simp_all; omega) | simp_all
end Go.Proofs.Ytfodejhipnmgnaa
