/-
  heap: the reference's New; the law's ints and lives.
-/
import Derived.Test.YtccmppedofkckaaHP7
namespace Go.Proofs.Ytccmppedofkckaa
open Go.RowKit
set_option linter.unusedVariables false
set_option linter.unusedSimpArgs false
theorem results_ct {fn : Func} {p u : Tmp} {ty : TypeId} (h : fn.results = #[.cell p ty, .tmp u]) (tmps : Array Value) (P : Program) (w : World) :
    (results fn tmps).run P w = ((asAddr (tmps.getD p undef)).run P w).andThen fun a w1 => ((loadVar ty a).run P w1).andThen fun v w2 => .ok (.tuple #[v, tmps.getD u undef]) w2 := by
  simp only [results, h]
  simp [Sem.run_bind]
set_option maxHeartbeats 2000000 in
set_option maxRecDepth 100000 in
theorem ints2 (a c b d : Nat) (w : World) (a0 : w.cell? ⟨a, 0, none⟩ = some (.int .i64 1)) (a1 : w.cell? ⟨a, 1, none⟩ = some (.int .i64 0)) (b0 : w.cell? ⟨b, 0, none⟩ = some (.int .i64 1)) (b1 : w.cell? ⟨b, 1, none⟩ = some (.int .i64 0))  :
    Calls Try.prog 11 #[.slice (some ⟨a, 0, none⟩) 2 c, .slice (some ⟨b, 0, none⟩) 2 d] w fun e w' => e = .returned (.bool true) ∧ ∃ k, w' = w.drewN k := by
  go_enter Try.func11, Try.ntmps11
  go_wp2
  refine wp_loop_rounds 3 ?_
  rw [rounds_succ]
  go_wp2_with fail
  go_quiet (fail)
  go_wp2
  rw [rounds_succ]
  go_wp2_with fail
  go_quiet (fail)
  go_wp2
  rw [rounds_succ]
  go_wp2
  go_ret
  exact ⟨rfl, _, rfl⟩
set_option maxHeartbeats 2000000 in
set_option maxRecDepth 100000 in
theorem lives_is (w : World) :
    Calls Try.prog 4 #[] w fun e w' => e = .returned (.bool true) ∧ Below w.heap.size w w' := by
  have G1 := hide' (New_is 2 (by omega) (by omega) w)
  have HN := hide' (fun w' b s p (h : NewH w w' b s p (2 : Int).toNat) => show HS w w' w'.heap.size b s p (.slice none 0 0) 0 0 0 ([] : List Int) from ⟨h.gb, h.gs, h.gp, h.bel.size, h.bel, h.lb, h.ls, h.lp, h.bs, h.bp, h.sp, Nat.le_refl _, h.c0, h.c1, h.c2, h.c3, h.s0 0 (by decide), h.s0 1 (by decide), h.p0 0 (by decide), h.p0 1 (by decide), h.fb, h.fs 1, h.fp 0, h.fp 1, World.ownsRow_nil _ _ _ _⟩)
  go_enter Try.func4, Try.ntmps4
  go_wp2_with fail
  refine G1.out.mono ?_
  rintro e w1 ⟨b, s, p, rfl, h⟩
  have G2 := hide' (Push0 w w1 w1.heap.size b s p _ (HN.out _ _ _ _ h))
  clear h HN
  go_wp2_with fail
  refine G2.out.mono ?_
  rintro e w2 ⟨rfl, v2, h⟩
  have G3 := hide' (Push1 w w2 _ b s p _ h)
  clear h
  go_wp2_with fail
  refine G3.out.mono ?_
  rintro e w3 ⟨rfl, v3, h⟩
  have G4 := hide' (Bump1 w w3 _ b s p _ h)
  clear h
  go_wp2_with fail
  refine G4.out.mono ?_
  rintro e w4 ⟨rfl, h⟩
  have G5 := hide' (Order2 w w4 _ b s p _ h)
  have B4 := hide' h.bel
  clear h
  go_wp2_with fail
  refine G5.out.mono ?_
  rintro e w5 ⟨g, d, rfl, g0, g1, hb⟩
  have B5 := hide' (show Below w.heap.size w (w5.alloc (.cells #[.int .i64 1, .int .i64 0] 3)) from (B4.out.trans (hb.mono B4.out.size)).alloc (Nat.le_trans B4.out.size hb.size) _)
  have lg : g < w5.heap.size := World.block_lt_of_cell? w5 _ g0
  have G6 := hide' (ints2 g d w5.heap.size 2 (w5.alloc (.cells #[.int .i64 1, .int .i64 0] 3)) (Lib.cell?_alloc_some _ g0) (Lib.cell?_alloc_some _ g1) (by go_simp) (by go_simp))
  clear g0 g1 hb lg B4
  go_wp2_with fail
  refine G6.out.mono ?_
  rintro e w6 ⟨rfl, k, rfl⟩
  go_wp2
  go_ret
  exact ⟨rfl, B5.out.os, B5.out.tape, B5.out.output, B5.out.size, B5.out.block⟩
set_option maxHeartbeats 2000000 in
set_option maxRecDepth 100000 in
theorem rNew_neg (V : Int) (h0 : V < 0) (w : World) :
    Calls Try.prog 6 #[.int .i64 V] w fun e w' => Below w.heap.size w w' ∧ ∃ a n c b m d f, e = .returned (.tuple #[.agg #[.slice a n c, .slice b m d, .float .f64 f], .int .i64 1]) := by
  have hsf := store_float
  go_enter Try.func6, Try.ntmps6
  go_wp2
  refine bodyPost_ret (by rw [results_ct rfl]; go_simp; rfl) rfl ?_
  exact ⟨below_alloc _, _, _, _, _, _, _, _, rfl⟩
set_option maxHeartbeats 2000000 in
set_option maxRecDepth 100000 in
theorem rNew_full (V : Int) (h0 : ¬ V < 0) (h1 : V > 1048576) (w : World) :
    Calls Try.prog 6 #[.int .i64 V] w fun e w' => Below w.heap.size w w' ∧ ∃ a n c b m d f, e = .returned (.tuple #[.agg #[.slice a n c, .slice b m d, .float .f64 f], .int .i64 2]) := by
  have hsf := store_float
  go_enter Try.func6, Try.ntmps6
  go_wp2
  refine bodyPost_ret (by rw [results_ct rfl]; go_simp; rfl) rfl ?_
  exact ⟨below_alloc _, _, _, _, _, _, _, _, rfl⟩
set_option maxHeartbeats 2000000 in
set_option maxRecDepth 100000 in
theorem rNew_ok (V : Int) (h0 : 0 ≤ V) (h1 : V ≤ 1048576) (w : World) :
    Calls Try.prog 6 #[.int .i64 V] w fun e w' => Below w.heap.size w w' ∧ ∃ a n c b m d f, e = .returned (.tuple #[.agg #[.slice a n c, .slice b m d, .float .f64 f], .int .i64 0]) := by
  have hsf := store_float
  obtain ⟨n, rfl⟩ := Int.eq_ofNat_of_zero_le h0
  obtain ⟨Xs, hXs, hms⟩ : ∃ X : Array Value, (∀ i, i < n → X[i]? = some (.float .f64 0)) ∧ ∀ w : World, (Instr.makeSlice 27 (.int .i64 (n : Int)) (.int .i64 (n : Int))).run Try.prog w = .ok (.slice (some ⟨w.heap.size, 0, none⟩) n n) (w.alloc (.cells X 29)) := by
    obtain ⟨i0, hi0, hz0, hz1, hz2⟩ := info_parts info_f
    refine ⟨madeCells (.float .f64 0 : Value).cells (n * 1), fun i hi => ?_, fun w => ?_⟩
    · rw [Nat.mul_one]; simp [madeCells, Value.cells, hi, Nat.mod_one]
    · have hr := run_make (P := Try.prog) w 27 29 i0 _ Try.underlying27 hi0 hz0 .i64 .i64 n n (by omega) (Int.le_refl _) (by rw [hz2]; omega) (by omega)
      rw [hz1, Int.toNat_natCast] at hr
      exact hr
  obtain ⟨Xp, hXp, hmp⟩ : ∃ X : Array Value, (∀ i, i < n → X[i]? = some (.bool false)) ∧ ∀ w : World, (Instr.makeSlice 28 (.int .i64 (n : Int)) (.int .i64 (n : Int))).run Try.prog w = .ok (.slice (some ⟨w.heap.size, 0, none⟩) n n) (w.alloc (.cells X 4)) := by
    obtain ⟨i0, hi0, hz0, hz1, hz2⟩ := info_parts info_b
    refine ⟨madeCells (.bool false : Value).cells (n * 1), fun i hi => ?_, fun w => ?_⟩
    · rw [Nat.mul_one]; simp [madeCells, Value.cells, hi, Nat.mod_one]
    · have hr := run_make (P := Try.prog) w 28 4 i0 _ Try.underlying28 hi0 hz0 .i64 .i64 n n (by omega) (Int.le_refl _) (by rw [hz2]; omega) (by omega)
      rw [hz1, Int.toNat_natCast] at hr
      exact hr
  clear hXs hXp
  go_enter Try.func6, Try.ntmps6
  go_wp2_with fail
  go_region
  all_goals go_wp2
  all_goals (refine bodyPost_ret (by rw [results_ct rfl]; go_simp; rfl) rfl ?_)
  all_goals exact ⟨((((Below.refl _ w).alloc (Nat.le_refl _) _).alloc (by simp) _).alloc (by simp; omega) _).drew, _, _, _, _, _, _, _, rfl⟩
end Go.Proofs.Ytccmppedofkckaa
