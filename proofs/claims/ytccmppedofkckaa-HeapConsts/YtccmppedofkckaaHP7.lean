/-
  heap: New of the program and of the reference.
-/
import Derived.Test.YtccmppedofkckaaHP6
namespace Go.Proofs.Ytccmppedofkckaa
open Go.RowKit
set_option linter.unusedVariables false
set_option linter.unusedSimpArgs false
theorem results_tt {fn : Func} {p u : Tmp} (h : fn.results = #[.tmp p, .tmp u]) (tmps : Array Value) (P : Program) (w : World) :
    (results fn tmps).run P w = .ok (.tuple #[tmps.getD p undef, tmps.getD u undef]) w := by
  simp only [results, h]
  simp
/-- a heap of n variables that New made, of which none stands in it -/
structure NewH (w w' : World) (b s p n : Nat) : Prop where
  gb : w.heap.size ≤ b
  gs : w.heap.size ≤ s
  gp : w.heap.size ≤ p
  lb : b < w'.heap.size
  ls : s < w'.heap.size
  lp : p < w'.heap.size
  bs : b ≠ s
  bp : b ≠ p
  sp : s ≠ p
  c0 : w'.cell? ⟨b, 0, none⟩ = some (.slice (some ⟨s, 0, none⟩) n n)
  c1 : w'.cell? ⟨b, 1, none⟩ = some (.slice none 0 0)
  c2 : w'.cell? ⟨b, 2, none⟩ = some (.slice (some ⟨p, 0, none⟩) n n)
  c3 : w'.cell? ⟨b, 3, none⟩ = some (.float .f64 4607182418800017408)
  s0 : ∀ i, i < n → w'.cell? ⟨s, i, none⟩ = some (.float .f64 0)
  p0 : ∀ i, i < n → w'.cell? ⟨p, i, none⟩ = some (.int .i64 0)
  fb : w'.frozen? ⟨b, 1, none⟩ = false
  fs : ∀ i, w'.frozen? ⟨s, i, none⟩ = false
  fp : ∀ i, w'.frozen? ⟨p, i, none⟩ = false
  bel : Below w.heap.size w w'
theorem cell_at {w : World} {b i : Nat} {X : Array Value} {t : TypeId} (h : w.heap[b]? = some (.cells X t)) : w.cell? ⟨b, i, none⟩ = X[i]? := by
  simp [World.cell?, h]
theorem frz_at {w : World} {b i : Nat} {X : Array Value} {t : TypeId} (h : w.heap[b]? = some (.cells X t)) : w.frozen? ⟨b, i, none⟩ = false := by
  simp [World.frozen?, h]
theorem four (w : World) (a b c d : Obj) : (((((w.alloc a).alloc b).alloc c).alloc d).drew).heap[w.heap.size + 0]? = some a ∧ (((((w.alloc a).alloc b).alloc c).alloc d).drew).heap[w.heap.size + 1]? = some b ∧ (((((w.alloc a).alloc b).alloc c).alloc d).drew).heap[w.heap.size + 2]? = some c ∧ (((((w.alloc a).alloc b).alloc c).alloc d).drew).heap[w.heap.size + 3]? = some d ∧ (((((w.alloc a).alloc b).alloc c).alloc d).drew).heap.size = w.heap.size + 4 ∧ Below w.heap.size w (((((w.alloc a).alloc b).alloc c).alloc d).drew) := by
  refine ⟨?_, ?_, ?_, ?_, ?_, ?_⟩
  · show ((((w.heap.push a).push b).push c).push d)[w.heap.size + 0]? = some a
    simp only [Array.getElem?_push, Array.size_push]
    repeat (first | rw [if_pos (by omega)] | rw [if_pos trivial] | rw [if_neg (by omega)])
  · show ((((w.heap.push a).push b).push c).push d)[w.heap.size + 1]? = some b
    simp only [Array.getElem?_push, Array.size_push]
    repeat (first | rw [if_pos (by omega)] | rw [if_pos trivial] | rw [if_neg (by omega)])
  · show ((((w.heap.push a).push b).push c).push d)[w.heap.size + 2]? = some c
    simp only [Array.getElem?_push, Array.size_push]
    repeat (first | rw [if_pos (by omega)] | rw [if_pos trivial] | rw [if_neg (by omega)])
  · show ((((w.heap.push a).push b).push c).push d)[w.heap.size + 3]? = some d
    simp only [Array.getElem?_push, Array.size_push]
    repeat (first | rw [if_pos (by omega)] | rw [if_pos trivial] | rw [if_neg (by omega)])
  · show ((((w.heap.push a).push b).push c).push d).size = _
    simp
  · exact (((((Below.refl _ w).alloc (Nat.le_refl _) a).alloc (by simp) b).alloc (by simp; omega) c).alloc (by simp; omega) d).drew
theorem newH_of {w W : World} {s p n : Nat} {Xs Xp : Array Value} (hs : W.heap[w.heap.size + s]? = some (.cells Xs 29)) (hp : W.heap[w.heap.size + p]? = some (.cells Xp 3)) (hb : W.heap[w.heap.size + 3]? = some (.cells #[.slice (some ⟨w.heap.size + s, 0, none⟩) n n, .slice none 0 0, .slice (some ⟨w.heap.size + p, 0, none⟩) n n, .float .f64 4607182418800017408] 44)) (hz : W.heap.size = w.heap.size + 4) (hbel : Below w.heap.size w W) (h1 : s < 3) (h2 : p < 3) (h3 : s ≠ p) (hXs : ∀ i, i < n → Xs[i]? = some (.float .f64 0)) (hXp : ∀ i, i < n → Xp[i]? = some (.int .i64 0)) : NewH w W (w.heap.size + 3) (w.heap.size + s) (w.heap.size + p) n :=
  ⟨by omega, by omega, by omega, by omega, by omega, by omega, by omega, by omega, by omega, by rw [cell_at hb]; rfl, by rw [cell_at hb]; rfl, by rw [cell_at hb]; rfl, by rw [cell_at hb]; rfl, fun i hi => by rw [cell_at hs]; exact hXs i hi, fun i hi => by rw [cell_at hp]; exact hXp i hi, frz_at hb, fun i => frz_at hs, fun i => frz_at hp, hbel⟩
theorem info_f : (Try.prog.info? 29).bind (fun i => i.zero.map fun z => (z, i.size, i.bytes)) = some (.float .f64 0, 1, 8) := by kernel_rfl
theorem info_b : (Try.prog.info? 4).bind (fun i => i.zero.map fun z => (z, i.size, i.bytes)) = some (.bool false, 1, 1) := by kernel_rfl
set_option maxHeartbeats 2000000 in
set_option maxRecDepth 100000 in
theorem New_is (V : Int) (h0 : 0 ≤ V) (h1 : V ≤ 1048576) (w : World) :
    Calls Try.prog 5 #[.int .i64 V] w fun e w' => ∃ b s p, e = .returned (.tuple #[.pointer (some ⟨b, 0, none⟩), .int .i64 0]) ∧ NewH w w' b s p V.toNat := by
  obtain ⟨n, rfl⟩ := Int.eq_ofNat_of_zero_le h0
  obtain ⟨Xs, hXs, hms⟩ : ∃ X : Array Value, (∀ i, i < n → X[i]? = some (.float .f64 0)) ∧ ∀ w : World, (Instr.makeSlice 40 (.int .i64 (n : Int)) (.int .i64 (n : Int))).run Try.prog w = .ok (.slice (some ⟨w.heap.size, 0, none⟩) n n) (w.alloc (.cells X 29)) := by
    obtain ⟨i0, hi0, hz0, hz1, hz2⟩ := info_parts info_f
    refine ⟨madeCells (.float .f64 0 : Value).cells (n * 1), fun i hi => ?_, fun w => ?_⟩
    · rw [Nat.mul_one]; simp [madeCells, Value.cells, hi, Nat.mod_one]
    · have hr := run_make (P := Try.prog) w 40 29 i0 _ Try.underlying40 hi0 hz0 .i64 .i64 n n (by omega) (Int.le_refl _) (by rw [hz2]; omega) (by omega)
      rw [hz1, Int.toNat_natCast] at hr
      exact hr
  obtain ⟨Xp, hXp, hmp⟩ : ∃ X : Array Value, (∀ i, i < n → X[i]? = some (.int .i64 0)) ∧ ∀ w : World, (Instr.makeSlice 38 (.int .i64 (n : Int)) (.int .i64 (n : Int))).run Try.prog w = .ok (.slice (some ⟨w.heap.size, 0, none⟩) n n) (w.alloc (.cells X 3)) := by
    obtain ⟨i0, hi0, hz0, hz1, hz2⟩ := info_parts info_i
    refine ⟨madeCells (.int .i64 0 : Value).cells (n * 1), fun i hi => ?_, fun w => ?_⟩
    · rw [Nat.mul_one]; simp [madeCells, Value.cells, hi, Nat.mod_one]
    · have hr := run_make (P := Try.prog) w 38 3 i0 _ Try.underlying38 hi0 hz0 .i64 .i64 n n (by omega) (Int.le_refl _) (by rw [hz2]; omega) (by omega)
      rw [hz1, Int.toNat_natCast] at hr
      exact hr
  go_enter Try.func5, Try.ntmps5
  go_wp2_with fail
  go_region
  · go_wp2
    refine bodyPost_ret (v := .tuple #[.pointer (some ⟨w.heap.size + 3, 0, none⟩), .int .i64 0]) (by rw [results_tt rfl]; go_simp) rfl ?_
    refine ⟨w.heap.size + 3, w.heap.size + 0, w.heap.size + 1, rfl, ?_⟩
    rw [Int.toNat_natCast]
    obtain ⟨k0, k1, k2, k3, k4, k5⟩ := four w (.cells Xs 29) (.cells Xp 3) _ _
    exact newH_of k0 k1 k3 k4 k5 (by omega) (by omega) (by omega) hXs hXp
  · go_wp2
    refine bodyPost_ret (v := .tuple #[.pointer (some ⟨w.heap.size + 3, 0, none⟩), .int .i64 0]) (by rw [results_tt rfl]; go_simp) rfl ?_
    refine ⟨w.heap.size + 3, w.heap.size + 0, w.heap.size + 2, rfl, ?_⟩
    rw [Int.toNat_natCast]
    obtain ⟨k0, k1, k2, k3, k4, k5⟩ := four w (.cells Xs 29) _ (.cells Xp 3) _
    exact newH_of k0 k2 k3 k4 k5 (by omega) (by omega) (by omega) hXs hXp
  · go_wp2
    refine bodyPost_ret (v := .tuple #[.pointer (some ⟨w.heap.size + 3, 0, none⟩), .int .i64 0]) (by rw [results_tt rfl]; go_simp) rfl ?_
    refine ⟨w.heap.size + 3, w.heap.size + 1, w.heap.size + 0, rfl, ?_⟩
    rw [Int.toNat_natCast]
    obtain ⟨k0, k1, k2, k3, k4, k5⟩ := four w (.cells Xp 3) (.cells Xs 29) _ _
    exact newH_of k1 k0 k3 k4 k5 (by omega) (by omega) (by omega) hXs hXp
  · go_wp2
    refine bodyPost_ret (v := .tuple #[.pointer (some ⟨w.heap.size + 3, 0, none⟩), .int .i64 0]) (by rw [results_tt rfl]; go_simp) rfl ?_
    refine ⟨w.heap.size + 3, w.heap.size + 2, w.heap.size + 0, rfl, ?_⟩
    rw [Int.toNat_natCast]
    obtain ⟨k0, k1, k2, k3, k4, k5⟩ := four w (.cells Xp 3) _ (.cells Xs 29) _
    exact newH_of k2 k0 k3 k4 k5 (by omega) (by omega) (by omega) hXs hXp
  · go_wp2
    refine bodyPost_ret (v := .tuple #[.pointer (some ⟨w.heap.size + 3, 0, none⟩), .int .i64 0]) (by rw [results_tt rfl]; go_simp) rfl ?_
    refine ⟨w.heap.size + 3, w.heap.size + 1, w.heap.size + 2, rfl, ?_⟩
    rw [Int.toNat_natCast]
    obtain ⟨k0, k1, k2, k3, k4, k5⟩ := four w _ (.cells Xs 29) (.cells Xp 3) _
    exact newH_of k1 k2 k3 k4 k5 (by omega) (by omega) (by omega) hXs hXp
  · go_wp2
    refine bodyPost_ret (v := .tuple #[.pointer (some ⟨w.heap.size + 3, 0, none⟩), .int .i64 0]) (by rw [results_tt rfl]; go_simp) rfl ?_
    refine ⟨w.heap.size + 3, w.heap.size + 2, w.heap.size + 1, rfl, ?_⟩
    rw [Int.toNat_natCast]
    obtain ⟨k0, k1, k2, k3, k4, k5⟩ := four w _ (.cells Xp 3) (.cells Xs 29) _
    exact newH_of k2 k1 k3 k4 k5 (by omega) (by omega) (by omega) hXs hXp
set_option maxHeartbeats 2000000 in
set_option maxRecDepth 100000 in
theorem New_neg (V : Int) (h0 : V < 0) (w : World) :
    Calls Try.prog 5 #[.int .i64 V] w fun e w' => e = .returned (.tuple #[.pointer none, .int .i64 1]) ∧ w' = w := by
  go_enter Try.func5, Try.ntmps5
  go_wp2
  refine bodyPost_ret (v := .tuple #[.pointer none, .int .i64 1]) (by rw [results_tt rfl]; rfl) rfl ?_
  exact ⟨rfl, rfl⟩
set_option maxHeartbeats 2000000 in
set_option maxRecDepth 100000 in
theorem New_full (V : Int) (h0 : ¬ V < 0) (h1 : V > 1048576) (w : World) :
    Calls Try.prog 5 #[.int .i64 V] w fun e w' => e = .returned (.tuple #[.pointer none, .int .i64 2]) ∧ w' = w := by
  go_enter Try.func5, Try.ntmps5
  go_wp2
  refine bodyPost_ret (v := .tuple #[.pointer none, .int .i64 2]) (by rw [results_tt rfl]; rfl) rfl ?_
  exact ⟨rfl, rfl⟩
end Go.Proofs.Ytccmppedofkckaa
