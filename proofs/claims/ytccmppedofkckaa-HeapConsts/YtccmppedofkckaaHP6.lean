/-
  heap: compare, the library's sort of two, Clone, Order of a heap of two variables.
-/
import Derived.Test.YtccmppedofkckaaHP5
import Derived.Shelf.Small.Bits
namespace Go.Proofs.Ytccmppedofkckaa
open Go.RowKit
set_option linter.unusedVariables false
set_option linter.unusedSimpArgs false
theorem HS.later {W0 w : World} {B b s p : Nat} {v : Value} {f1 : Nat} {q0 q1 : Int} {xs : List Int} (h : HS W0 w B b s p v f1 q0 q1 xs) {w9 : World} (hb : Below w.heap.size w w9) : HS W0 w9 B b s p v f1 q0 q1 xs := by
  have lB := h.lB
  have lb := h.lb
  have ls := h.ls
  have lp := h.lp
  have hs := hb.size
  exact ⟨h.gb, h.gs, h.gp, h.gB, h.bel.trans (hb.mono (by have := h.gB; omega)), h.lb, h.ls, h.lp, h.bs, h.bp, h.sp, by omega, below_at hb (by simp; omega) h.c0, below_at hb (by simp; omega) h.c1, below_at hb (by simp; omega) h.c2, below_at hb (by simp; omega) h.c3, below_at hb (by simp; omega) h.s0, below_at hb (by simp; omega) h.s1, below_at hb (by simp; omega) h.p0, below_at hb (by simp; omega) h.p1, below_frz hb (by simp; omega) h.fb, below_frz hb (by simp; omega) h.fs, below_frz hb (by simp; omega) h.f0, below_frz hb (by simp; omega) h.fp, own_below h.own hb⟩
set_option maxHeartbeats 2000000 in
set_option maxRecDepth 100000 in
theorem compare01 (b s : Nat) (w : World) (c0 : w.cell? ⟨b, 0, none⟩ = some (.slice (some ⟨s, 0, none⟩) 2 2)) (s0 : w.cell? ⟨s, 0, none⟩ = some (.float .f64 0)) (s1 : w.cell? ⟨s, 1, none⟩ = some (.float .f64 4607182418800017408)) :
    Calls Try.prog 24 #[.pointer (some ⟨b, 0, none⟩), .int .i64 0, .int .i64 1] w fun e w' => e = .returned (.int .i64 1) ∧ ∃ k, w' = w.drewN k := by
  have GA := hide' (ahead_lt s w s0 s1)
  go_enter Try.func24, Try.ntmps24
  go_wp2_with fail
  refine GA.out.mono ?_
  rintro e w' ⟨rfl, k, rfl⟩
  go_wp2
  go_ret
  exact ⟨rfl, _, rfl⟩
set_option maxHeartbeats 2000000 in
set_option maxRecDepth 100000 in
theorem ins2 (b s : Nat) (w : World) (c0 : w.cell? ⟨b, 0, none⟩ = some (.slice (some ⟨s, 0, none⟩) 2 2)) (s0 : w.cell? ⟨s, 0, none⟩ = some (.float .f64 0)) (s1 : w.cell? ⟨s, 1, none⟩ = some (.float .f64 4607182418800017408)) (g c : Nat) (g0 : w.cell? ⟨g, 0, none⟩ = some (.int .i64 1)) (g1 : w.cell? ⟨g, 1, none⟩ = some (.int .i64 0)) :
    Calls Try.prog 29 #[.slice (some ⟨g, 0, none⟩) 2 c, .int .i64 0, .int .i64 2, .func (.func 24) #[.pointer (some ⟨b, 0, none⟩)] #[]] w fun e w' => e = .returned (.tuple #[]) ∧ ∃ k, w' = w.drewN k := by
  have GA := hide' (fun k => compare01 b s (w.drewN k) c0 s0 s1)
  clear c0 s0 s1
  go_enter Try.func29, Try.ntmps29
  go_wp2
  refine wp_loop_rounds 2 ?_
  rw [rounds_succ]
  go_wp2
  refine wp_loop_rounds 1 ?_
  rw [rounds_succ]
  go_wp2_with fail
  go_quiet ((go_at_call 24; exact Calls.quiet_of (GA.out _)))
  go_wp2
  rw [rounds_succ]
  go_wp2
  go_end0
  exact ⟨rfl, _, rfl⟩
set_option maxHeartbeats 2000000 in
set_option maxRecDepth 100000 in
theorem pdq2 (b s : Nat) (w : World) (c0 : w.cell? ⟨b, 0, none⟩ = some (.slice (some ⟨s, 0, none⟩) 2 2)) (s0 : w.cell? ⟨s, 0, none⟩ = some (.float .f64 0)) (s1 : w.cell? ⟨s, 1, none⟩ = some (.float .f64 4607182418800017408)) (g c : Nat) (g0 : w.cell? ⟨g, 0, none⟩ = some (.int .i64 1)) (g1 : w.cell? ⟨g, 1, none⟩ = some (.int .i64 0)) (l : Int) :
    Calls Try.prog 27 #[.slice (some ⟨g, 0, none⟩) 2 c, .int .i64 0, .int .i64 2, .int .i64 l, .func (.func 24) #[.pointer (some ⟨b, 0, none⟩)] #[]] w fun e w' => e = .returned (.tuple #[]) ∧ ∃ k, w' = w.drewN k := by
  have H := hide' (ins2 b s w c0 s0 s1 g c g0 g1)
  clear c0 s0 s1 g0 g1
  go_enter Try.func27, Try.ntmps27
  go_wp2
  refine wp_loop_rounds 1 ?_
  rw [rounds_succ]
  go_wp2_with fail
  refine H.out.mono ?_
  rintro e w' ⟨rfl, k, rfl⟩
  go_wp2
  (try simp only [Exit.inBlock, Exit.then])
  refine bodyPost_ret (results_none rfl _ _ _) rfl ?_
  exact ⟨rfl, _, rfl⟩
set_option maxHeartbeats 2000000 in
set_option maxRecDepth 100000 in
theorem len64 (w : World) :
    Calls Try.prog 38 #[.int .u64 2] w fun e w' => ∃ r : Int, e = .returned (.int .i64 r) ∧ w' = w := by
  go_enter Try.func38, Try.ntmps38
  go_wp2
  go_ret
  exact ⟨_, rfl, rfl⟩
set_option maxHeartbeats 2000000 in
set_option maxRecDepth 100000 in
theorem len2 (w : World) :
    Calls Try.prog 28 #[.int .u64 2] w fun e w' => ∃ r : Int, e = .returned (.int .i64 r) ∧ w' = w := by
  have G := hide' (len64 w)
  go_enter Try.func28, Try.ntmps28
  go_wp2_with fail
  refine G.out.mono ?_
  rintro e w' ⟨r, rfl, rfl⟩
  go_wp2
  go_ret
  exact ⟨r, rfl, rfl⟩
set_option maxHeartbeats 2000000 in
set_option maxRecDepth 100000 in
theorem sort2 (b s : Nat) (w : World) (c0 : w.cell? ⟨b, 0, none⟩ = some (.slice (some ⟨s, 0, none⟩) 2 2)) (s0 : w.cell? ⟨s, 0, none⟩ = some (.float .f64 0)) (s1 : w.cell? ⟨s, 1, none⟩ = some (.float .f64 4607182418800017408)) (g c : Nat) (g0 : w.cell? ⟨g, 0, none⟩ = some (.int .i64 1)) (g1 : w.cell? ⟨g, 1, none⟩ = some (.int .i64 0)) :
    Calls Try.prog 23 #[.slice (some ⟨g, 0, none⟩) 2 c, .func (.func 24) #[.pointer (some ⟨b, 0, none⟩)] #[]] w fun e w' => e = .returned (.tuple #[]) ∧ ∃ k, w' = w.drewN k := by
  have H := hide' (fun l => pdq2 b s w c0 s0 s1 g c g0 g1 l)
  have L := hide' (len2 w)
  clear c0 s0 s1 g0 g1
  go_enter Try.func23, Try.ntmps23
  go_wp2_with fail
  refine L.out.mono ?_
  rintro e w' ⟨r, rfl, rfl⟩
  go_wp2_with fail
  refine (H.out _).mono ?_
  rintro e w' ⟨rfl, k, rfl⟩
  go_wp2
  go_end0
  exact ⟨rfl, _, rfl⟩
set_option maxHeartbeats 2000000 in
set_option maxRecDepth 100000 in
theorem clone2 (t c : Nat) (w : World) (t0 : w.cell? ⟨t, 0, none⟩ = some (.int .i64 1)) (t1 : w.cell? ⟨t, 1, none⟩ = some (.int .i64 0)) :
    Calls Try.prog 22 #[.slice (some ⟨t, 0, none⟩) 2 c] w fun e w' => ∃ g d, e = .returned (.slice (some ⟨g, 0, none⟩) 2 d) ∧ w'.cell? ⟨g, 0, none⟩ = some (.int .i64 1) ∧ w'.cell? ⟨g, 1, none⟩ = some (.int .i64 0) ∧ Below w.heap.size w w' := by
  have hqn : ∀ (w : World) (a : Option Addr) (n c n' c' : Nat), (binOp .eql 38 (.slice a n c) (.slice none n' c')).run Try.prog w = .ok (.bool a.isNone) w := fun w a n c n' c' => Lib.run_eql_slice_nil w _ _ a n c n' c' Try.underlying38
  obtain ⟨i0, hi0, hz0, hz1, hz2⟩ := info_parts info_i
  have hc : ∀ j u, (hv [1, 0])[j]? = some u → w.cell? ((⟨t, 0, none⟩ : Addr).add j) = some u := fun j u hj => by
    match j, hj with
    | 0, hj => rw [Addr.add_lit]; rw [← hj]; exact t0
    | 1, hj => rw [Addr.add_lit]; rw [← hj]; exact t1
  have A := hide' hc
  clear hc t0 t1
  go_enter Try.func22, Try.ntmps22
  go_wp2_with (at_builtin; refine wpList_append_own _ rfl _ _ 38 rfl w.heap.size 3 i0 (.int .i64 0) 1 8 Try.underlying38 hi0 hz0 hz1 hz2 rfl (by omega) _ _ _ rfl (World.ownsRow_made w #[] 0 (Nat.le_refl _) (Nat.zero_le _) (by simp)) ⟨t, 0, none⟩ 2 c (hv [1, 0]) rfl ?qc1 ?qc2 ?qc3 ?qc4 ?qc5 ?qc6 ?_)
  case qc1 => rfl
  case qc2 => intro j u hj; exact Lib.cell?_alloc_some _ (A.out j u hj)
  case qc3 => simp [hv, Value.oneCell']
  case qc4 => simp only [maxLen]; omega
  case qc5 => omega
  case qc6 => simp
  intro v' w1 hown hgrow hnil
  have hb : Below w.heap.size w w1 := ((Below.refl _ w).alloc (Nat.le_refl _) _).grown hgrow (by simp) (by intro k hk; simp [Value.ownBlock] at hk; omega)
  have hown : w1.ownsRow w.heap.size 3 1 v' 2 (hv [1, 0]) := by simpa using hown
  have ho := hown
  rcases hown.2 with ⟨_, h0⟩ | ⟨g, d, cur, rfl, _⟩
  · omega
  have I1 := hide' (show w1.cell? ⟨g, 0, none⟩ = some (.int .i64 1) ∧ w1.cell? ⟨g, 1, none⟩ = some (.int .i64 0) ∧ Below w.heap.size w w1 from ⟨ho.cellAt 0 (by omega), ho.cellAt 1 (by omega), hb⟩)
  clear hown hgrow hnil hb ho
  go_wp2
  go_ret
  exact ⟨g, d, rfl, I1.out⟩
set_option maxHeartbeats 2000000 in
set_option maxRecDepth 100000 in
theorem all2 (W0 w : World) (B b s p : Nat) (v : Value) (h : HS W0 w B b s p v 4607182418800017408 2 1 [1, 0]) :
    Calls Try.prog 18 #[.pointer (some ⟨b, 0, none⟩)] w fun e w' => ∃ g d, e = .returned (.slice (some ⟨g, 0, none⟩) 2 d) ∧ w'.cell? ⟨g, 0, none⟩ = some (.int .i64 1) ∧ w'.cell? ⟨g, 1, none⟩ = some (.int .i64 0) ∧ Below w.heap.size w w' := by
  obtain ⟨t, c, hv9, hB, hc, hf⟩ := h.tree (by simp)
  subst hv9
  have c1 := h.c1
  simp only [List.length_cons, List.length_nil] at c1
  have G1 := hide' (clone2 t c w (hc 0 1 rfl) (hc 1 0 rfl))
  have G2 := hide' (fun w9 (hb : Below w.heap.size w w9) => let h9 := h.later hb; fun g d => sort2 b s w9 h9.c0 h9.s0 h9.s1 g d)
  clear h hc hf hB
  go_enter Try.func18, Try.ntmps18
  go_wp2_with fail
  refine G1.out.mono ?_
  rintro e w9 ⟨g, d, rfl, g0, g1, hb⟩
  have G3 := hide' (G2.out w9 hb g d g0 g1)
  have I1 := hide' (And.intro g0 (And.intro g1 hb))
  clear g0 g1 hb G2
  go_wp2_with fail
  refine G3.out.mono ?_
  rintro e w' ⟨rfl, k, rfl⟩
  go_wp2
  go_ret
  exact ⟨g, d, rfl, I1.out.1, I1.out.2.1, I1.out.2.2.os, I1.out.2.2.tape, I1.out.2.2.output, I1.out.2.2.size, I1.out.2.2.block⟩
set_option maxHeartbeats 2000000 in
set_option maxRecDepth 100000 in
theorem Order2 (W0 w : World) (B b s p : Nat) (v : Value) (h : HS W0 w B b s p v 4607182418800017408 2 1 [1, 0]) :
    Calls Try.prog 12 #[.pointer (some ⟨b, 0, none⟩)] w fun e w' => ∃ g d, e = .returned (.slice (some ⟨g, 0, none⟩) 2 d) ∧ w'.cell? ⟨g, 0, none⟩ = some (.int .i64 1) ∧ w'.cell? ⟨g, 1, none⟩ = some (.int .i64 0) ∧ Below w.heap.size w w' := by
  have G1 := hide' (all2 W0 w B b s p v h)
  clear h
  go_enter Try.func12, Try.ntmps12
  go_wp2_with fail
  refine G1.out.mono ?_
  rintro e w9 ⟨g, d, rfl, hh⟩
  have I1 := hide' hh
  clear hh
  go_wp2
  go_ret
  exact ⟨g, d, rfl, I1.out⟩
end Go.Proofs.Ytccmppedofkckaa
