/-
  heap: put, rise, push, has, raise of a heap of two variables.
-/
import Derived.Test.YtccmppedofkckaaHP2
namespace Go.Proofs.Ytccmppedofkckaa
open Go.RowKit
set_option linter.unusedVariables false
set_option linter.unusedSimpArgs false
@[go_sem] theorem methAhead (x : Value) (w : World) : (method 192 40 x "fulcrum/heap.ahead").run Try.prog w = .ok (61, x) w := by kernel_rfl
set_option maxHeartbeats 2000000 in
set_option maxRecDepth 100000 in
theorem put0 (W0 w : World) (B b s p : Nat) (v : Value) (f1 : Nat) (q0 q1 : Int) (xs : List Int) (h : HS W0 w B b s p v f1 q0 q1 xs) (k : Nat) (hk : k < xs.length) (hk9 : k < 4611686018427387904) :
    Calls Try.prog 25 #[.pointer (some ⟨b, 0, none⟩), .int .i64 k, .int .i64 0] w fun e w' => e = .returned (.tuple #[]) ∧ HS W0 w' B b s p v f1 ((k : Int) + 1) q1 (xs.set k 0) := by
  obtain ⟨t, c, hv9, hB, hc, hf⟩ := h.tree (by omega)
  have lb := h.lb
  have lp := h.lp
  have h1 := h.c1
  rw [hv9] at h1
  have hz : xs[k]? = some xs[k] := List.getElem?_eq_getElem hk
  refine (put_is b t p 0 xs.length 2 c 2 k _ _ w h1 h.c2 hk (by omega) (hc k _ hz) h.p0 (hf k) h.f0 (by omega) h.bp (by omega) hk9).mono ?_
  rintro e w' ⟨rfl, rfl⟩
  exact ⟨rfl, (h.setT hv9 hk 0).setP0 _⟩
set_option maxHeartbeats 2000000 in
set_option maxRecDepth 100000 in
theorem put1 (W0 w : World) (B b s p : Nat) (v : Value) (f1 : Nat) (q0 q1 : Int) (xs : List Int) (h : HS W0 w B b s p v f1 q0 q1 xs) (k : Nat) (hk : k < xs.length) (hk9 : k < 4611686018427387904) :
    Calls Try.prog 25 #[.pointer (some ⟨b, 0, none⟩), .int .i64 k, .int .i64 1] w fun e w' => e = .returned (.tuple #[]) ∧ HS W0 w' B b s p v f1 q0 ((k : Int) + 1) (xs.set k 1) := by
  obtain ⟨t, c, hv9, hB, hc, hf⟩ := h.tree (by omega)
  have lb := h.lb
  have lp := h.lp
  have h1 := h.c1
  rw [hv9] at h1
  have hz : xs[k]? = some xs[k] := List.getElem?_eq_getElem hk
  refine (put_is b t p 1 xs.length 2 c 2 k _ _ w h1 h.c2 hk (by omega) (hc k _ hz) h.p1 (hf k) h.fp (by omega) h.bp (by omega) hk9).mono ?_
  rintro e w' ⟨rfl, rfl⟩
  exact ⟨rfl, (h.setT hv9 hk 1).setP1 _⟩
set_option maxHeartbeats 2000000 in
set_option maxRecDepth 100000 in
theorem rise0_0 (W0 w : World) (B b s p : Nat) (v : Value) (f1 : Nat) (q0 q1 : Int) (xs : List Int) (h : HS W0 w B b s p v f1 q0 q1 xs) (hk : 0 < xs.length) :
    Calls Try.prog 19 #[.pointer (some ⟨b, 0, none⟩), .int .i64 0, .int .i64 0] w fun e w' => e = .returned (.tuple #[]) ∧ HS W0 w' B b s p v f1 1 q1 (xs.set 0 0) := by
  have G := hide' (put0 W0 w B b s p v f1 q0 q1 xs h 0 hk (by omega))
  clear h hk
  go_enter Try.func19, Try.ntmps19
  go_wp2
  refine wp_loop_rounds 1 ?_
  rw [rounds_succ]
  go_wp2_with fail
  refine G.out.mono ?_
  rintro e w' ⟨rfl, h⟩
  have H := hide' h
  clear h
  go_wp2
  go_end0
  exact ⟨rfl, H.out⟩
set_option maxHeartbeats 2000000 in
set_option maxRecDepth 100000 in
theorem rise0_1 (W0 w : World) (B b s p : Nat) (v : Value) (f1 : Nat) (q0 q1 : Int) (xs : List Int) (h : HS W0 w B b s p v f1 q0 q1 xs) (hk : 0 < xs.length) :
    Calls Try.prog 19 #[.pointer (some ⟨b, 0, none⟩), .int .i64 0, .int .i64 1] w fun e w' => e = .returned (.tuple #[]) ∧ HS W0 w' B b s p v f1 q0 1 (xs.set 0 1) := by
  have G := hide' (put1 W0 w B b s p v f1 q0 q1 xs h 0 hk (by omega))
  clear h hk
  go_enter Try.func19, Try.ntmps19
  go_wp2
  refine wp_loop_rounds 1 ?_
  rw [rounds_succ]
  go_wp2_with fail
  refine G.out.mono ?_
  rintro e w' ⟨rfl, h⟩
  have H := hide' h
  clear h
  go_wp2
  go_end0
  exact ⟨rfl, H.out⟩
set_option maxHeartbeats 2000000 in
set_option maxRecDepth 100000 in
theorem riseA (W0 w : World) (B b s p : Nat) (v : Value) (q0 q1 : Int) (h : HS W0 w B b s p v 0 q0 q1 [0, 1]) :
    Calls Try.prog 19 #[.pointer (some ⟨b, 0, none⟩), .int .i64 1, .int .i64 1] w fun e w' => e = .returned (.tuple #[]) ∧ HS W0 w' B b s p v 0 q0 2 [0, 1] := by
  obtain ⟨t, c, hv9, hB, hc, hf⟩ := h.tree (by simp)
  subst hv9
  have t0 : w.cell? ⟨t, 0, none⟩ = some (.int .i64 0) := hc 0 0 rfl
  have t1 : w.cell? ⟨t, 1, none⟩ = some (.int .i64 1) := hc 1 1 rfl
  have c0 := h.c0
  have c1 := h.c1
  simp only [List.length_cons, List.length_nil] at c1
  have GA := hide' (fun k => ahead_eq s (w.drewN k) h.s0 h.s1)
  have H := hide' h
  clear h hc hf hB
  go_enter Try.func19, Try.ntmps19
  go_wp2
  refine wp_loop_rounds 1 ?_
  rw [rounds_succ]
  go_wp2_with fail
  go_quiet ((go_at_call 61; exact Calls.quiet_of (GA.out _)))
  have G := hide' (fun k => put1 W0 (w.drewN k) B b s p _ 0 q0 q1 [0, 1] (H.out.drewN k) 1 (by simp) (by omega))
  go_wp2_with fail
  refine (G.out _).mono ?_
  rintro e w' ⟨rfl, h⟩
  have H9 := hide' h
  clear h
  go_wp2
  go_end0
  exact ⟨rfl, H9.out⟩
set_option maxHeartbeats 2000000 in
set_option maxRecDepth 100000 in
theorem riseB (W0 w : World) (B b s p : Nat) (v : Value) (q0 q1 : Int) (h : HS W0 w B b s p v 4607182418800017408 q0 q1 [0, 1]) :
    Calls Try.prog 19 #[.pointer (some ⟨b, 0, none⟩), .int .i64 1, .int .i64 1] w fun e w' => e = .returned (.tuple #[]) ∧ HS W0 w' B b s p v 4607182418800017408 2 1 [1, 0] := by
  obtain ⟨t, c, hv9, hB, hc, hf⟩ := h.tree (by simp)
  subst hv9
  have t0 : w.cell? ⟨t, 0, none⟩ = some (.int .i64 0) := hc 0 0 rfl
  have t1 : w.cell? ⟨t, 1, none⟩ = some (.int .i64 1) := hc 1 1 rfl
  have c0 := h.c0
  have c1 := h.c1
  simp only [List.length_cons, List.length_nil] at c1
  have GA := hide' (fun k => ahead_lt s (w.drewN k) h.s0 h.s1)
  have H := hide' h
  clear h hc hf hB
  go_enter Try.func19, Try.ntmps19
  go_wp2
  refine wp_loop_rounds 2 ?_
  rw [rounds_succ]
  go_wp2_with fail
  go_quiet ((go_at_call 61; exact Calls.quiet_of (GA.out _)))
  have G := hide' (fun k => put0 W0 (w.drewN k) B b s p _ 4607182418800017408 q0 q1 [0, 1] (H.out.drewN k) 1 (by simp) (by omega))
  go_wp2_with fail
  refine (G.out _).mono ?_
  rintro e w' ⟨rfl, h⟩
  have G2 := hide' (put1 W0 w' B b s p _ 4607182418800017408 _ q1 [0, 0] h 0 (by simp) (by omega))
  clear h
  go_wp2
  rw [rounds_succ]
  go_wp2_with fail
  refine G2.out.mono ?_
  rintro e w' ⟨rfl, h⟩
  have H9 := hide' h
  clear h
  go_wp2
  go_end0
  exact ⟨rfl, H9.out⟩
end Go.Proofs.Ytccmppedofkckaa
