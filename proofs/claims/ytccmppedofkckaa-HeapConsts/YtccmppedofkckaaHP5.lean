/-
  heap: Size, Len, knows, has, Push, raise, Bump of a heap of two variables.
-/
import Derived.Test.YtccmppedofkckaaHP4
namespace Go.Proofs.Ytccmppedofkckaa
open Go.RowKit
set_option linter.unusedVariables false
set_option linter.unusedSimpArgs false
theorem store_float (a : Addr) (k : FloatKind) (b : Nat) (m : Mode) (w : World) : (store a (.float k b) m).run Try.prog w = stored Try.prog w a (.float k b) m := run_store Try.prog w a _ m rfl
set_option maxHeartbeats 2000000 in
set_option maxRecDepth 100000 in
theorem Size_is (b : Nat) (a : Option Addr) (n c : Nat) (w : World) (h : w.cell? ⟨b, 0, none⟩ = some (.slice a n c)) :
    Calls Try.prog 7 #[.pointer (some ⟨b, 0, none⟩)] w fun e w' => e = .returned (.int .i64 n) ∧ w' = w := by
  go_enter Try.func7, Try.ntmps7
  go_wp2
  go_ret
  exact ⟨rfl, rfl⟩
set_option maxHeartbeats 2000000 in
set_option maxRecDepth 100000 in
theorem Len_is (b : Nat) (a : Option Addr) (n c : Nat) (w : World) (h : w.cell? ⟨b, 1, none⟩ = some (.slice a n c)) :
    Calls Try.prog 8 #[.pointer (some ⟨b, 0, none⟩)] w fun e w' => e = .returned (.int .i64 n) ∧ w' = w := by
  go_enter Try.func8, Try.ntmps8
  go_wp2
  go_ret
  exact ⟨rfl, rfl⟩
set_option maxHeartbeats 2000000 in
set_option maxRecDepth 100000 in
theorem knows0 (b : Nat) (a : Option Addr) (w : World) (h : w.cell? ⟨b, 0, none⟩ = some (.slice a 2 2)) :
    Calls Try.prog 13 #[.pointer (some ⟨b, 0, none⟩), .int .i64 0] w fun e w' => e = .returned (.bool true) ∧ w' = w := by
  have G := hide' (Size_is b a 2 2 w h)
  go_enter Try.func13, Try.ntmps13
  go_wp2_with fail
  refine G.out.mono ?_
  rintro e w' ⟨rfl, rfl⟩
  go_wp2
  go_ret
  exact ⟨rfl, rfl⟩
set_option maxHeartbeats 2000000 in
set_option maxRecDepth 100000 in
theorem has0_0 (b p : Nat) (w : World) (h : w.cell? ⟨b, 2, none⟩ = some (.slice (some ⟨p, 0, none⟩) 2 2)) (h1 : w.cell? ⟨p, 0, none⟩ = some (.int .i64 0)) :
    Calls Try.prog 14 #[.pointer (some ⟨b, 0, none⟩), .int .i64 0] w fun e w' => e = .returned (.bool false) ∧ w' = w := by
  go_enter Try.func14, Try.ntmps14
  go_wp2
  go_ret
  exact ⟨rfl, rfl⟩
set_option maxHeartbeats 2000000 in
set_option maxRecDepth 100000 in
theorem has0_2 (b p : Nat) (w : World) (h : w.cell? ⟨b, 2, none⟩ = some (.slice (some ⟨p, 0, none⟩) 2 2)) (h1 : w.cell? ⟨p, 0, none⟩ = some (.int .i64 2)) :
    Calls Try.prog 14 #[.pointer (some ⟨b, 0, none⟩), .int .i64 0] w fun e w' => e = .returned (.bool true) ∧ w' = w := by
  go_enter Try.func14, Try.ntmps14
  go_wp2
  go_ret
  exact ⟨rfl, rfl⟩
set_option maxHeartbeats 2000000 in
set_option maxRecDepth 100000 in
theorem knows1 (b : Nat) (a : Option Addr) (w : World) (h : w.cell? ⟨b, 0, none⟩ = some (.slice a 2 2)) :
    Calls Try.prog 13 #[.pointer (some ⟨b, 0, none⟩), .int .i64 1] w fun e w' => e = .returned (.bool true) ∧ w' = w := by
  have G := hide' (Size_is b a 2 2 w h)
  go_enter Try.func13, Try.ntmps13
  go_wp2_with fail
  refine G.out.mono ?_
  rintro e w' ⟨rfl, rfl⟩
  go_wp2
  go_ret
  exact ⟨rfl, rfl⟩
set_option maxHeartbeats 2000000 in
set_option maxRecDepth 100000 in
theorem has1_0 (b p : Nat) (w : World) (h : w.cell? ⟨b, 2, none⟩ = some (.slice (some ⟨p, 0, none⟩) 2 2)) (h1 : w.cell? ⟨p, 1, none⟩ = some (.int .i64 0)) :
    Calls Try.prog 14 #[.pointer (some ⟨b, 0, none⟩), .int .i64 1] w fun e w' => e = .returned (.bool false) ∧ w' = w := by
  go_enter Try.func14, Try.ntmps14
  go_wp2
  go_ret
  exact ⟨rfl, rfl⟩
set_option maxHeartbeats 2000000 in
set_option maxRecDepth 100000 in
theorem has1_2 (b p : Nat) (w : World) (h : w.cell? ⟨b, 2, none⟩ = some (.slice (some ⟨p, 0, none⟩) 2 2)) (h1 : w.cell? ⟨p, 1, none⟩ = some (.int .i64 2)) :
    Calls Try.prog 14 #[.pointer (some ⟨b, 0, none⟩), .int .i64 1] w fun e w' => e = .returned (.bool true) ∧ w' = w := by
  go_enter Try.func14, Try.ntmps14
  go_wp2
  go_ret
  exact ⟨rfl, rfl⟩
set_option maxHeartbeats 2000000 in
set_option maxRecDepth 100000 in
theorem Push0 (W0 w : World) (B b s p : Nat) (v : Value) (h : HS W0 w B b s p v 0 0 0 ([] : List Int)) :
    Calls Try.prog 9 #[.pointer (some ⟨b, 0, none⟩), .int .i64 0] w fun e w' => e = .returned (.int .i64 0) ∧ ∃ v', HS W0 w' B b s p v' 0 1 0 [0] := by
  have G1 := hide' (knows0 b _ w h.c0)
  have G2 := hide' (has0_0 b p w h.c2 h.p0)
  have G3 := hide' (push0 W0 w B b s p v h)
  clear h
  go_enter Try.func9, Try.ntmps9
  go_wp2_with fail
  refine G1.out.mono ?_
  rintro e w' ⟨rfl, rfl⟩
  go_wp2_with fail
  refine G2.out.mono ?_
  rintro e w' ⟨rfl, rfl⟩
  go_wp2_with fail
  refine G3.out.mono ?_
  rintro e w' ⟨rfl, h⟩
  have H9 := hide' h
  clear h
  go_wp2
  go_ret
  exact ⟨rfl, H9.out⟩
set_option maxHeartbeats 2000000 in
set_option maxRecDepth 100000 in
theorem Push1 (W0 w : World) (B b s p : Nat) (v : Value) (h : HS W0 w B b s p v 0 1 0 [0]) :
    Calls Try.prog 9 #[.pointer (some ⟨b, 0, none⟩), .int .i64 1] w fun e w' => e = .returned (.int .i64 0) ∧ ∃ v', HS W0 w' B b s p v' 0 1 2 [0, 1] := by
  have G1 := hide' (knows1 b _ w h.c0)
  have G2 := hide' (has1_0 b p w h.c2 h.p1)
  have G3 := hide' (push1 W0 w B b s p v h)
  clear h
  go_enter Try.func9, Try.ntmps9
  go_wp2_with fail
  refine G1.out.mono ?_
  rintro e w' ⟨rfl, rfl⟩
  go_wp2_with fail
  refine G2.out.mono ?_
  rintro e w' ⟨rfl, rfl⟩
  go_wp2_with fail
  refine G3.out.mono ?_
  rintro e w' ⟨rfl, h⟩
  have H9 := hide' h
  clear h
  go_wp2
  go_ret
  exact ⟨rfl, H9.out⟩
set_option maxHeartbeats 2000000 in
set_option maxRecDepth 100000 in
theorem raise1 (W0 w : World) (B b s p : Nat) (v : Value) (h : HS W0 w B b s p v 4607182418800017408 1 2 [0, 1]) :
    Calls Try.prog 17 #[.pointer (some ⟨b, 0, none⟩), .int .i64 1] w fun e w' => e = .returned (.tuple #[]) ∧ HS W0 w' B b s p v 4607182418800017408 2 1 [1, 0] := by
  have G2 := hide' (has1_2 b p w h.c2 h.p1)
  have G3 := hide' (riseB W0 w B b s p v 1 2 h)
  have c2 := h.c2
  have p1 := h.p1
  clear h
  go_enter Try.func17, Try.ntmps17
  go_wp2_with fail
  refine G2.out.mono ?_
  rintro e w' ⟨rfl, rfl⟩
  go_wp2_with fail
  refine G3.out.mono ?_
  rintro e w' ⟨rfl, h⟩
  have H9 := hide' h
  clear h
  go_wp2
  go_end0
  exact ⟨rfl, H9.out⟩
set_option maxHeartbeats 2000000 in
set_option maxRecDepth 100000 in
theorem Bump1 (W0 w : World) (B b s p : Nat) (v : Value) (h : HS W0 w B b s p v 0 1 2 [0, 1]) :
    Calls Try.prog 10 #[.pointer (some ⟨b, 0, none⟩), .int .i64 1] w fun e w' => e = .returned (.int .i64 0) ∧ HS W0 w' B b s p v 4607182418800017408 2 1 [1, 0] := by
  have a1 : ∀ w, (binOp .add 29 (.float .f64 0) (.float .f64 4607182418800017408)).run Try.prog w = .ok (.float .f64 4607182418800017408) w := fun w => by kernel_rfl
  have a2 : ∀ w, (binOp .gtr 29 (.float .f64 4607182418800017408) (.float .f64 6103021453049119613)).run Try.prog w = .ok (.bool false) w := fun w => by kernel_rfl
  have G1 := hide' (knows1 b _ w h.c0)
  have G3 := hide' (fun k => raise1 W0 _ B b s p v ((h.drewN k).setS 4607182418800017408))
  have G4 := hide' (fun k => ((h.drewN k).setS 4607182418800017408))
  have hsf := store_float
  have c0 := h.c0
  have c3 := h.c3
  have s1 := h.s1
  have fs := h.fs
  have bs := h.bs
  clear h
  go_enter Try.func10, Try.ntmps10
  go_wp2_with fail
  refine G1.out.mono ?_
  rintro e w' ⟨rfl, rfl⟩
  go_wp2_with fail
  go_region
  all_goals (have h9 : HS W0 ((w'.setCell ⟨s, 1, none⟩ (.float .f64 4607182418800017408)).drew) B b s p v 4607182418800017408 1 2 [0, 1] := G4.out 1)
  all_goals (have e9 : w'.drew.setCell ⟨s, 1, none⟩ (.float .f64 4607182418800017408) = (w'.setCell ⟨s, 1, none⟩ (.float .f64 4607182418800017408)).drew := rfl)
  all_goals try rw [e9]
  all_goals generalize (w'.setCell ⟨s, 1, none⟩ (.float .f64 4607182418800017408)).drew = w9 at h9 ⊢
  all_goals (have G5 := hide' (raise1 W0 _ B b s p v h9); have c9 := h9.c0; have s9 := h9.s1; clear h9 c0 c3 s1 fs e9 G3 G4)
  all_goals go_wp2_with fail
  all_goals refine G5.out.mono ?_
  all_goals rintro e w' ⟨rfl, h⟩
  all_goals have H9 := hide' h
  all_goals clear h
  all_goals go_wp2
  all_goals go_ret
  all_goals exact ⟨rfl, H9.out⟩
end Go.Proofs.Ytccmppedofkckaa
