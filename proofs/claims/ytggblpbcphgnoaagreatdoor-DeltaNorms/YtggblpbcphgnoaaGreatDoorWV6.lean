/-
  lives: layer 1's Text of one digit, whole.
-/
import Derived.Test.YtggblpbcphgnoaaGreatDoorWV4
import Derived.Laws.IdiomStrings
namespace Go.Proofs.YtggblpbcphgnoaaGreatDoor
open Go.RowKit
set_option linter.unusedVariables false

set_option maxHeartbeats 2000000 in
theorem scaleOf2_10 (w : World) : Calls Tryz.prog 123 #[.int .i64 10] w fun e w' => ∃ a, e = .returned (.agg #[.int .i64 10, .int .i64 9, .slice none 0 0, .slice a (ln 1000000000) (ln 1000000000)]) ∧ New w w' a 1000000000 (ln 1000000000) := by
  obtain ⟨N, hN⟩ : ∃ N : Nat, 1000000000 = N := ⟨_, rfl⟩
  have HO' : ∀ w', Calls Tryz.prog 61 #[.int .u64 1000000000] w' fun e w'' => ∃ ao, e = .returned (.slice ao (ln N) (ln N)) ∧ New w' w'' ao N (ln N) := fun w' => by subst hN; exact Of_any 1000000000 w' (by omega)
  have HO := hide' HO'
  rw [hN]
  clear HO' hN
  go_enter Tryz.func123, Tryz.ntmps123
  go_wp2_with fail
  obtain ⟨W, hW⟩ : ∃ W, (w.alloc (.cells #[.int .i64 0, .int .i64 0, .slice none 0 0, .slice none 0 0] 125)) = W := ⟨_, rfl⟩
  have r00 : W.cell? ⟨w.heap.size, 0, none⟩ = some (.int .i64 0) := by subst hW; go_simp
  have r01 : W.cell? ⟨w.heap.size, 1, none⟩ = some (.int .i64 0) := by subst hW; go_simp
  have r02 : W.cell? ⟨w.heap.size, 2, none⟩ = some (.slice none 0 0) := by subst hW; go_simp
  have r03 : W.cell? ⟨w.heap.size, 3, none⟩ = some (.slice none 0 0) := by subst hW; go_simp
  have hB : Below w.heap.size w W := by subst hW; exact ((Below.refl _ _).alloc (by (try simp only [World.size_alloc]); omega) _)
  have hR0 : Row W (w.heap.size) := by
    have := row_new (w) #[.int .i64 0, .int .i64 0, .slice none 0 0, .slice none 0 0] 125
    try simp only [World.size_alloc] at this
    subst hW; exact this
  have hz : W.heap.size = w.heap.size + 1 := by subst hW; simp only [World.size_alloc]
  rw [hW]
  clear hW
  have hBW : Below W.heap.size W W := Below.refl _ _
  refine wp_loop_rounds 10 ?_
  repeat (rw [rounds_succ]; go_wp2_with fail)
  refine (HO.out _).mono ?_
  rintro e w1 ⟨a1, rfl, h1⟩
  have b1 := h1.below
  replace h1 := h1.back hBW
  replace hBW := hBW.trans (b1.mono hBW.size)
  replace r00 := below_cell b1 r00
  replace r01 := below_cell b1 r01
  replace r02 := below_cell b1 r02
  replace r03 := below_cell b1 r03
  replace hR0 := below_row b1 hR0
  have fz0 := fun o => hR0.frozen o
  go_wp2
  all_goals refine bodyPost_ret (v := .agg #[.int .i64 10, .int .i64 9, .slice none 0 0, .slice a1 (ln N) (ln N)]) (by rw [results_cell rfl]; go_simp) rfl ?_
  all_goals exact ⟨a1, rfl, h1.mid hB ((((((Mid.refl _ _ _).set _ _ (by omega) (by omega) _).set _ _ (by omega) (by omega) _).set _ _ (by omega) (by omega) _).set _ _ (by omega) (by omega) _))⟩
set_option maxHeartbeats 4000000 in
set_option maxRecDepth 100000 in
theorem writeLimb_2 (p b : Nat) (w : World) (h : Digits w) (hp : w.cell? ⟨p, 0, none⟩ = some (.int .i64 10)) (hR : Row w b) (h1 : b ≠ 3) (h2 : b ≠ p) (hc : w.cell? ⟨b, 0, none⟩ = some (.int .u8 0) ∧ w.cell? ⟨b, 1, none⟩ = some (.int .u8 0) ∧ w.cell? ⟨b, 2, none⟩ = some (.int .u8 0) ∧ w.cell? ⟨b, 3, none⟩ = some (.int .u8 0) ∧ w.cell? ⟨b, 4, none⟩ = some (.int .u8 0) ∧ w.cell? ⟨b, 5, none⟩ = some (.int .u8 0) ∧ w.cell? ⟨b, 6, none⟩ = some (.int .u8 0) ∧ w.cell? ⟨b, 7, none⟩ = some (.int .u8 0) ∧ w.cell? ⟨b, 8, none⟩ = some (.int .u8 0)) :
    Calls Tryz.prog 149 #[.pointer (some ⟨p, 0, none⟩), .slice (some ⟨b, 0, none⟩) 9 9, .int .u64 2] w fun e w' => e = .returned (.tuple #[]) ∧ Wr b 0 9 w w' ∧ (w'.cell? ⟨b, 0, none⟩ = some (.int .u8 48) ∧ w'.cell? ⟨b, 1, none⟩ = some (.int .u8 48) ∧ w'.cell? ⟨b, 2, none⟩ = some (.int .u8 48) ∧ w'.cell? ⟨b, 3, none⟩ = some (.int .u8 48) ∧ w'.cell? ⟨b, 4, none⟩ = some (.int .u8 48) ∧ w'.cell? ⟨b, 5, none⟩ = some (.int .u8 48) ∧ w'.cell? ⟨b, 6, none⟩ = some (.int .u8 48) ∧ w'.cell? ⟨b, 7, none⟩ = some (.int .u8 48) ∧ w'.cell? ⟨b, 8, none⟩ = some (.int .u8 50)) := by
  obtain ⟨g0, g1, g2, g3, g4⟩ := h
  obtain ⟨c0, c1, c2, c3, c4, c5, c6, c7, c8⟩ := hc
  have fz := fun o => hR.frozen o
  have h1s := h1.symm
  have h2s := h2.symm
  go_enter Tryz.func149, Tryz.ntmps149
  go_wp2_with fail
  refine wp_loop_rounds 10 ?_
  repeat (rw [rounds_succ]; go_wp2_with fail)
  all_goals go_end0
  refine ⟨rfl, ?_, ?_⟩
  · have k0 := Wr.refl b 0 9 w
    have k1 := k0.setCell 8 (by omega) (by omega) (.int .u8 50)
    have k2 := k1.setCell 7 (by omega) (by omega) (.int .u8 48)
    have k3 := k2.setCell 6 (by omega) (by omega) (.int .u8 48)
    have k4 := k3.setCell 5 (by omega) (by omega) (.int .u8 48)
    have k5 := k4.setCell 4 (by omega) (by omega) (.int .u8 48)
    have k6 := k5.setCell 3 (by omega) (by omega) (.int .u8 48)
    have k7 := k6.setCell 2 (by omega) (by omega) (.int .u8 48)
    have k8 := k7.setCell 1 (by omega) (by omega) (.int .u8 48)
    have k9 := k8.setCell 0 (by omega) (by omega) (.int .u8 48)
    exact k9
  · refine ⟨?_, ?_, ?_, ?_, ?_, ?_, ?_, ?_, ?_⟩ <;> go_simp
set_option maxHeartbeats 1000000 in
theorem write_2 (p b : Nat) (a : Option Addr) (w : World) (h : Digits w) (hp : w.cell? ⟨p, 0, none⟩ = some (.int .i64 10)) (hR : Row w b) (h1 : b ≠ 3) (h2 : b ≠ p) (hc : w.cell? ⟨b, 0, none⟩ = some (.int .u8 0) ∧ w.cell? ⟨b, 1, none⟩ = some (.int .u8 0) ∧ w.cell? ⟨b, 2, none⟩ = some (.int .u8 0) ∧ w.cell? ⟨b, 3, none⟩ = some (.int .u8 0) ∧ w.cell? ⟨b, 4, none⟩ = some (.int .u8 0) ∧ w.cell? ⟨b, 5, none⟩ = some (.int .u8 0) ∧ w.cell? ⟨b, 6, none⟩ = some (.int .u8 0) ∧ w.cell? ⟨b, 7, none⟩ = some (.int .u8 0) ∧ w.cell? ⟨b, 8, none⟩ = some (.int .u8 0)) (hS : Seg w a 2 1) :
    Calls Tryz.prog 129 #[.pointer (some ⟨p, 0, none⟩), .slice (some ⟨b, 0, none⟩) 9 9, .slice a 1 1, .int .i64 0] w fun e w' => e = .returned (.tuple #[]) ∧ Wr b 0 9 w w' ∧ (w'.cell? ⟨b, 0, none⟩ = some (.int .u8 48) ∧ w'.cell? ⟨b, 1, none⟩ = some (.int .u8 48) ∧ w'.cell? ⟨b, 2, none⟩ = some (.int .u8 48) ∧ w'.cell? ⟨b, 3, none⟩ = some (.int .u8 48) ∧ w'.cell? ⟨b, 4, none⟩ = some (.int .u8 48) ∧ w'.cell? ⟨b, 5, none⟩ = some (.int .u8 48) ∧ w'.cell? ⟨b, 6, none⟩ = some (.int .u8 48) ∧ w'.cell? ⟨b, 7, none⟩ = some (.int .u8 48) ∧ w'.cell? ⟨b, 8, none⟩ = some (.int .u8 50)) := by
  have H1 := hide' (word_any a 1 1 2 w (by omega) hS)
  have H2 := hide' (writeLimb_2 p b w h hp hR h1 h2 hc)
  clear hc
  go_enter Tryz.func129, Tryz.ntmps129
  go_wp2_with fail
  refine H1.out.mono ?_
  rintro e w1 ⟨rfl, rfl⟩
  go_wp2_with fail
  refine H2.out.mono ?_
  rintro e w2 ⟨rfl, hw, hc⟩
  go_wp2
  refine bodyPost_ret (results_none rfl _ _ _) rfl ?_
  exact ⟨rfl, hw, hc⟩
set_option maxHeartbeats 4000000 in
set_option maxRecDepth 100000 in
theorem noughts_2 (b : Nat) (w : World) (h : Digits w) (hc : w.cell? ⟨b, 0, none⟩ = some (.int .u8 48) ∧ w.cell? ⟨b, 1, none⟩ = some (.int .u8 48) ∧ w.cell? ⟨b, 2, none⟩ = some (.int .u8 48) ∧ w.cell? ⟨b, 3, none⟩ = some (.int .u8 48) ∧ w.cell? ⟨b, 4, none⟩ = some (.int .u8 48) ∧ w.cell? ⟨b, 5, none⟩ = some (.int .u8 48) ∧ w.cell? ⟨b, 6, none⟩ = some (.int .u8 48) ∧ w.cell? ⟨b, 7, none⟩ = some (.int .u8 48) ∧ w.cell? ⟨b, 8, none⟩ = some (.int .u8 50)) :
    Calls Tryz.prog 130 #[.slice (some ⟨b, 0, none⟩) 9 9] w fun e w' => e = .returned (.int .i64 8) ∧ Dr w w' := by
  obtain ⟨g0, g1, g2, g3, g4⟩ := h
  obtain ⟨c0, c1, c2, c3, c4, c5, c6, c7, c8⟩ := hc
  go_enter Tryz.func130, Tryz.ntmps130
  go_wp2_with fail
  refine wp_loop_rounds 9 ?_
  repeat (rw [rounds_succ]; go_wp2_with fail; (try go_quiet (fail)); go_wp2_with fail)
  go_ret
  exact ⟨rfl, by first | exact ⟨_, rfl⟩ | exact Dr.drewN ⟨_, rfl⟩ _⟩
set_option maxHeartbeats 4000000 in
set_option maxRecDepth 100000 in
theorem writeLimb_3 (p b : Nat) (w : World) (h : Digits w) (hp : w.cell? ⟨p, 0, none⟩ = some (.int .i64 10)) (hR : Row w b) (h1 : b ≠ 3) (h2 : b ≠ p) (hc : w.cell? ⟨b, 0, none⟩ = some (.int .u8 0) ∧ w.cell? ⟨b, 1, none⟩ = some (.int .u8 0) ∧ w.cell? ⟨b, 2, none⟩ = some (.int .u8 0) ∧ w.cell? ⟨b, 3, none⟩ = some (.int .u8 0) ∧ w.cell? ⟨b, 4, none⟩ = some (.int .u8 0) ∧ w.cell? ⟨b, 5, none⟩ = some (.int .u8 0) ∧ w.cell? ⟨b, 6, none⟩ = some (.int .u8 0) ∧ w.cell? ⟨b, 7, none⟩ = some (.int .u8 0) ∧ w.cell? ⟨b, 8, none⟩ = some (.int .u8 0)) :
    Calls Tryz.prog 149 #[.pointer (some ⟨p, 0, none⟩), .slice (some ⟨b, 0, none⟩) 9 9, .int .u64 3] w fun e w' => e = .returned (.tuple #[]) ∧ Wr b 0 9 w w' ∧ (w'.cell? ⟨b, 0, none⟩ = some (.int .u8 48) ∧ w'.cell? ⟨b, 1, none⟩ = some (.int .u8 48) ∧ w'.cell? ⟨b, 2, none⟩ = some (.int .u8 48) ∧ w'.cell? ⟨b, 3, none⟩ = some (.int .u8 48) ∧ w'.cell? ⟨b, 4, none⟩ = some (.int .u8 48) ∧ w'.cell? ⟨b, 5, none⟩ = some (.int .u8 48) ∧ w'.cell? ⟨b, 6, none⟩ = some (.int .u8 48) ∧ w'.cell? ⟨b, 7, none⟩ = some (.int .u8 48) ∧ w'.cell? ⟨b, 8, none⟩ = some (.int .u8 51)) := by
  obtain ⟨g0, g1, g2, g3, g4⟩ := h
  obtain ⟨c0, c1, c2, c3, c4, c5, c6, c7, c8⟩ := hc
  have fz := fun o => hR.frozen o
  have h1s := h1.symm
  have h2s := h2.symm
  go_enter Tryz.func149, Tryz.ntmps149
  go_wp2_with fail
  refine wp_loop_rounds 10 ?_
  repeat (rw [rounds_succ]; go_wp2_with fail)
  all_goals go_end0
  refine ⟨rfl, ?_, ?_⟩
  · have k0 := Wr.refl b 0 9 w
    have k1 := k0.setCell 8 (by omega) (by omega) (.int .u8 51)
    have k2 := k1.setCell 7 (by omega) (by omega) (.int .u8 48)
    have k3 := k2.setCell 6 (by omega) (by omega) (.int .u8 48)
    have k4 := k3.setCell 5 (by omega) (by omega) (.int .u8 48)
    have k5 := k4.setCell 4 (by omega) (by omega) (.int .u8 48)
    have k6 := k5.setCell 3 (by omega) (by omega) (.int .u8 48)
    have k7 := k6.setCell 2 (by omega) (by omega) (.int .u8 48)
    have k8 := k7.setCell 1 (by omega) (by omega) (.int .u8 48)
    have k9 := k8.setCell 0 (by omega) (by omega) (.int .u8 48)
    exact k9
  · refine ⟨?_, ?_, ?_, ?_, ?_, ?_, ?_, ?_, ?_⟩ <;> go_simp
set_option maxHeartbeats 1000000 in
theorem write_3 (p b : Nat) (a : Option Addr) (w : World) (h : Digits w) (hp : w.cell? ⟨p, 0, none⟩ = some (.int .i64 10)) (hR : Row w b) (h1 : b ≠ 3) (h2 : b ≠ p) (hc : w.cell? ⟨b, 0, none⟩ = some (.int .u8 0) ∧ w.cell? ⟨b, 1, none⟩ = some (.int .u8 0) ∧ w.cell? ⟨b, 2, none⟩ = some (.int .u8 0) ∧ w.cell? ⟨b, 3, none⟩ = some (.int .u8 0) ∧ w.cell? ⟨b, 4, none⟩ = some (.int .u8 0) ∧ w.cell? ⟨b, 5, none⟩ = some (.int .u8 0) ∧ w.cell? ⟨b, 6, none⟩ = some (.int .u8 0) ∧ w.cell? ⟨b, 7, none⟩ = some (.int .u8 0) ∧ w.cell? ⟨b, 8, none⟩ = some (.int .u8 0)) (hS : Seg w a 3 1) :
    Calls Tryz.prog 129 #[.pointer (some ⟨p, 0, none⟩), .slice (some ⟨b, 0, none⟩) 9 9, .slice a 1 1, .int .i64 0] w fun e w' => e = .returned (.tuple #[]) ∧ Wr b 0 9 w w' ∧ (w'.cell? ⟨b, 0, none⟩ = some (.int .u8 48) ∧ w'.cell? ⟨b, 1, none⟩ = some (.int .u8 48) ∧ w'.cell? ⟨b, 2, none⟩ = some (.int .u8 48) ∧ w'.cell? ⟨b, 3, none⟩ = some (.int .u8 48) ∧ w'.cell? ⟨b, 4, none⟩ = some (.int .u8 48) ∧ w'.cell? ⟨b, 5, none⟩ = some (.int .u8 48) ∧ w'.cell? ⟨b, 6, none⟩ = some (.int .u8 48) ∧ w'.cell? ⟨b, 7, none⟩ = some (.int .u8 48) ∧ w'.cell? ⟨b, 8, none⟩ = some (.int .u8 51)) := by
  have H1 := hide' (word_any a 1 1 3 w (by omega) hS)
  have H2 := hide' (writeLimb_3 p b w h hp hR h1 h2 hc)
  clear hc
  go_enter Tryz.func129, Tryz.ntmps129
  go_wp2_with fail
  refine H1.out.mono ?_
  rintro e w1 ⟨rfl, rfl⟩
  go_wp2_with fail
  refine H2.out.mono ?_
  rintro e w2 ⟨rfl, hw, hc⟩
  go_wp2
  refine bodyPost_ret (results_none rfl _ _ _) rfl ?_
  exact ⟨rfl, hw, hc⟩
set_option maxHeartbeats 4000000 in
set_option maxRecDepth 100000 in
theorem noughts_3 (b : Nat) (w : World) (h : Digits w) (hc : w.cell? ⟨b, 0, none⟩ = some (.int .u8 48) ∧ w.cell? ⟨b, 1, none⟩ = some (.int .u8 48) ∧ w.cell? ⟨b, 2, none⟩ = some (.int .u8 48) ∧ w.cell? ⟨b, 3, none⟩ = some (.int .u8 48) ∧ w.cell? ⟨b, 4, none⟩ = some (.int .u8 48) ∧ w.cell? ⟨b, 5, none⟩ = some (.int .u8 48) ∧ w.cell? ⟨b, 6, none⟩ = some (.int .u8 48) ∧ w.cell? ⟨b, 7, none⟩ = some (.int .u8 48) ∧ w.cell? ⟨b, 8, none⟩ = some (.int .u8 51)) :
    Calls Tryz.prog 130 #[.slice (some ⟨b, 0, none⟩) 9 9] w fun e w' => e = .returned (.int .i64 8) ∧ Dr w w' := by
  obtain ⟨g0, g1, g2, g3, g4⟩ := h
  obtain ⟨c0, c1, c2, c3, c4, c5, c6, c7, c8⟩ := hc
  go_enter Tryz.func130, Tryz.ntmps130
  go_wp2_with fail
  refine wp_loop_rounds 9 ?_
  repeat (rw [rounds_succ]; go_wp2_with fail; (try go_quiet (fail)); go_wp2_with fail)
  go_ret
  exact ⟨rfl, by first | exact ⟨_, rfl⟩ | exact Dr.drewN ⟨_, rfl⟩ _⟩
end Go.Proofs.YtggblpbcphgnoaaGreatDoor

namespace Go.Proofs.YtggblpbcphgnoaaGreatDoor
open Go.RowKit
set_option linter.unusedVariables false

theorem mk9 (w : World) : (Instr.makeSlice 130 (.int .i64 9) (.int .i64 9)).run Tryz.prog w = .ok (.slice (some ⟨w.heap.size, 0, none⟩) 9 9) (w.alloc (.cells #[.int .u8 0, .int .u8 0, .int .u8 0, .int .u8 0, .int .u8 0, .int .u8 0, .int .u8 0, .int .u8 0, .int .u8 0] 5)) := by
  first | kernel_rfl | rfl
set_option maxHeartbeats 4000000 in
set_option maxRecDepth 100000 in
theorem nText_2 (a : Option Addr) (w : World) (h : Digits w) (hS : Seg w a 2 1) :
    Calls Tryz.prog 108 #[.slice a 1 1, .int .i64 10] w fun e w' => e = .returned (.tuple #[.string ⟨#[50]⟩, .int .i64 0]) ∧ Below w.heap.size w w' := by
  have H0 := hide' (trim_any a 1 1 2 w (Nat.le_refl _) (by omega) hS)
  rw [ln_2] at H0
  have H1 := hide' scaleOf2_10
  obtain ⟨N, hN⟩ : ∃ N : Nat, ln 1000000000 = N := ⟨_, rfl⟩
  rw [hN] at H1
  have hNl : N ≤ 2 := by rw [← hN]; exact ln_le_of_lt (by rw [BB2]; decide)
  have H2 := hide' (fun x y w' k1 k2 => Cmp_any x y 1 1 2 N N 1000000000 w' (Nat.le_refl _) (by omega) k1 (Nat.le_refl _) (by omega) k2)
  rw [show cmpI 2 1000000000 = -1 from by decide] at H2
  have H3 := hide' (fun p b x w' k1 k2 k3 k4 k5 k6 k7 => write_2 p b x w' k1 k2 k3 k4 k5 k6 k7)
  have H4 := hide' (fun b w' k1 k2 => noughts_2 b w' k1 k2)
  go_enter Tryz.func108, Tryz.ntmps108
  go_wp2_with fail
  refine (isBase_10 _).mono ?_
  rintro e w0 ⟨rfl, rfl⟩
  go_wp2_with fail
  refine H0.out.mono ?_
  rintro e w1 ⟨a1, rfl, rfl, ht⟩
  obtain rfl := ht.2 (by omega)
  go_wp2_with fail
  refine (H1.out _).mono ?_
  rintro e w2 ⟨a2, rfl, h2⟩
  have hc := below_alloc (w := w2) (.cells #[.int .i64 10, .int .i64 9, .slice none 0 0, .slice a2 N N] 125)
  have hB := h2.below.trans (hc.mono h2.below.size)
  have kS := hS.below hB (Nat.le_refl _)
  have kN := h2.seg.later hc
  have hD := h.below hB
  have q0 : (w2.alloc (.cells #[.int .i64 10, .int .i64 9, .slice none 0 0, .slice a2 N N] 125)).cell? ⟨w2.heap.size, 0, none⟩ = some (.int .i64 10) := by go_simp
  have q1 : (w2.alloc (.cells #[.int .i64 10, .int .i64 9, .slice none 0 0, .slice a2 N N] 125)).cell? ⟨w2.heap.size, 1, none⟩ = some (.int .i64 9) := by go_simp
  have q2 : (w2.alloc (.cells #[.int .i64 10, .int .i64 9, .slice none 0 0, .slice a2 N N] 125)).cell? ⟨w2.heap.size, 2, none⟩ = some (.slice none 0 0) := by go_simp
  have q3 : (w2.alloc (.cells #[.int .i64 10, .int .i64 9, .slice none 0 0, .slice a2 N N] 125)).cell? ⟨w2.heap.size, 3, none⟩ = some (.slice a2 N N) := by go_simp
  have hz : (w2.alloc (.cells #[.int .i64 10, .int .i64 9, .slice none 0 0, .slice a2 N N] 125)).heap.size = w2.heap.size + 1 := World.size_alloc _ _
  have hl2 := h2.below.size
  have hg : 3 < w0.heap.size := World.block_lt_of_cell? w0 ⟨3, 0, none⟩ h.1
  have G2 := hide' (H2.out _ _ _ kS kN)
  go_wp2_with fail
  generalize (w2.alloc (.cells #[.int .i64 10, .int .i64 9, .slice none 0 0, .slice a2 N N] 125)) = W at hB kS kN hD q0 q1 q2 q3 hz G2 ⊢
  refine wp_loop_rounds 1 ?_
  rw [rounds_succ]
  go_wp2_with fail
  refine G2.out.mono ?_
  rintro e w3 ⟨rfl, n3, rfl⟩
  go_wp2_with fail
  rw [mk9]
  simp only [Result.andThen]
  rw [Oper.upon_value]
  have b4 := below_alloc (w := W.drewN n3) (.cells #[.int .u8 0, .int .u8 0, .int .u8 0, .int .u8 0, .int .u8 0, .int .u8 0, .int .u8 0, .int .u8 0, .int .u8 0] 5)
  have r4 := row_new (W.drewN n3) #[.int .u8 0, .int .u8 0, .int .u8 0, .int .u8 0, .int .u8 0, .int .u8 0, .int .u8 0, .int .u8 0, .int .u8 0] 5
  have hs4 : (W.drewN n3).heap.size = W.heap.size := rfl
  simp only [hs4] at b4 r4 ⊢
  have cc : ∀ j, j < 9 → ((W.drewN n3).alloc (.cells #[.int .u8 0, .int .u8 0, .int .u8 0, .int .u8 0, .int .u8 0, .int .u8 0, .int .u8 0, .int .u8 0, .int .u8 0] 5)).cell? ⟨W.heap.size, j, none⟩ = some (.int .u8 0) := by
    intro j hj
    have := World.cell?_alloc_mark (W.drewN n3) #[.int .u8 0, .int .u8 0, .int .u8 0, .int .u8 0, .int .u8 0, .int .u8 0, .int .u8 0, .int .u8 0, .int .u8 0] 5 (0, 0) j
    simp only [hs4] at this
    rw [this]
    match j, hj with
    | 0, _ => rfl
    | 1, _ => rfl
    | 2, _ => rfl
    | 3, _ => rfl
    | 4, _ => rfl
    | 5, _ => rfl
    | 6, _ => rfl
    | 7, _ => rfl
    | 8, _ => rfl
  have hz4 : ((W.drewN n3).alloc (.cells #[.int .u8 0, .int .u8 0, .int .u8 0, .int .u8 0, .int .u8 0, .int .u8 0, .int .u8 0, .int .u8 0, .int .u8 0] 5)).heap.size = W.heap.size + 1 := World.size_alloc _ _
  have kS4 := (Seg.drewN (q := n3) kS).later b4
  have hD4 := (show Digits (W.drewN n3) from hD).below b4
  have p0 := below_cell b4 (show (W.drewN n3).cell? _ = _ from q0)
  have p1 := below_cell b4 (show (W.drewN n3).cell? _ = _ from q1)
  have p2 := below_cell b4 (show (W.drewN n3).cell? _ = _ from q2)
  have p3 := below_cell b4 (show (W.drewN n3).cell? _ = _ from q3)
  have G3 := hide' (H3.out w2.heap.size W.heap.size _ _ hD4 p0 r4 (by omega) (by omega) ⟨cc 0 (by omega), cc 1 (by omega), cc 2 (by omega), cc 3 (by omega), cc 4 (by omega), cc 5 (by omega), cc 6 (by omega), cc 7 (by omega), cc 8 (by omega)⟩ kS4)
  have hB4 := (below_drewN (q := n3) hB).trans (b4.mono hB.size)
  generalize ((W.drewN n3).alloc (.cells #[.int .u8 0, .int .u8 0, .int .u8 0, .int .u8 0, .int .u8 0, .int .u8 0, .int .u8 0, .int .u8 0, .int .u8 0] 5)) = W4 at hD4 p0 p1 p2 p3 r4 hz4 G3 hB4 ⊢
  clear cc b4 kS4 hs4 kN kS hD q0 q1 q2 q3 G2
  have hz1 := Nat.le_of_eq hz
  have hz2 := Nat.le_of_eq hz.symm
  have hz3 := Nat.le_of_eq hz4.symm
  clear hz hz4
  go_wp2_with fail
  refine G3.out.mono ?_
  rintro e w5 ⟨rfl, hwr, hcs⟩
  have hs2 := hB.size
  have hB5 := hB4.trans (hwr.below (B := w0.heap.size) (by omega) (by omega))
  have hD5 := h.below hB5
  have G4 := hide' (H4.out _ _ hD5 hcs)
  have c8 := hcs.2.2.2.2.2.2.2.2
  clear hcs
  go_wp2_with fail
  refine G4.out.mono ?_
  rintro e w6 ⟨rfl, n6, rfl⟩
  have hcv := fun cap => run_convert_bytes_back (P := Tryz.prog) (w5.drewN n6) 130 9 5 ⟨W.heap.size, 8, none⟩ cap [50] Tryz.underlying130 Tryz.underlying5 Tryz.underlying9 (fun j hj => by match j, hj with | 0, _ => exact c8)
  simp only [List.length_singleton] at hcv
  go_wp2
  all_goals (try go_ret2)
  all_goals exact ⟨rfl, below_drewN hB5⟩
set_option maxHeartbeats 4000000 in
set_option maxRecDepth 100000 in
theorem nText_3 (a : Option Addr) (w : World) (h : Digits w) (hS : Seg w a 3 1) :
    Calls Tryz.prog 108 #[.slice a 1 1, .int .i64 10] w fun e w' => e = .returned (.tuple #[.string ⟨#[51]⟩, .int .i64 0]) ∧ Below w.heap.size w w' := by
  have H0 := hide' (trim_any a 1 1 3 w (Nat.le_refl _) (by omega) hS)
  rw [ln_3] at H0
  have H1 := hide' scaleOf2_10
  obtain ⟨N, hN⟩ : ∃ N : Nat, ln 1000000000 = N := ⟨_, rfl⟩
  rw [hN] at H1
  have hNl : N ≤ 2 := by rw [← hN]; exact ln_le_of_lt (by rw [BB2]; decide)
  have H2 := hide' (fun x y w' k1 k2 => Cmp_any x y 1 1 3 N N 1000000000 w' (Nat.le_refl _) (by omega) k1 (Nat.le_refl _) (by omega) k2)
  rw [show cmpI 3 1000000000 = -1 from by decide] at H2
  have H3 := hide' (fun p b x w' k1 k2 k3 k4 k5 k6 k7 => write_3 p b x w' k1 k2 k3 k4 k5 k6 k7)
  have H4 := hide' (fun b w' k1 k2 => noughts_3 b w' k1 k2)
  go_enter Tryz.func108, Tryz.ntmps108
  go_wp2_with fail
  refine (isBase_10 _).mono ?_
  rintro e w0 ⟨rfl, rfl⟩
  go_wp2_with fail
  refine H0.out.mono ?_
  rintro e w1 ⟨a1, rfl, rfl, ht⟩
  obtain rfl := ht.2 (by omega)
  go_wp2_with fail
  refine (H1.out _).mono ?_
  rintro e w2 ⟨a2, rfl, h2⟩
  have hc := below_alloc (w := w2) (.cells #[.int .i64 10, .int .i64 9, .slice none 0 0, .slice a2 N N] 125)
  have hB := h2.below.trans (hc.mono h2.below.size)
  have kS := hS.below hB (Nat.le_refl _)
  have kN := h2.seg.later hc
  have hD := h.below hB
  have q0 : (w2.alloc (.cells #[.int .i64 10, .int .i64 9, .slice none 0 0, .slice a2 N N] 125)).cell? ⟨w2.heap.size, 0, none⟩ = some (.int .i64 10) := by go_simp
  have q1 : (w2.alloc (.cells #[.int .i64 10, .int .i64 9, .slice none 0 0, .slice a2 N N] 125)).cell? ⟨w2.heap.size, 1, none⟩ = some (.int .i64 9) := by go_simp
  have q2 : (w2.alloc (.cells #[.int .i64 10, .int .i64 9, .slice none 0 0, .slice a2 N N] 125)).cell? ⟨w2.heap.size, 2, none⟩ = some (.slice none 0 0) := by go_simp
  have q3 : (w2.alloc (.cells #[.int .i64 10, .int .i64 9, .slice none 0 0, .slice a2 N N] 125)).cell? ⟨w2.heap.size, 3, none⟩ = some (.slice a2 N N) := by go_simp
  have hz : (w2.alloc (.cells #[.int .i64 10, .int .i64 9, .slice none 0 0, .slice a2 N N] 125)).heap.size = w2.heap.size + 1 := World.size_alloc _ _
  have hl2 := h2.below.size
  have hg : 3 < w0.heap.size := World.block_lt_of_cell? w0 ⟨3, 0, none⟩ h.1
  have G2 := hide' (H2.out _ _ _ kS kN)
  go_wp2_with fail
  generalize (w2.alloc (.cells #[.int .i64 10, .int .i64 9, .slice none 0 0, .slice a2 N N] 125)) = W at hB kS kN hD q0 q1 q2 q3 hz G2 ⊢
  refine wp_loop_rounds 1 ?_
  rw [rounds_succ]
  go_wp2_with fail
  refine G2.out.mono ?_
  rintro e w3 ⟨rfl, n3, rfl⟩
  go_wp2_with fail
  rw [mk9]
  simp only [Result.andThen]
  rw [Oper.upon_value]
  have b4 := below_alloc (w := W.drewN n3) (.cells #[.int .u8 0, .int .u8 0, .int .u8 0, .int .u8 0, .int .u8 0, .int .u8 0, .int .u8 0, .int .u8 0, .int .u8 0] 5)
  have r4 := row_new (W.drewN n3) #[.int .u8 0, .int .u8 0, .int .u8 0, .int .u8 0, .int .u8 0, .int .u8 0, .int .u8 0, .int .u8 0, .int .u8 0] 5
  have hs4 : (W.drewN n3).heap.size = W.heap.size := rfl
  simp only [hs4] at b4 r4 ⊢
  have cc : ∀ j, j < 9 → ((W.drewN n3).alloc (.cells #[.int .u8 0, .int .u8 0, .int .u8 0, .int .u8 0, .int .u8 0, .int .u8 0, .int .u8 0, .int .u8 0, .int .u8 0] 5)).cell? ⟨W.heap.size, j, none⟩ = some (.int .u8 0) := by
    intro j hj
    have := World.cell?_alloc_mark (W.drewN n3) #[.int .u8 0, .int .u8 0, .int .u8 0, .int .u8 0, .int .u8 0, .int .u8 0, .int .u8 0, .int .u8 0, .int .u8 0] 5 (0, 0) j
    simp only [hs4] at this
    rw [this]
    match j, hj with
    | 0, _ => rfl
    | 1, _ => rfl
    | 2, _ => rfl
    | 3, _ => rfl
    | 4, _ => rfl
    | 5, _ => rfl
    | 6, _ => rfl
    | 7, _ => rfl
    | 8, _ => rfl
  have hz4 : ((W.drewN n3).alloc (.cells #[.int .u8 0, .int .u8 0, .int .u8 0, .int .u8 0, .int .u8 0, .int .u8 0, .int .u8 0, .int .u8 0, .int .u8 0] 5)).heap.size = W.heap.size + 1 := World.size_alloc _ _
  have kS4 := (Seg.drewN (q := n3) kS).later b4
  have hD4 := (show Digits (W.drewN n3) from hD).below b4
  have p0 := below_cell b4 (show (W.drewN n3).cell? _ = _ from q0)
  have p1 := below_cell b4 (show (W.drewN n3).cell? _ = _ from q1)
  have p2 := below_cell b4 (show (W.drewN n3).cell? _ = _ from q2)
  have p3 := below_cell b4 (show (W.drewN n3).cell? _ = _ from q3)
  have G3 := hide' (H3.out w2.heap.size W.heap.size _ _ hD4 p0 r4 (by omega) (by omega) ⟨cc 0 (by omega), cc 1 (by omega), cc 2 (by omega), cc 3 (by omega), cc 4 (by omega), cc 5 (by omega), cc 6 (by omega), cc 7 (by omega), cc 8 (by omega)⟩ kS4)
  have hB4 := (below_drewN (q := n3) hB).trans (b4.mono hB.size)
  generalize ((W.drewN n3).alloc (.cells #[.int .u8 0, .int .u8 0, .int .u8 0, .int .u8 0, .int .u8 0, .int .u8 0, .int .u8 0, .int .u8 0, .int .u8 0] 5)) = W4 at hD4 p0 p1 p2 p3 r4 hz4 G3 hB4 ⊢
  clear cc b4 kS4 hs4 kN kS hD q0 q1 q2 q3 G2
  have hz1 := Nat.le_of_eq hz
  have hz2 := Nat.le_of_eq hz.symm
  have hz3 := Nat.le_of_eq hz4.symm
  clear hz hz4
  go_wp2_with fail
  refine G3.out.mono ?_
  rintro e w5 ⟨rfl, hwr, hcs⟩
  have hs2 := hB.size
  have hB5 := hB4.trans (hwr.below (B := w0.heap.size) (by omega) (by omega))
  have hD5 := h.below hB5
  have G4 := hide' (H4.out _ _ hD5 hcs)
  have c8 := hcs.2.2.2.2.2.2.2.2
  clear hcs
  go_wp2_with fail
  refine G4.out.mono ?_
  rintro e w6 ⟨rfl, n6, rfl⟩
  have hcv := fun cap => run_convert_bytes_back (P := Tryz.prog) (w5.drewN n6) 130 9 5 ⟨W.heap.size, 8, none⟩ cap [51] Tryz.underlying130 Tryz.underlying5 Tryz.underlying9 (fun j hj => by match j, hj with | 0, _ => exact c8)
  simp only [List.length_singleton] at hcv
  go_wp2
  all_goals (try go_ret2)
  all_goals exact ⟨rfl, below_drewN hB5⟩
end Go.Proofs.YtggblpbcphgnoaaGreatDoor
