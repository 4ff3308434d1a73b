/-
  lives: the text '3-2d' is cut; its parts are cut.
-/
import Derived.Test.YtjbeagbkjmaeeaaGreatDoorWQ0
import Derived.Handy
import Derived.Lib.Bytealg
namespace Go.Proofs.YtjbeagbkjmaeeaaGreatDoor
open Go.RowKit
set_option linter.unusedVariables false

/-- the digits' cells -/
def Digits (w : World) : Prop := w.cell? ⟨3, 0, none⟩ = some (.int .u8 48) ∧ w.cell? ⟨3, 1, none⟩ = some (.int .u8 49) ∧ w.cell? ⟨3, 2, none⟩ = some (.int .u8 50) ∧ w.cell? ⟨3, 3, none⟩ = some (.int .u8 51) ∧ w.cell? ⟨3, 4, none⟩ = some (.int .u8 52)
theorem Digits.below {w w' : World} (h : Digits w) (hb : Below w.heap.size w w') : Digits w' := by
  have g : ∀ {p : Addr} {v : Value}, w.cell? p = some v → w'.cell? p = some v := fun {p v} hc => by
    rw [hb.cell (World.block_lt_of_cell? w p hc)]; exact hc
  exact ⟨g h.1, g h.2.1, g h.2.2.1, g h.2.2.2.1, g h.2.2.2.2⟩

set_option maxHeartbeats 1000000 in
theorem digitOf_2 (c : Int) (hc : c = 50) (w : World) (h : Digits w) : Calls Tryz.prog 123 #[.int .u8 c, .int .i64 10] w fun e w' => e = .returned (.int .i64 2) ∧ w' = w := by
  subst hc
  obtain ⟨h0, h1, h2, h3, h4⟩ := h
  go_enter Tryz.func123, Tryz.ntmps123
  go_wp2
  go_rounds 4
  all_goals go_ret
  all_goals exact ⟨rfl, rfl⟩
set_option maxHeartbeats 1000000 in
theorem isText_2 (w : World) (h : Digits w) : Calls Tryz.prog 100 #[.string ⟨#[50]⟩, .int .i64 10] w fun e w' => e = .returned (.bool true) ∧ Dr w w' := by
  have hs : (⟨#[50]⟩ : ByteArray).size = 1 := rfl
  have he : ((⟨#[50]⟩ : ByteArray) == ByteArray.empty) = false := by decide
  go_enter Tryz.func100, Tryz.ntmps100
  go_wp2
  go_quiet (fail)
  go_wp2
  refine wp_loop_rounds 2 ?_
  rw [rounds_succ]
  go_wp2_with (go_at_call 123; refine (digitOf_2 _ rfl _ (by exact h)).mono ?_; rintro e w1 ⟨rfl, rfl⟩)
  rw [rounds_succ]
  go_wp2
  go_ret
  exact ⟨rfl, ⟨_, rfl⟩⟩

theorem isBase_10 (w : World) : Calls Tryz.prog 99 #[.int .i64 10] w fun e w' => e = .returned (.bool true) ∧ w' = w := by
  go_enter Tryz.func99, Tryz.ntmps99
  go_wp2
  go_ret
  exact ⟨rfl, rfl⟩

set_option maxHeartbeats 2000000 in
theorem scaleOf_10 (w : World) : Calls Tryz.prog 101 #[.int .i64 10] w fun e w' => ∃ a, e = .returned (.agg #[.int .i64 10, .int .i64 9, .slice none 0 0, .slice a (ln 1000000000) (ln 1000000000)]) ∧ Below w.heap.size w w' := by
  obtain ⟨N, hN⟩ : ∃ N : Nat, 1000000000 = N := ⟨_, rfl⟩
  have HO' : ∀ w', Calls Tryz.prog 113 #[.int .u64 1000000000] w' fun e w'' => ∃ ao, e = .returned (.slice ao (ln N) (ln N)) ∧ New w' w'' ao N (ln N) := fun w' => by subst hN; exact Of_any 1000000000 w' (by omega)
  have HO := hide' HO'
  rw [hN]
  clear HO' hN
  have hB := below_alloc (w := w) (.cells #[.int .i64 0, .int .i64 0, .slice none 0 0, .slice none 0 0] 111)
  have hR := row_new w #[.int .i64 0, .int .i64 0, .slice none 0 0, .slice none 0 0] 111
  have c0 : (w.alloc (.cells #[.int .i64 0, .int .i64 0, .slice none 0 0, .slice none 0 0] 111)).cell? ⟨w.heap.size, 0, none⟩ = some (.int .i64 0) := by go_simp
  have c1 : (w.alloc (.cells #[.int .i64 0, .int .i64 0, .slice none 0 0, .slice none 0 0] 111)).cell? ⟨w.heap.size, 1, none⟩ = some (.int .i64 0) := by go_simp
  have c2 : (w.alloc (.cells #[.int .i64 0, .int .i64 0, .slice none 0 0, .slice none 0 0] 111)).cell? ⟨w.heap.size, 2, none⟩ = some (.slice none 0 0) := by go_simp
  have c3 : (w.alloc (.cells #[.int .i64 0, .int .i64 0, .slice none 0 0, .slice none 0 0] 111)).cell? ⟨w.heap.size, 3, none⟩ = some (.slice none 0 0) := by go_simp
  go_enter Tryz.func101, Tryz.ntmps101
  go_wp2_with fail
  refine wp_loop_rounds 10 ?_
  repeat (rw [rounds_succ]; go_wp2_with fail)
  refine (HO.out _).mono ?_
  rintro e w1 ⟨a1, rfl, h1⟩
  have b1 := h1.below
  replace c0 := below_cell b1 c0
  replace c1 := below_cell b1 c1
  replace c2 := below_cell b1 c2
  replace c3 := below_cell b1 c3
  replace hR := below_row b1 hR
  have fz := fun o => hR.frozen o
  go_wp2
  refine bodyPost_ret (v := .agg #[.int .i64 10, .int .i64 9, .slice none 0 0, .slice a1 (ln N) (ln N)]) (by rw [results_cell rfl]; go_simp) rfl ?_
  exact ⟨a1, rfl, bset (bset (bset (bset (hB.trans (b1.mono hB.size)) (Nat.le_refl _)) (Nat.le_refl _)) (Nat.le_refl _)) (Nat.le_refl _)⟩


set_option maxHeartbeats 2000000 in
theorem readLimb_2 (b : Nat) (w : World) (h : Digits w) (hb : w.cell? ⟨b, 0, none⟩ = some (.int .i64 10)) : Calls Tryz.prog 124 #[.pointer (some ⟨b, 0, none⟩), .string ⟨#[50]⟩] w fun e w' => ∃ a, e = .returned (.slice a (ln 2) (ln 2)) ∧ New w w' a 2 (ln 2) := by
  have hs : (⟨#[50]⟩ : ByteArray).size = 1 := rfl
  have HD := hide' (fun c w' (hc : c = 50) k => digitOf_2 c hc w' k)
  have HO := hide' (fun w' => Of_any 2 w' (by omega))
  go_enter Tryz.func124, Tryz.ntmps124
  go_wp2_with fail
  refine wp_loop_rounds 2 ?_
  rw [rounds_succ]
  go_wp2_with fail
  go_quiet ((go_at_call 123; exact Calls.quiet_of_same (HD.out _ _ rfl (by exact h))))
  go_wp2_with fail
  rw [rounds_succ]
  go_wp2_with fail
  refine (HO.out _).mono ?_
  rintro e w1 ⟨a1, rfl, h1⟩
  go_wp2
  go_ret
  exact ⟨a1, rfl, h1.back (below_drewN (Below.refl _ _))⟩

set_option maxHeartbeats 2000000 in
theorem read_2 (b : Nat) (w : World) (h : Digits w) (hb : w.cell? ⟨b, 0, none⟩ = some (.int .i64 10)) : Calls Tryz.prog 103 #[.pointer (some ⟨b, 0, none⟩), .string ⟨#[50]⟩, .int .i64 0] w fun e w' => ∃ a, e = .returned (.slice a (ln 2) (ln 2)) ∧ New w w' a 2 (ln 2) := by
  have HR := hide' (readLimb_2 b w h hb)
  go_enter Tryz.func103, Tryz.ntmps103
  go_wp2_with fail
  refine HR.out.mono ?_
  rintro e w1 ⟨a1, rfl, h1⟩
  go_wp2
  go_ret
  exact ⟨a1, rfl, h1⟩

set_option maxHeartbeats 2000000 in
theorem Parse_2 (w : World) (h : Digits w) : Calls Tryz.prog 77 #[.string ⟨#[50]⟩, .int .i64 10] w fun e w' => ∃ a, e = .returned (.tuple #[.slice a (ln 2) (ln 2), .int .i64 0]) ∧ New w w' a 2 (ln 2) := by
  have hs : (⟨#[50]⟩ : ByteArray).size = 1 := rfl
  have H1 := hide' (isText_2 w h)
  have H2 := hide' scaleOf_10
  have H3 := hide' (fun b w' k1 k2 => read_2 b w' k1 k2)
  obtain ⟨N, hN⟩ : ∃ N : Nat, ln 1000000000 = N := ⟨_, rfl⟩
  rw [hN] at H2
  go_enter Tryz.func77, Tryz.ntmps77
  go_wp2_with fail
  refine (isBase_10 _).mono ?_
  rintro e w0 ⟨rfl, rfl⟩
  go_wp2_with fail
  refine H1.out.mono ?_
  rintro e w1 ⟨rfl, hd1⟩
  go_wp2_with fail
  refine (H2.out _).mono ?_
  rintro e w2 ⟨a2, rfl, b2⟩
  have hB := (hd1.below w0.heap.size).trans (b2.mono (hd1.below w0.heap.size).size)
  have hc := below_alloc (w := w2) (.cells #[.int .i64 10, .int .i64 9, .slice none 0 0, .slice a2 N N] 111)
  have hB2 := hB.trans (hc.mono hB.size)
  have hg := h.below hB2
  have hx : (w2.alloc (.cells #[.int .i64 10, .int .i64 9, .slice none 0 0, .slice a2 N N] 111)).cell? ⟨w2.heap.size, 0, none⟩ = some (.int .i64 10) := by go_simp
  have H4 := hide' (H3.out _ _ hg hx)
  go_wp2_with fail
  refine wp_loop_rounds 1 ?_
  rw [rounds_succ]
  go_wp2_with fail
  refine H4.out.mono ?_
  rintro e w3 ⟨a3, rfl, h3⟩
  go_wp2
  go_ret2
  exact ⟨a3, rfl, h3.back hB2⟩

end Go.Proofs.YtjbeagbkjmaeeaaGreatDoor

namespace Go.Proofs.YtjbeagbkjmaeeaaGreatDoor
open Go.RowKit
set_option linter.unusedVariables false

set_option maxHeartbeats 1000000 in
theorem digitOf_1 (c : Int) (hc : c = 49) (w : World) (h : Digits w) : Calls Tryz.prog 123 #[.int .u8 c, .int .i64 10] w fun e w' => e = .returned (.int .i64 1) ∧ w' = w := by
  subst hc
  obtain ⟨h0, h1, h2, h3, h4⟩ := h
  go_enter Tryz.func123, Tryz.ntmps123
  go_wp2
  go_rounds 3
  all_goals go_ret
  all_goals exact ⟨rfl, rfl⟩
set_option maxHeartbeats 1000000 in
theorem isText_1 (w : World) (h : Digits w) : Calls Tryz.prog 100 #[.string ⟨#[49]⟩, .int .i64 10] w fun e w' => e = .returned (.bool true) ∧ Dr w w' := by
  have hs : (⟨#[49]⟩ : ByteArray).size = 1 := rfl
  have he : ((⟨#[49]⟩ : ByteArray) == ByteArray.empty) = false := by decide
  go_enter Tryz.func100, Tryz.ntmps100
  go_wp2
  go_quiet (fail)
  go_wp2
  refine wp_loop_rounds 2 ?_
  rw [rounds_succ]
  go_wp2_with (go_at_call 123; refine (digitOf_1 _ rfl _ (by exact h)).mono ?_; rintro e w1 ⟨rfl, rfl⟩)
  rw [rounds_succ]
  go_wp2
  go_ret
  exact ⟨rfl, ⟨_, rfl⟩⟩
set_option maxHeartbeats 2000000 in
theorem readLimb_1 (b : Nat) (w : World) (h : Digits w) (hb : w.cell? ⟨b, 0, none⟩ = some (.int .i64 10)) : Calls Tryz.prog 124 #[.pointer (some ⟨b, 0, none⟩), .string ⟨#[49]⟩] w fun e w' => ∃ a, e = .returned (.slice a (ln 1) (ln 1)) ∧ New w w' a 1 (ln 1) := by
  have hs : (⟨#[49]⟩ : ByteArray).size = 1 := rfl
  have HD := hide' (fun c w' (hc : c = 49) k => digitOf_1 c hc w' k)
  have HO := hide' (fun w' => Of_any 1 w' (by omega))
  go_enter Tryz.func124, Tryz.ntmps124
  go_wp2_with fail
  refine wp_loop_rounds 2 ?_
  rw [rounds_succ]
  go_wp2_with fail
  go_quiet ((go_at_call 123; exact Calls.quiet_of_same (HD.out _ _ rfl (by exact h))))
  go_wp2_with fail
  rw [rounds_succ]
  go_wp2_with fail
  refine (HO.out _).mono ?_
  rintro e w1 ⟨a1, rfl, h1⟩
  go_wp2
  go_ret
  exact ⟨a1, rfl, h1.back (below_drewN (Below.refl _ _))⟩
set_option maxHeartbeats 2000000 in
theorem read_1 (b : Nat) (w : World) (h : Digits w) (hb : w.cell? ⟨b, 0, none⟩ = some (.int .i64 10)) : Calls Tryz.prog 103 #[.pointer (some ⟨b, 0, none⟩), .string ⟨#[49]⟩, .int .i64 0] w fun e w' => ∃ a, e = .returned (.slice a (ln 1) (ln 1)) ∧ New w w' a 1 (ln 1) := by
  have HR := hide' (readLimb_1 b w h hb)
  go_enter Tryz.func103, Tryz.ntmps103
  go_wp2_with fail
  refine HR.out.mono ?_
  rintro e w1 ⟨a1, rfl, h1⟩
  go_wp2
  go_ret
  exact ⟨a1, rfl, h1⟩
set_option maxHeartbeats 2000000 in
theorem Parse_1 (w : World) (h : Digits w) : Calls Tryz.prog 77 #[.string ⟨#[49]⟩, .int .i64 10] w fun e w' => ∃ a, e = .returned (.tuple #[.slice a (ln 1) (ln 1), .int .i64 0]) ∧ New w w' a 1 (ln 1) := by
  have hs : (⟨#[49]⟩ : ByteArray).size = 1 := rfl
  have H1 := hide' (isText_1 w h)
  have H2 := hide' scaleOf_10
  have H3 := hide' (fun b w' k1 k2 => read_1 b w' k1 k2)
  obtain ⟨N, hN⟩ : ∃ N : Nat, ln 1000000000 = N := ⟨_, rfl⟩
  rw [hN] at H2
  go_enter Tryz.func77, Tryz.ntmps77
  go_wp2_with fail
  refine (isBase_10 _).mono ?_
  rintro e w0 ⟨rfl, rfl⟩
  go_wp2_with fail
  refine H1.out.mono ?_
  rintro e w1 ⟨rfl, hd1⟩
  go_wp2_with fail
  refine (H2.out _).mono ?_
  rintro e w2 ⟨a2, rfl, b2⟩
  have hB := (hd1.below w0.heap.size).trans (b2.mono (hd1.below w0.heap.size).size)
  have hc := below_alloc (w := w2) (.cells #[.int .i64 10, .int .i64 9, .slice none 0 0, .slice a2 N N] 111)
  have hB2 := hB.trans (hc.mono hB.size)
  have hg := h.below hB2
  have hx : (w2.alloc (.cells #[.int .i64 10, .int .i64 9, .slice none 0 0, .slice a2 N N] 111)).cell? ⟨w2.heap.size, 0, none⟩ = some (.int .i64 10) := by go_simp
  have H4 := hide' (H3.out _ _ hg hx)
  go_wp2_with fail
  refine wp_loop_rounds 1 ?_
  rw [rounds_succ]
  go_wp2_with fail
  refine H4.out.mono ?_
  rintro e w3 ⟨a3, rfl, h3⟩
  go_wp2
  go_ret2
  exact ⟨a3, rfl, h3.back hB2⟩
set_option maxHeartbeats 1000000 in
theorem digitOf_3 (c : Int) (hc : c = 51) (w : World) (h : Digits w) : Calls Tryz.prog 123 #[.int .u8 c, .int .i64 10] w fun e w' => e = .returned (.int .i64 3) ∧ w' = w := by
  subst hc
  obtain ⟨h0, h1, h2, h3, h4⟩ := h
  go_enter Tryz.func123, Tryz.ntmps123
  go_wp2
  go_rounds 5
  all_goals go_ret
  all_goals exact ⟨rfl, rfl⟩
set_option maxHeartbeats 1000000 in
theorem isText_3 (w : World) (h : Digits w) : Calls Tryz.prog 100 #[.string ⟨#[51]⟩, .int .i64 10] w fun e w' => e = .returned (.bool true) ∧ Dr w w' := by
  have hs : (⟨#[51]⟩ : ByteArray).size = 1 := rfl
  have he : ((⟨#[51]⟩ : ByteArray) == ByteArray.empty) = false := by decide
  go_enter Tryz.func100, Tryz.ntmps100
  go_wp2
  go_quiet (fail)
  go_wp2
  refine wp_loop_rounds 2 ?_
  rw [rounds_succ]
  go_wp2_with (go_at_call 123; refine (digitOf_3 _ rfl _ (by exact h)).mono ?_; rintro e w1 ⟨rfl, rfl⟩)
  rw [rounds_succ]
  go_wp2
  go_ret
  exact ⟨rfl, ⟨_, rfl⟩⟩
set_option maxHeartbeats 2000000 in
theorem readLimb_3 (b : Nat) (w : World) (h : Digits w) (hb : w.cell? ⟨b, 0, none⟩ = some (.int .i64 10)) : Calls Tryz.prog 124 #[.pointer (some ⟨b, 0, none⟩), .string ⟨#[51]⟩] w fun e w' => ∃ a, e = .returned (.slice a (ln 3) (ln 3)) ∧ New w w' a 3 (ln 3) := by
  have hs : (⟨#[51]⟩ : ByteArray).size = 1 := rfl
  have HD := hide' (fun c w' (hc : c = 51) k => digitOf_3 c hc w' k)
  have HO := hide' (fun w' => Of_any 3 w' (by omega))
  go_enter Tryz.func124, Tryz.ntmps124
  go_wp2_with fail
  refine wp_loop_rounds 2 ?_
  rw [rounds_succ]
  go_wp2_with fail
  go_quiet ((go_at_call 123; exact Calls.quiet_of_same (HD.out _ _ rfl (by exact h))))
  go_wp2_with fail
  rw [rounds_succ]
  go_wp2_with fail
  refine (HO.out _).mono ?_
  rintro e w1 ⟨a1, rfl, h1⟩
  go_wp2
  go_ret
  exact ⟨a1, rfl, h1.back (below_drewN (Below.refl _ _))⟩
set_option maxHeartbeats 2000000 in
theorem read_3 (b : Nat) (w : World) (h : Digits w) (hb : w.cell? ⟨b, 0, none⟩ = some (.int .i64 10)) : Calls Tryz.prog 103 #[.pointer (some ⟨b, 0, none⟩), .string ⟨#[51]⟩, .int .i64 0] w fun e w' => ∃ a, e = .returned (.slice a (ln 3) (ln 3)) ∧ New w w' a 3 (ln 3) := by
  have HR := hide' (readLimb_3 b w h hb)
  go_enter Tryz.func103, Tryz.ntmps103
  go_wp2_with fail
  refine HR.out.mono ?_
  rintro e w1 ⟨a1, rfl, h1⟩
  go_wp2
  go_ret
  exact ⟨a1, rfl, h1⟩
set_option maxHeartbeats 2000000 in
theorem Parse_3 (w : World) (h : Digits w) : Calls Tryz.prog 77 #[.string ⟨#[51]⟩, .int .i64 10] w fun e w' => ∃ a, e = .returned (.tuple #[.slice a (ln 3) (ln 3), .int .i64 0]) ∧ New w w' a 3 (ln 3) := by
  have hs : (⟨#[51]⟩ : ByteArray).size = 1 := rfl
  have H1 := hide' (isText_3 w h)
  have H2 := hide' scaleOf_10
  have H3 := hide' (fun b w' k1 k2 => read_3 b w' k1 k2)
  obtain ⟨N, hN⟩ : ∃ N : Nat, ln 1000000000 = N := ⟨_, rfl⟩
  rw [hN] at H2
  go_enter Tryz.func77, Tryz.ntmps77
  go_wp2_with fail
  refine (isBase_10 _).mono ?_
  rintro e w0 ⟨rfl, rfl⟩
  go_wp2_with fail
  refine H1.out.mono ?_
  rintro e w1 ⟨rfl, hd1⟩
  go_wp2_with fail
  refine (H2.out _).mono ?_
  rintro e w2 ⟨a2, rfl, b2⟩
  have hB := (hd1.below w0.heap.size).trans (b2.mono (hd1.below w0.heap.size).size)
  have hc := below_alloc (w := w2) (.cells #[.int .i64 10, .int .i64 9, .slice none 0 0, .slice a2 N N] 111)
  have hB2 := hB.trans (hc.mono hB.size)
  have hg := h.below hB2
  have hx : (w2.alloc (.cells #[.int .i64 10, .int .i64 9, .slice none 0 0, .slice a2 N N] 111)).cell? ⟨w2.heap.size, 0, none⟩ = some (.int .i64 10) := by go_simp
  have H4 := hide' (H3.out _ _ hg hx)
  go_wp2_with fail
  refine wp_loop_rounds 1 ?_
  rw [rounds_succ]
  go_wp2_with fail
  refine H4.out.mono ?_
  rintro e w3 ⟨a3, rfl, h3⟩
  go_wp2
  go_ret2
  exact ⟨a3, rfl, h3.back hB2⟩
end Go.Proofs.YtjbeagbkjmaeeaaGreatDoor

namespace Go.Proofs.YtjbeagbkjmaeeaaGreatDoor
open Go.RowKit
set_option linter.unusedVariables false

theorem hasPrefix_3 (w : World) : Calls Tryz.prog 75 #[.string ⟨#[51]⟩, .string ⟨#[45]⟩] w fun e w' => e = .returned (.bool false) ∧ w' = w := by
  have h1 : (⟨#[51]⟩ : ByteArray).size = 1 := rfl
  have h2 : (⟨#[45]⟩ : ByteArray).size = 1 := rfl
  have h3 : (((⟨#[51]⟩ : ByteArray).extract 0 1).toList == [45]) = false := by decide +kernel
  go_enter Tryz.func75, Tryz.ntmps75
  go_wp2
  go_ret
  exact ⟨rfl, rfl⟩
theorem cutPrefix1_3 (w : World) : Calls Tryz.prog 43 #[.string ⟨#[51]⟩, .string ⟨#[45]⟩] w fun e w' => e = .returned (.tuple #[.string ⟨#[51]⟩, .bool false]) ∧ w' = w := by
  have h1 : (⟨#[51]⟩ : ByteArray).size = 1 := rfl
  have h2 : (⟨#[45]⟩ : ByteArray).size = 1 := rfl
  have e1 : True := trivial
  go_enter Tryz.func43, Tryz.ntmps43
  go_wp2_with fail
  refine (hasPrefix_3 _).mono ?_
  rintro e w1 ⟨rfl, rfl⟩
  go_wp2
  go_ret2
  exact ⟨by first | rfl | simp only [e1], rfl⟩
theorem cutPrefix_3 (w : World) : Calls Tryz.prog 21 #[.string ⟨#[51]⟩, .string ⟨#[45]⟩] w fun e w' => e = .returned (.tuple #[.string ⟨#[51]⟩, .bool false]) ∧ w' = w := by
  go_enter Tryz.func21, Tryz.ntmps21
  go_wp2_with fail
  refine (cutPrefix1_3 _).mono ?_
  rintro e w1 ⟨rfl, rfl⟩
  go_wp2
  go_ret2
  exact ⟨rfl, rfl⟩
theorem hasPrefix_m2 (w : World) : Calls Tryz.prog 75 #[.string ⟨#[45, 50]⟩, .string ⟨#[45]⟩] w fun e w' => e = .returned (.bool true) ∧ w' = w := by
  have h1 : (⟨#[45, 50]⟩ : ByteArray).size = 2 := rfl
  have h2 : (⟨#[45]⟩ : ByteArray).size = 1 := rfl
  have h3 : (((⟨#[45, 50]⟩ : ByteArray).extract 0 1).toList == [45]) = true := by decide +kernel
  go_enter Tryz.func75, Tryz.ntmps75
  go_wp2
  go_ret
  exact ⟨rfl, rfl⟩
theorem cutPrefix1_m2 (w : World) : Calls Tryz.prog 43 #[.string ⟨#[45, 50]⟩, .string ⟨#[45]⟩] w fun e w' => e = .returned (.tuple #[.string ⟨#[50]⟩, .bool true]) ∧ w' = w := by
  have h1 : (⟨#[45, 50]⟩ : ByteArray).size = 2 := rfl
  have h2 : (⟨#[45]⟩ : ByteArray).size = 1 := rfl
  have e1 : (⟨#[45, 50]⟩ : ByteArray).extract 1 2 = ⟨#[50]⟩ := by decide +kernel
  go_enter Tryz.func43, Tryz.ntmps43
  go_wp2_with fail
  refine (hasPrefix_m2 _).mono ?_
  rintro e w1 ⟨rfl, rfl⟩
  go_wp2
  go_ret2
  exact ⟨by first | rfl | simp only [e1], rfl⟩
theorem cutPrefix_m2 (w : World) : Calls Tryz.prog 21 #[.string ⟨#[45, 50]⟩, .string ⟨#[45]⟩] w fun e w' => e = .returned (.tuple #[.string ⟨#[50]⟩, .bool true]) ∧ w' = w := by
  go_enter Tryz.func21, Tryz.ntmps21
  go_wp2_with fail
  refine (cutPrefix1_m2 _).mono ?_
  rintro e w1 ⟨rfl, rfl⟩
  go_wp2
  go_ret2
  exact ⟨rfl, rfl⟩
theorem hasPrefix_pm2 (w : World) : Calls Tryz.prog 75 #[.string ⟨#[45, 50]⟩, .string ⟨#[43]⟩] w fun e w' => e = .returned (.bool false) ∧ w' = w := by
  have h1 : (⟨#[45, 50]⟩ : ByteArray).size = 2 := rfl
  have h2 : (⟨#[43]⟩ : ByteArray).size = 1 := rfl
  have h3 : (((⟨#[45, 50]⟩ : ByteArray).extract 0 1).toList == [43]) = false := by decide +kernel
  go_enter Tryz.func75, Tryz.ntmps75
  go_wp2
  go_ret
  exact ⟨rfl, rfl⟩
theorem trimPrefix1_m2 (w : World) : Calls Tryz.prog 42 #[.string ⟨#[45, 50]⟩, .string ⟨#[43]⟩] w fun e w' => e = .returned (.string ⟨#[45, 50]⟩) ∧ w' = w := by
  go_enter Tryz.func42, Tryz.ntmps42
  go_wp2_with fail
  refine (hasPrefix_pm2 _).mono ?_
  rintro e w1 ⟨rfl, rfl⟩
  go_wp2
  go_ret
  exact ⟨rfl, rfl⟩
theorem trimPrefix_m2 (w : World) : Calls Tryz.prog 20 #[.string ⟨#[45, 50]⟩, .string ⟨#[43]⟩] w fun e w' => e = .returned (.string ⟨#[45, 50]⟩) ∧ w' = w := by
  go_enter Tryz.func20, Tryz.ntmps20
  go_wp2_with fail
  refine (trimPrefix1_m2 _).mono ?_
  rintro e w1 ⟨rfl, rfl⟩
  go_wp2
  go_ret
  exact ⟨rfl, rfl⟩
theorem hasSuffix_v (w : World) : Calls Tryz.prog 68 #[.string ⟨#[51, 45, 50, 100]⟩, .string ⟨#[100]⟩] w fun e w' => e = .returned (.bool true) ∧ w' = w := by
  have h1 : (⟨#[51, 45, 50, 100]⟩ : ByteArray).size = 4 := rfl
  have h2 : (⟨#[100]⟩ : ByteArray).size = 1 := rfl
  have h3 : (((⟨#[51, 45, 50, 100]⟩ : ByteArray).extract 3 4).toList == [100]) = true := by decide +kernel
  go_enter Tryz.func68, Tryz.ntmps68
  go_wp2
  go_ret
  exact ⟨rfl, rfl⟩
theorem cutSuffix1_v (w : World) : Calls Tryz.prog 36 #[.string ⟨#[51, 45, 50, 100]⟩, .string ⟨#[100]⟩] w fun e w' => e = .returned (.tuple #[.string ⟨#[51, 45, 50]⟩, .bool true]) ∧ w' = w := by
  have h1 : (⟨#[51, 45, 50, 100]⟩ : ByteArray).size = 4 := rfl
  have h2 : (⟨#[100]⟩ : ByteArray).size = 1 := rfl
  have e1 : (⟨#[51, 45, 50, 100]⟩ : ByteArray).extract 0 3 = ⟨#[51, 45, 50]⟩ := by decide +kernel
  go_enter Tryz.func36, Tryz.ntmps36
  go_wp2_with fail
  refine (hasSuffix_v _).mono ?_
  rintro e w1 ⟨rfl, rfl⟩
  go_wp2
  go_ret2
  exact ⟨by first | rfl | simp only [e1], rfl⟩
theorem cutSuffix_v (w : World) : Calls Tryz.prog 18 #[.string ⟨#[51, 45, 50, 100]⟩, .string ⟨#[100]⟩] w fun e w' => e = .returned (.tuple #[.string ⟨#[51, 45, 50]⟩, .bool true]) ∧ w' = w := by
  go_enter Tryz.func18, Tryz.ntmps18
  go_wp2_with fail
  refine (cutSuffix1_v _).mono ?_
  rintro e w1 ⟨rfl, rfl⟩
  go_wp2
  go_ret2
  exact ⟨rfl, rfl⟩
set_option maxRecDepth 100000 in
theorem indexByte_3s (w : World) : Calls Tryz.prog 96 #[.string ⟨#[51]⟩, .int .u8 47] w fun e w' => e = .returned (.int .i64 (-1)) ∧ w' = w := by
  go_enter Tryz.func96, Tryz.ntmps96
  go_wp2
  rw [run_callFunc_extern Tryz.func121 (by kernel_rfl) (by kernel_rfl) (by kernel_rfl) (e := Extern.BytealgIndexByte.indexByte) (by kernel_rfl), Lib.run_indexByteString]
  simp only [Result.andThen]
  rw [Oper.upon_value]
  go_wp2
  go_ret
  exact ⟨rfl, rfl⟩
set_option maxRecDepth 100000 in
theorem index_3s (w : World) : Calls Tryz.prog 98 #[.string ⟨#[51]⟩, .string ⟨#[47]⟩] w fun e w' => e = .returned (.int .i64 (-1)) ∧ w' = w := by
  have h1 : (⟨#[51]⟩ : ByteArray).size = 1 := rfl
  have h2 : (⟨#[47]⟩ : ByteArray).size = 1 := rfl
  have HI := hide' indexByte_3s
  go_enter Tryz.func98, Tryz.ntmps98
  go_wp2_with fail
  refine (HI.out _).mono ?_
  rintro e w1 ⟨rfl, rfl⟩
  go_wp2
  go_ret
  exact ⟨rfl, rfl⟩
set_option maxRecDepth 100000 in
theorem cut1_3s (w : World) : Calls Tryz.prog 76 #[.string ⟨#[51]⟩, .string ⟨#[47]⟩] w fun e w' => e = .returned (.tuple #[.string ⟨#[51]⟩, .string ⟨#[]⟩, .bool false]) ∧ w' = w := by
  have HI := hide' index_3s
  go_enter Tryz.func76, Tryz.ntmps76
  go_wp2_with fail
  refine (HI.out _).mono ?_
  rintro e w1 ⟨rfl, rfl⟩
  go_wp2
  go_ret3
  exact ⟨rfl, rfl⟩
theorem cut_3s (w : World) : Calls Tryz.prog 44 #[.string ⟨#[51]⟩, .string ⟨#[47]⟩] w fun e w' => e = .returned (.tuple #[.string ⟨#[51]⟩, .string ⟨#[]⟩, .bool false]) ∧ w' = w := by
  have HI := hide' cut1_3s
  go_enter Tryz.func44, Tryz.ntmps44
  go_wp2_with fail
  refine (HI.out _).mono ?_
  rintro e w1 ⟨rfl, rfl⟩
  go_wp2
  go_ret3
  exact ⟨rfl, rfl⟩
set_option maxRecDepth 100000 in
theorem indexByte_3p (w : World) : Calls Tryz.prog 96 #[.string ⟨#[51]⟩, .int .u8 46] w fun e w' => e = .returned (.int .i64 (-1)) ∧ w' = w := by
  go_enter Tryz.func96, Tryz.ntmps96
  go_wp2
  rw [run_callFunc_extern Tryz.func121 (by kernel_rfl) (by kernel_rfl) (by kernel_rfl) (e := Extern.BytealgIndexByte.indexByte) (by kernel_rfl), Lib.run_indexByteString]
  simp only [Result.andThen]
  rw [Oper.upon_value]
  go_wp2
  go_ret
  exact ⟨rfl, rfl⟩
set_option maxRecDepth 100000 in
theorem index_3p (w : World) : Calls Tryz.prog 98 #[.string ⟨#[51]⟩, .string ⟨#[46]⟩] w fun e w' => e = .returned (.int .i64 (-1)) ∧ w' = w := by
  have h1 : (⟨#[51]⟩ : ByteArray).size = 1 := rfl
  have h2 : (⟨#[46]⟩ : ByteArray).size = 1 := rfl
  have HI := hide' indexByte_3p
  go_enter Tryz.func98, Tryz.ntmps98
  go_wp2_with fail
  refine (HI.out _).mono ?_
  rintro e w1 ⟨rfl, rfl⟩
  go_wp2
  go_ret
  exact ⟨rfl, rfl⟩
set_option maxRecDepth 100000 in
theorem cut1_3p (w : World) : Calls Tryz.prog 76 #[.string ⟨#[51]⟩, .string ⟨#[46]⟩] w fun e w' => e = .returned (.tuple #[.string ⟨#[51]⟩, .string ⟨#[]⟩, .bool false]) ∧ w' = w := by
  have HI := hide' index_3p
  go_enter Tryz.func76, Tryz.ntmps76
  go_wp2_with fail
  refine (HI.out _).mono ?_
  rintro e w1 ⟨rfl, rfl⟩
  go_wp2
  go_ret3
  exact ⟨rfl, rfl⟩
theorem cut_3p (w : World) : Calls Tryz.prog 44 #[.string ⟨#[51]⟩, .string ⟨#[46]⟩] w fun e w' => e = .returned (.tuple #[.string ⟨#[51]⟩, .string ⟨#[]⟩, .bool false]) ∧ w' = w := by
  have HI := hide' cut1_3p
  go_enter Tryz.func44, Tryz.ntmps44
  go_wp2_with fail
  refine (HI.out _).mono ?_
  rintro e w1 ⟨rfl, rfl⟩
  go_wp2
  go_ret3
  exact ⟨rfl, rfl⟩
set_option maxRecDepth 100000 in
theorem indexByte_2s (w : World) : Calls Tryz.prog 96 #[.string ⟨#[50]⟩, .int .u8 47] w fun e w' => e = .returned (.int .i64 (-1)) ∧ w' = w := by
  go_enter Tryz.func96, Tryz.ntmps96
  go_wp2
  rw [run_callFunc_extern Tryz.func121 (by kernel_rfl) (by kernel_rfl) (by kernel_rfl) (e := Extern.BytealgIndexByte.indexByte) (by kernel_rfl), Lib.run_indexByteString]
  simp only [Result.andThen]
  rw [Oper.upon_value]
  go_wp2
  go_ret
  exact ⟨rfl, rfl⟩
set_option maxRecDepth 100000 in
theorem index_2s (w : World) : Calls Tryz.prog 98 #[.string ⟨#[50]⟩, .string ⟨#[47]⟩] w fun e w' => e = .returned (.int .i64 (-1)) ∧ w' = w := by
  have h1 : (⟨#[50]⟩ : ByteArray).size = 1 := rfl
  have h2 : (⟨#[47]⟩ : ByteArray).size = 1 := rfl
  have HI := hide' indexByte_2s
  go_enter Tryz.func98, Tryz.ntmps98
  go_wp2_with fail
  refine (HI.out _).mono ?_
  rintro e w1 ⟨rfl, rfl⟩
  go_wp2
  go_ret
  exact ⟨rfl, rfl⟩
set_option maxRecDepth 100000 in
theorem cut1_2s (w : World) : Calls Tryz.prog 76 #[.string ⟨#[50]⟩, .string ⟨#[47]⟩] w fun e w' => e = .returned (.tuple #[.string ⟨#[50]⟩, .string ⟨#[]⟩, .bool false]) ∧ w' = w := by
  have HI := hide' index_2s
  go_enter Tryz.func76, Tryz.ntmps76
  go_wp2_with fail
  refine (HI.out _).mono ?_
  rintro e w1 ⟨rfl, rfl⟩
  go_wp2
  go_ret3
  exact ⟨rfl, rfl⟩
theorem cut_2s (w : World) : Calls Tryz.prog 44 #[.string ⟨#[50]⟩, .string ⟨#[47]⟩] w fun e w' => e = .returned (.tuple #[.string ⟨#[50]⟩, .string ⟨#[]⟩, .bool false]) ∧ w' = w := by
  have HI := hide' cut1_2s
  go_enter Tryz.func44, Tryz.ntmps44
  go_wp2_with fail
  refine (HI.out _).mono ?_
  rintro e w1 ⟨rfl, rfl⟩
  go_wp2
  go_ret3
  exact ⟨rfl, rfl⟩
set_option maxRecDepth 100000 in
theorem indexByte_2p (w : World) : Calls Tryz.prog 96 #[.string ⟨#[50]⟩, .int .u8 46] w fun e w' => e = .returned (.int .i64 (-1)) ∧ w' = w := by
  go_enter Tryz.func96, Tryz.ntmps96
  go_wp2
  rw [run_callFunc_extern Tryz.func121 (by kernel_rfl) (by kernel_rfl) (by kernel_rfl) (e := Extern.BytealgIndexByte.indexByte) (by kernel_rfl), Lib.run_indexByteString]
  simp only [Result.andThen]
  rw [Oper.upon_value]
  go_wp2
  go_ret
  exact ⟨rfl, rfl⟩
set_option maxRecDepth 100000 in
theorem index_2p (w : World) : Calls Tryz.prog 98 #[.string ⟨#[50]⟩, .string ⟨#[46]⟩] w fun e w' => e = .returned (.int .i64 (-1)) ∧ w' = w := by
  have h1 : (⟨#[50]⟩ : ByteArray).size = 1 := rfl
  have h2 : (⟨#[46]⟩ : ByteArray).size = 1 := rfl
  have HI := hide' indexByte_2p
  go_enter Tryz.func98, Tryz.ntmps98
  go_wp2_with fail
  refine (HI.out _).mono ?_
  rintro e w1 ⟨rfl, rfl⟩
  go_wp2
  go_ret
  exact ⟨rfl, rfl⟩
set_option maxRecDepth 100000 in
theorem cut1_2p (w : World) : Calls Tryz.prog 76 #[.string ⟨#[50]⟩, .string ⟨#[46]⟩] w fun e w' => e = .returned (.tuple #[.string ⟨#[50]⟩, .string ⟨#[]⟩, .bool false]) ∧ w' = w := by
  have HI := hide' index_2p
  go_enter Tryz.func76, Tryz.ntmps76
  go_wp2_with fail
  refine (HI.out _).mono ?_
  rintro e w1 ⟨rfl, rfl⟩
  go_wp2
  go_ret3
  exact ⟨rfl, rfl⟩
theorem cut_2p (w : World) : Calls Tryz.prog 44 #[.string ⟨#[50]⟩, .string ⟨#[46]⟩] w fun e w' => e = .returned (.tuple #[.string ⟨#[50]⟩, .string ⟨#[]⟩, .bool false]) ∧ w' = w := by
  have HI := hide' cut1_2p
  go_enter Tryz.func44, Tryz.ntmps44
  go_wp2_with fail
  refine (HI.out _).mono ?_
  rintro e w1 ⟨rfl, rfl⟩
  go_wp2
  go_ret3
  exact ⟨rfl, rfl⟩
end Go.Proofs.YtjbeagbkjmaeeaaGreatDoor
