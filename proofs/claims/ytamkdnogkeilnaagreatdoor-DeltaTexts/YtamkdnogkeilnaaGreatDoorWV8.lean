/-
  lives: 3 - 2 d is read.
-/
import Derived.Test.YtamkdnogkeilnaaGreatDoorWQ0
import Derived.Handy
import Derived.Lib.Bytealg
import Derived.Test.YtamkdnogkeilnaaGreatDoorWQ2
import Derived.Test.YtamkdnogkeilnaaGreatDoorW5
import Derived.Laws.IdiomStrings
import Derived.Test.YtamkdnogkeilnaaGreatDoorWQN
import Derived.Test.YtamkdnogkeilnaaGreatDoorWD0
namespace Go.Proofs.YtamkdnogkeilnaaGreatDoor
open Go.RowKit
set_option linter.unusedVariables false

/-- the digits' cells -/
def Digits (w : World) : Prop := w.cell? ⟨0, 0, none⟩ = some (.int .u8 48) ∧ w.cell? ⟨0, 1, none⟩ = some (.int .u8 49) ∧ w.cell? ⟨0, 2, none⟩ = some (.int .u8 50) ∧ w.cell? ⟨0, 3, none⟩ = some (.int .u8 51) ∧ w.cell? ⟨0, 4, none⟩ = some (.int .u8 52)
theorem Digits.below {w w' : World} (h : Digits w) (hb : Below w.heap.size w w') : Digits w' := by
  have g : ∀ {p : Addr} {v : Value}, w.cell? p = some v → w'.cell? p = some v := fun {p v} hc => by
    rw [hb.cell (World.block_lt_of_cell? w p hc)]; exact hc
  exact ⟨g h.1, g h.2.1, g h.2.2.1, g h.2.2.2.1, g h.2.2.2.2⟩

set_option maxHeartbeats 1000000 in
theorem digitOf_2 (c : Int) (hc : c = 50) (w : World) (h : Digits w) : Calls Tryz.prog 120 #[.int .u8 c, .int .i64 10] w fun e w' => e = .returned (.int .i64 2) ∧ w' = w := by
  subst hc
  obtain ⟨h0, h1, h2, h3, h4⟩ := h
  go_enter Tryz.func120, Tryz.ntmps120
  go_wp2
  go_rounds 4
  all_goals go_ret
  all_goals exact ⟨rfl, rfl⟩
set_option maxHeartbeats 1000000 in
theorem digitOf_4 (c : Int) (hc : c = 52) (w : World) (h : Digits w) : Calls Tryz.prog 120 #[.int .u8 c, .int .i64 10] w fun e w' => e = .returned (.int .i64 4) ∧ w' = w := by
  subst hc
  obtain ⟨h0, h1, h2, h3, h4⟩ := h
  go_enter Tryz.func120, Tryz.ntmps120
  go_wp2
  go_rounds 6
  all_goals go_ret
  all_goals exact ⟨rfl, rfl⟩

set_option maxHeartbeats 1000000 in
theorem isText_2 (w : World) (h : Digits w) : Calls Tryz.prog 107 #[.string ⟨#[50]⟩, .int .i64 10] w fun e w' => e = .returned (.bool true) ∧ Dr w w' := by
  have hs : (⟨#[50]⟩ : ByteArray).size = 1 := rfl
  have he : ((⟨#[50]⟩ : ByteArray) == ByteArray.empty) = false := by decide
  go_enter Tryz.func107, Tryz.ntmps107
  go_wp2
  go_quiet (fail)
  go_wp2
  refine wp_loop_rounds 2 ?_
  rw [rounds_succ]
  go_wp2_with (go_at_call 120; refine (digitOf_2 _ rfl _ (by exact h)).mono ?_; rintro e w1 ⟨rfl, rfl⟩)
  rw [rounds_succ]
  go_wp2
  go_ret
  exact ⟨rfl, ⟨_, rfl⟩⟩

set_option maxHeartbeats 1000000 in
theorem isText_4 (w : World) (h : Digits w) : Calls Tryz.prog 107 #[.string ⟨#[52]⟩, .int .i64 10] w fun e w' => e = .returned (.bool true) ∧ Dr w w' := by
  have hs : (⟨#[52]⟩ : ByteArray).size = 1 := rfl
  have he : ((⟨#[52]⟩ : ByteArray) == ByteArray.empty) = false := by decide
  go_enter Tryz.func107, Tryz.ntmps107
  go_wp2
  go_quiet (fail)
  go_wp2
  refine wp_loop_rounds 2 ?_
  rw [rounds_succ]
  go_wp2_with (go_at_call 120; refine (digitOf_4 _ rfl _ (by exact h)).mono ?_; rintro e w1 ⟨rfl, rfl⟩)
  rw [rounds_succ]
  go_wp2
  go_ret
  exact ⟨rfl, ⟨_, rfl⟩⟩

theorem isBase_10 (w : World) : Calls Tryz.prog 72 #[.int .i64 10] w fun e w' => e = .returned (.bool true) ∧ w' = w := by
  go_enter Tryz.func72, Tryz.ntmps72
  go_wp2
  go_ret
  exact ⟨rfl, rfl⟩

set_option maxHeartbeats 2000000 in
theorem scaleOf_10 (w : World) : Calls Tryz.prog 74 #[.int .i64 10] w fun e w' => ∃ a, e = .returned (.agg #[.int .i64 10, .int .i64 9, .slice none 0 0, .slice a (ln 1000000000) (ln 1000000000)]) ∧ Below w.heap.size w w' := by
  obtain ⟨N, hN⟩ : ∃ N : Nat, 1000000000 = N := ⟨_, rfl⟩
  have HO' : ∀ w', Calls Tryz.prog 81 #[.int .u64 1000000000] w' fun e w'' => ∃ ao, e = .returned (.slice ao (ln N) (ln N)) ∧ New w' w'' ao N (ln N) := fun w' => by subst hN; exact Of_any 1000000000 w' (by omega)
  have HO := hide' HO'
  rw [hN]
  clear HO' hN
  have hB := below_alloc (w := w) (.cells #[.int .i64 0, .int .i64 0, .slice none 0 0, .slice none 0 0] 98)
  have hR := row_new w #[.int .i64 0, .int .i64 0, .slice none 0 0, .slice none 0 0] 98
  have c0 : (w.alloc (.cells #[.int .i64 0, .int .i64 0, .slice none 0 0, .slice none 0 0] 98)).cell? ⟨w.heap.size, 0, none⟩ = some (.int .i64 0) := by go_simp
  have c1 : (w.alloc (.cells #[.int .i64 0, .int .i64 0, .slice none 0 0, .slice none 0 0] 98)).cell? ⟨w.heap.size, 1, none⟩ = some (.int .i64 0) := by go_simp
  have c2 : (w.alloc (.cells #[.int .i64 0, .int .i64 0, .slice none 0 0, .slice none 0 0] 98)).cell? ⟨w.heap.size, 2, none⟩ = some (.slice none 0 0) := by go_simp
  have c3 : (w.alloc (.cells #[.int .i64 0, .int .i64 0, .slice none 0 0, .slice none 0 0] 98)).cell? ⟨w.heap.size, 3, none⟩ = some (.slice none 0 0) := by go_simp
  go_enter Tryz.func74, Tryz.ntmps74
  go_wp2_with fail
  refine wp_loop_rounds 10 ?_
  repeat (rw [rounds_succ]; go_wp2_with fail)
  refine (HO.out _).mono ?_
  rintro e w1 ⟨a1, rfl, h1⟩
  have b1 := h1.below
  replace c0 := below_cell b1 c0
  replace c1 := below_cell b1 c1
  replace c2 := below_cell b1 c2
  replace c3 := below_cell b1 c3
  replace hR := below_row b1 hR
  have fz := fun o => hR.frozen o
  go_wp2
  refine bodyPost_ret (v := .agg #[.int .i64 10, .int .i64 9, .slice none 0 0, .slice a1 (ln N) (ln N)]) (by rw [results_cell rfl]; go_simp) rfl ?_
  exact ⟨a1, rfl, bset (bset (bset (bset (hB.trans (b1.mono hB.size)) (Nat.le_refl _)) (Nat.le_refl _)) (Nat.le_refl _)) (Nat.le_refl _)⟩


set_option maxHeartbeats 2000000 in
theorem readLimb_2 (b : Nat) (w : World) (h : Digits w) (hb : w.cell? ⟨b, 0, none⟩ = some (.int .i64 10)) : Calls Tryz.prog 121 #[.pointer (some ⟨b, 0, none⟩), .string ⟨#[50]⟩] w fun e w' => ∃ a, e = .returned (.slice a (ln 2) (ln 2)) ∧ New w w' a 2 (ln 2) := by
  have hs : (⟨#[50]⟩ : ByteArray).size = 1 := rfl
  have HD := hide' (fun c w' (hc : c = 50) k => digitOf_2 c hc w' k)
  have HO := hide' (fun w' => Of_any 2 w' (by omega))
  go_enter Tryz.func121, Tryz.ntmps121
  go_wp2_with fail
  refine wp_loop_rounds 2 ?_
  rw [rounds_succ]
  go_wp2_with fail
  go_quiet ((go_at_call 120; exact Calls.quiet_of_same (HD.out _ _ rfl (by exact h))))
  go_wp2_with fail
  rw [rounds_succ]
  go_wp2_with fail
  refine (HO.out _).mono ?_
  rintro e w1 ⟨a1, rfl, h1⟩
  go_wp2
  go_ret
  exact ⟨a1, rfl, h1.back (below_drewN (Below.refl _ _))⟩

set_option maxHeartbeats 2000000 in
theorem read_2 (b : Nat) (w : World) (h : Digits w) (hb : w.cell? ⟨b, 0, none⟩ = some (.int .i64 10)) : Calls Tryz.prog 108 #[.pointer (some ⟨b, 0, none⟩), .string ⟨#[50]⟩, .int .i64 0] w fun e w' => ∃ a, e = .returned (.slice a (ln 2) (ln 2)) ∧ New w w' a 2 (ln 2) := by
  have HR := hide' (readLimb_2 b w h hb)
  go_enter Tryz.func108, Tryz.ntmps108
  go_wp2_with fail
  refine HR.out.mono ?_
  rintro e w1 ⟨a1, rfl, h1⟩
  go_wp2
  go_ret
  exact ⟨a1, rfl, h1⟩

set_option maxHeartbeats 2000000 in
theorem Parse_2 (w : World) (h : Digits w) : Calls Tryz.prog 92 #[.string ⟨#[50]⟩, .int .i64 10] w fun e w' => ∃ a, e = .returned (.tuple #[.slice a (ln 2) (ln 2), .int .i64 0]) ∧ New w w' a 2 (ln 2) := by
  have hs : (⟨#[50]⟩ : ByteArray).size = 1 := rfl
  have H1 := hide' (isText_2 w h)
  have H2 := hide' scaleOf_10
  have H3 := hide' (fun b w' k1 k2 => read_2 b w' k1 k2)
  obtain ⟨N, hN⟩ : ∃ N : Nat, ln 1000000000 = N := ⟨_, rfl⟩
  rw [hN] at H2
  go_enter Tryz.func92, Tryz.ntmps92
  go_wp2_with fail
  refine (isBase_10 _).mono ?_
  rintro e w0 ⟨rfl, rfl⟩
  go_wp2_with fail
  refine H1.out.mono ?_
  rintro e w1 ⟨rfl, hd1⟩
  go_wp2_with fail
  refine (H2.out _).mono ?_
  rintro e w2 ⟨a2, rfl, b2⟩
  have hB := (hd1.below w0.heap.size).trans (b2.mono (hd1.below w0.heap.size).size)
  have hc := below_alloc (w := w2) (.cells #[.int .i64 10, .int .i64 9, .slice none 0 0, .slice a2 N N] 98)
  have hB2 := hB.trans (hc.mono hB.size)
  have hg := h.below hB2
  have hx : (w2.alloc (.cells #[.int .i64 10, .int .i64 9, .slice none 0 0, .slice a2 N N] 98)).cell? ⟨w2.heap.size, 0, none⟩ = some (.int .i64 10) := by go_simp
  have H4 := hide' (H3.out _ _ hg hx)
  go_wp2_with fail
  refine wp_loop_rounds 1 ?_
  rw [rounds_succ]
  go_wp2_with fail
  refine H4.out.mono ?_
  rintro e w3 ⟨a3, rfl, h3⟩
  go_wp2
  go_ret2
  exact ⟨a3, rfl, h3.back hB2⟩

set_option maxHeartbeats 2000000 in
theorem readLimb_4 (b : Nat) (w : World) (h : Digits w) (hb : w.cell? ⟨b, 0, none⟩ = some (.int .i64 10)) : Calls Tryz.prog 121 #[.pointer (some ⟨b, 0, none⟩), .string ⟨#[52]⟩] w fun e w' => ∃ a, e = .returned (.slice a (ln 4) (ln 4)) ∧ New w w' a 4 (ln 4) := by
  have hs : (⟨#[52]⟩ : ByteArray).size = 1 := rfl
  have HD := hide' (fun c w' (hc : c = 52) k => digitOf_4 c hc w' k)
  have HO := hide' (fun w' => Of_any 4 w' (by omega))
  go_enter Tryz.func121, Tryz.ntmps121
  go_wp2_with fail
  refine wp_loop_rounds 2 ?_
  rw [rounds_succ]
  go_wp2_with fail
  go_quiet ((go_at_call 120; exact Calls.quiet_of_same (HD.out _ _ rfl (by exact h))))
  go_wp2_with fail
  rw [rounds_succ]
  go_wp2_with fail
  refine (HO.out _).mono ?_
  rintro e w1 ⟨a1, rfl, h1⟩
  go_wp2
  go_ret
  exact ⟨a1, rfl, h1.back (below_drewN (Below.refl _ _))⟩

set_option maxHeartbeats 2000000 in
theorem read_4 (b : Nat) (w : World) (h : Digits w) (hb : w.cell? ⟨b, 0, none⟩ = some (.int .i64 10)) : Calls Tryz.prog 108 #[.pointer (some ⟨b, 0, none⟩), .string ⟨#[52]⟩, .int .i64 0] w fun e w' => ∃ a, e = .returned (.slice a (ln 4) (ln 4)) ∧ New w w' a 4 (ln 4) := by
  have HR := hide' (readLimb_4 b w h hb)
  go_enter Tryz.func108, Tryz.ntmps108
  go_wp2_with fail
  refine HR.out.mono ?_
  rintro e w1 ⟨a1, rfl, h1⟩
  go_wp2
  go_ret
  exact ⟨a1, rfl, h1⟩

set_option maxHeartbeats 2000000 in
theorem Parse_4 (w : World) (h : Digits w) : Calls Tryz.prog 92 #[.string ⟨#[52]⟩, .int .i64 10] w fun e w' => ∃ a, e = .returned (.tuple #[.slice a (ln 4) (ln 4), .int .i64 0]) ∧ New w w' a 4 (ln 4) := by
  have hs : (⟨#[52]⟩ : ByteArray).size = 1 := rfl
  have H1 := hide' (isText_4 w h)
  have H2 := hide' scaleOf_10
  have H3 := hide' (fun b w' k1 k2 => read_4 b w' k1 k2)
  obtain ⟨N, hN⟩ : ∃ N : Nat, ln 1000000000 = N := ⟨_, rfl⟩
  rw [hN] at H2
  go_enter Tryz.func92, Tryz.ntmps92
  go_wp2_with fail
  refine (isBase_10 _).mono ?_
  rintro e w0 ⟨rfl, rfl⟩
  go_wp2_with fail
  refine H1.out.mono ?_
  rintro e w1 ⟨rfl, hd1⟩
  go_wp2_with fail
  refine (H2.out _).mono ?_
  rintro e w2 ⟨a2, rfl, b2⟩
  have hB := (hd1.below w0.heap.size).trans (b2.mono (hd1.below w0.heap.size).size)
  have hc := below_alloc (w := w2) (.cells #[.int .i64 10, .int .i64 9, .slice none 0 0, .slice a2 N N] 98)
  have hB2 := hB.trans (hc.mono hB.size)
  have hg := h.below hB2
  have hx : (w2.alloc (.cells #[.int .i64 10, .int .i64 9, .slice none 0 0, .slice a2 N N] 98)).cell? ⟨w2.heap.size, 0, none⟩ = some (.int .i64 10) := by go_simp
  have H4 := hide' (H3.out _ _ hg hx)
  go_wp2_with fail
  refine wp_loop_rounds 1 ?_
  rw [rounds_succ]
  go_wp2_with fail
  refine H4.out.mono ?_
  rintro e w3 ⟨a3, rfl, h3⟩
  go_wp2
  go_ret2
  exact ⟨a3, rfl, h3.back hB2⟩
end Go.Proofs.YtamkdnogkeilnaaGreatDoor

namespace Go.Proofs.YtamkdnogkeilnaaGreatDoor
open Go.RowKit
set_option linter.unusedVariables false

set_option maxHeartbeats 1000000 in
theorem digitOf_1 (c : Int) (hc : c = 49) (w : World) (h : Digits w) : Calls Tryz.prog 120 #[.int .u8 c, .int .i64 10] w fun e w' => e = .returned (.int .i64 1) ∧ w' = w := by
  subst hc
  obtain ⟨h0, h1, h2, h3, h4⟩ := h
  go_enter Tryz.func120, Tryz.ntmps120
  go_wp2
  go_rounds 3
  all_goals go_ret
  all_goals exact ⟨rfl, rfl⟩
set_option maxHeartbeats 1000000 in
theorem isText_1 (w : World) (h : Digits w) : Calls Tryz.prog 107 #[.string ⟨#[49]⟩, .int .i64 10] w fun e w' => e = .returned (.bool true) ∧ Dr w w' := by
  have hs : (⟨#[49]⟩ : ByteArray).size = 1 := rfl
  have he : ((⟨#[49]⟩ : ByteArray) == ByteArray.empty) = false := by decide
  go_enter Tryz.func107, Tryz.ntmps107
  go_wp2
  go_quiet (fail)
  go_wp2
  refine wp_loop_rounds 2 ?_
  rw [rounds_succ]
  go_wp2_with (go_at_call 120; refine (digitOf_1 _ rfl _ (by exact h)).mono ?_; rintro e w1 ⟨rfl, rfl⟩)
  rw [rounds_succ]
  go_wp2
  go_ret
  exact ⟨rfl, ⟨_, rfl⟩⟩
set_option maxHeartbeats 2000000 in
theorem readLimb_1 (b : Nat) (w : World) (h : Digits w) (hb : w.cell? ⟨b, 0, none⟩ = some (.int .i64 10)) : Calls Tryz.prog 121 #[.pointer (some ⟨b, 0, none⟩), .string ⟨#[49]⟩] w fun e w' => ∃ a, e = .returned (.slice a (ln 1) (ln 1)) ∧ New w w' a 1 (ln 1) := by
  have hs : (⟨#[49]⟩ : ByteArray).size = 1 := rfl
  have HD := hide' (fun c w' (hc : c = 49) k => digitOf_1 c hc w' k)
  have HO := hide' (fun w' => Of_any 1 w' (by omega))
  go_enter Tryz.func121, Tryz.ntmps121
  go_wp2_with fail
  refine wp_loop_rounds 2 ?_
  rw [rounds_succ]
  go_wp2_with fail
  go_quiet ((go_at_call 120; exact Calls.quiet_of_same (HD.out _ _ rfl (by exact h))))
  go_wp2_with fail
  rw [rounds_succ]
  go_wp2_with fail
  refine (HO.out _).mono ?_
  rintro e w1 ⟨a1, rfl, h1⟩
  go_wp2
  go_ret
  exact ⟨a1, rfl, h1.back (below_drewN (Below.refl _ _))⟩
set_option maxHeartbeats 2000000 in
theorem read_1 (b : Nat) (w : World) (h : Digits w) (hb : w.cell? ⟨b, 0, none⟩ = some (.int .i64 10)) : Calls Tryz.prog 108 #[.pointer (some ⟨b, 0, none⟩), .string ⟨#[49]⟩, .int .i64 0] w fun e w' => ∃ a, e = .returned (.slice a (ln 1) (ln 1)) ∧ New w w' a 1 (ln 1) := by
  have HR := hide' (readLimb_1 b w h hb)
  go_enter Tryz.func108, Tryz.ntmps108
  go_wp2_with fail
  refine HR.out.mono ?_
  rintro e w1 ⟨a1, rfl, h1⟩
  go_wp2
  go_ret
  exact ⟨a1, rfl, h1⟩
set_option maxHeartbeats 2000000 in
theorem Parse_1 (w : World) (h : Digits w) : Calls Tryz.prog 92 #[.string ⟨#[49]⟩, .int .i64 10] w fun e w' => ∃ a, e = .returned (.tuple #[.slice a (ln 1) (ln 1), .int .i64 0]) ∧ New w w' a 1 (ln 1) := by
  have hs : (⟨#[49]⟩ : ByteArray).size = 1 := rfl
  have H1 := hide' (isText_1 w h)
  have H2 := hide' scaleOf_10
  have H3 := hide' (fun b w' k1 k2 => read_1 b w' k1 k2)
  obtain ⟨N, hN⟩ : ∃ N : Nat, ln 1000000000 = N := ⟨_, rfl⟩
  rw [hN] at H2
  go_enter Tryz.func92, Tryz.ntmps92
  go_wp2_with fail
  refine (isBase_10 _).mono ?_
  rintro e w0 ⟨rfl, rfl⟩
  go_wp2_with fail
  refine H1.out.mono ?_
  rintro e w1 ⟨rfl, hd1⟩
  go_wp2_with fail
  refine (H2.out _).mono ?_
  rintro e w2 ⟨a2, rfl, b2⟩
  have hB := (hd1.below w0.heap.size).trans (b2.mono (hd1.below w0.heap.size).size)
  have hc := below_alloc (w := w2) (.cells #[.int .i64 10, .int .i64 9, .slice none 0 0, .slice a2 N N] 98)
  have hB2 := hB.trans (hc.mono hB.size)
  have hg := h.below hB2
  have hx : (w2.alloc (.cells #[.int .i64 10, .int .i64 9, .slice none 0 0, .slice a2 N N] 98)).cell? ⟨w2.heap.size, 0, none⟩ = some (.int .i64 10) := by go_simp
  have H4 := hide' (H3.out _ _ hg hx)
  go_wp2_with fail
  refine wp_loop_rounds 1 ?_
  rw [rounds_succ]
  go_wp2_with fail
  refine H4.out.mono ?_
  rintro e w3 ⟨a3, rfl, h3⟩
  go_wp2
  go_ret2
  exact ⟨a3, rfl, h3.back hB2⟩
set_option maxHeartbeats 1000000 in
theorem digitOf_3 (c : Int) (hc : c = 51) (w : World) (h : Digits w) : Calls Tryz.prog 120 #[.int .u8 c, .int .i64 10] w fun e w' => e = .returned (.int .i64 3) ∧ w' = w := by
  subst hc
  obtain ⟨h0, h1, h2, h3, h4⟩ := h
  go_enter Tryz.func120, Tryz.ntmps120
  go_wp2
  go_rounds 5
  all_goals go_ret
  all_goals exact ⟨rfl, rfl⟩
set_option maxHeartbeats 1000000 in
theorem isText_3 (w : World) (h : Digits w) : Calls Tryz.prog 107 #[.string ⟨#[51]⟩, .int .i64 10] w fun e w' => e = .returned (.bool true) ∧ Dr w w' := by
  have hs : (⟨#[51]⟩ : ByteArray).size = 1 := rfl
  have he : ((⟨#[51]⟩ : ByteArray) == ByteArray.empty) = false := by decide
  go_enter Tryz.func107, Tryz.ntmps107
  go_wp2
  go_quiet (fail)
  go_wp2
  refine wp_loop_rounds 2 ?_
  rw [rounds_succ]
  go_wp2_with (go_at_call 120; refine (digitOf_3 _ rfl _ (by exact h)).mono ?_; rintro e w1 ⟨rfl, rfl⟩)
  rw [rounds_succ]
  go_wp2
  go_ret
  exact ⟨rfl, ⟨_, rfl⟩⟩
set_option maxHeartbeats 2000000 in
theorem readLimb_3 (b : Nat) (w : World) (h : Digits w) (hb : w.cell? ⟨b, 0, none⟩ = some (.int .i64 10)) : Calls Tryz.prog 121 #[.pointer (some ⟨b, 0, none⟩), .string ⟨#[51]⟩] w fun e w' => ∃ a, e = .returned (.slice a (ln 3) (ln 3)) ∧ New w w' a 3 (ln 3) := by
  have hs : (⟨#[51]⟩ : ByteArray).size = 1 := rfl
  have HD := hide' (fun c w' (hc : c = 51) k => digitOf_3 c hc w' k)
  have HO := hide' (fun w' => Of_any 3 w' (by omega))
  go_enter Tryz.func121, Tryz.ntmps121
  go_wp2_with fail
  refine wp_loop_rounds 2 ?_
  rw [rounds_succ]
  go_wp2_with fail
  go_quiet ((go_at_call 120; exact Calls.quiet_of_same (HD.out _ _ rfl (by exact h))))
  go_wp2_with fail
  rw [rounds_succ]
  go_wp2_with fail
  refine (HO.out _).mono ?_
  rintro e w1 ⟨a1, rfl, h1⟩
  go_wp2
  go_ret
  exact ⟨a1, rfl, h1.back (below_drewN (Below.refl _ _))⟩
set_option maxHeartbeats 2000000 in
theorem read_3 (b : Nat) (w : World) (h : Digits w) (hb : w.cell? ⟨b, 0, none⟩ = some (.int .i64 10)) : Calls Tryz.prog 108 #[.pointer (some ⟨b, 0, none⟩), .string ⟨#[51]⟩, .int .i64 0] w fun e w' => ∃ a, e = .returned (.slice a (ln 3) (ln 3)) ∧ New w w' a 3 (ln 3) := by
  have HR := hide' (readLimb_3 b w h hb)
  go_enter Tryz.func108, Tryz.ntmps108
  go_wp2_with fail
  refine HR.out.mono ?_
  rintro e w1 ⟨a1, rfl, h1⟩
  go_wp2
  go_ret
  exact ⟨a1, rfl, h1⟩
set_option maxHeartbeats 2000000 in
theorem Parse_3 (w : World) (h : Digits w) : Calls Tryz.prog 92 #[.string ⟨#[51]⟩, .int .i64 10] w fun e w' => ∃ a, e = .returned (.tuple #[.slice a (ln 3) (ln 3), .int .i64 0]) ∧ New w w' a 3 (ln 3) := by
  have hs : (⟨#[51]⟩ : ByteArray).size = 1 := rfl
  have H1 := hide' (isText_3 w h)
  have H2 := hide' scaleOf_10
  have H3 := hide' (fun b w' k1 k2 => read_3 b w' k1 k2)
  obtain ⟨N, hN⟩ : ∃ N : Nat, ln 1000000000 = N := ⟨_, rfl⟩
  rw [hN] at H2
  go_enter Tryz.func92, Tryz.ntmps92
  go_wp2_with fail
  refine (isBase_10 _).mono ?_
  rintro e w0 ⟨rfl, rfl⟩
  go_wp2_with fail
  refine H1.out.mono ?_
  rintro e w1 ⟨rfl, hd1⟩
  go_wp2_with fail
  refine (H2.out _).mono ?_
  rintro e w2 ⟨a2, rfl, b2⟩
  have hB := (hd1.below w0.heap.size).trans (b2.mono (hd1.below w0.heap.size).size)
  have hc := below_alloc (w := w2) (.cells #[.int .i64 10, .int .i64 9, .slice none 0 0, .slice a2 N N] 98)
  have hB2 := hB.trans (hc.mono hB.size)
  have hg := h.below hB2
  have hx : (w2.alloc (.cells #[.int .i64 10, .int .i64 9, .slice none 0 0, .slice a2 N N] 98)).cell? ⟨w2.heap.size, 0, none⟩ = some (.int .i64 10) := by go_simp
  have H4 := hide' (H3.out _ _ hg hx)
  go_wp2_with fail
  refine wp_loop_rounds 1 ?_
  rw [rounds_succ]
  go_wp2_with fail
  refine H4.out.mono ?_
  rintro e w3 ⟨a3, rfl, h3⟩
  go_wp2
  go_ret2
  exact ⟨a3, rfl, h3.back hB2⟩
end Go.Proofs.YtamkdnogkeilnaaGreatDoor

namespace Go.Proofs.YtamkdnogkeilnaaGreatDoor
open Go.RowKit
set_option linter.unusedVariables false

theorem hasPrefix_3 (w : World) : Calls Tryz.prog 90 #[.string ⟨#[51]⟩, .string ⟨#[45]⟩] w fun e w' => e = .returned (.bool false) ∧ w' = w := by
  have h1 : (⟨#[51]⟩ : ByteArray).size = 1 := rfl
  have h2 : (⟨#[45]⟩ : ByteArray).size = 1 := rfl
  have h3 : (((⟨#[51]⟩ : ByteArray).extract 0 1).toList == [45]) = false := by decide +kernel
  go_enter Tryz.func90, Tryz.ntmps90
  go_wp2
  go_ret
  exact ⟨rfl, rfl⟩
theorem cutPrefix1_3 (w : World) : Calls Tryz.prog 60 #[.string ⟨#[51]⟩, .string ⟨#[45]⟩] w fun e w' => e = .returned (.tuple #[.string ⟨#[51]⟩, .bool false]) ∧ w' = w := by
  have h1 : (⟨#[51]⟩ : ByteArray).size = 1 := rfl
  have h2 : (⟨#[45]⟩ : ByteArray).size = 1 := rfl
  have e1 : True := trivial
  go_enter Tryz.func60, Tryz.ntmps60
  go_wp2_with fail
  refine (hasPrefix_3 _).mono ?_
  rintro e w1 ⟨rfl, rfl⟩
  go_wp2
  go_ret2
  exact ⟨by first | rfl | simp only [e1], rfl⟩
theorem cutPrefix_3 (w : World) : Calls Tryz.prog 38 #[.string ⟨#[51]⟩, .string ⟨#[45]⟩] w fun e w' => e = .returned (.tuple #[.string ⟨#[51]⟩, .bool false]) ∧ w' = w := by
  go_enter Tryz.func38, Tryz.ntmps38
  go_wp2_with fail
  refine (cutPrefix1_3 _).mono ?_
  rintro e w1 ⟨rfl, rfl⟩
  go_wp2
  go_ret2
  exact ⟨rfl, rfl⟩
theorem hasPrefix_m2 (w : World) : Calls Tryz.prog 90 #[.string ⟨#[45, 50]⟩, .string ⟨#[45]⟩] w fun e w' => e = .returned (.bool true) ∧ w' = w := by
  have h1 : (⟨#[45, 50]⟩ : ByteArray).size = 2 := rfl
  have h2 : (⟨#[45]⟩ : ByteArray).size = 1 := rfl
  have h3 : (((⟨#[45, 50]⟩ : ByteArray).extract 0 1).toList == [45]) = true := by decide +kernel
  go_enter Tryz.func90, Tryz.ntmps90
  go_wp2
  go_ret
  exact ⟨rfl, rfl⟩
theorem cutPrefix1_m2 (w : World) : Calls Tryz.prog 60 #[.string ⟨#[45, 50]⟩, .string ⟨#[45]⟩] w fun e w' => e = .returned (.tuple #[.string ⟨#[50]⟩, .bool true]) ∧ w' = w := by
  have h1 : (⟨#[45, 50]⟩ : ByteArray).size = 2 := rfl
  have h2 : (⟨#[45]⟩ : ByteArray).size = 1 := rfl
  have e1 : (⟨#[45, 50]⟩ : ByteArray).extract 1 2 = ⟨#[50]⟩ := by decide +kernel
  go_enter Tryz.func60, Tryz.ntmps60
  go_wp2_with fail
  refine (hasPrefix_m2 _).mono ?_
  rintro e w1 ⟨rfl, rfl⟩
  go_wp2
  go_ret2
  exact ⟨by first | rfl | simp only [e1], rfl⟩
theorem cutPrefix_m2 (w : World) : Calls Tryz.prog 38 #[.string ⟨#[45, 50]⟩, .string ⟨#[45]⟩] w fun e w' => e = .returned (.tuple #[.string ⟨#[50]⟩, .bool true]) ∧ w' = w := by
  go_enter Tryz.func38, Tryz.ntmps38
  go_wp2_with fail
  refine (cutPrefix1_m2 _).mono ?_
  rintro e w1 ⟨rfl, rfl⟩
  go_wp2
  go_ret2
  exact ⟨rfl, rfl⟩
theorem hasPrefix_pm2 (w : World) : Calls Tryz.prog 90 #[.string ⟨#[45, 50]⟩, .string ⟨#[43]⟩] w fun e w' => e = .returned (.bool false) ∧ w' = w := by
  have h1 : (⟨#[45, 50]⟩ : ByteArray).size = 2 := rfl
  have h2 : (⟨#[43]⟩ : ByteArray).size = 1 := rfl
  have h3 : (((⟨#[45, 50]⟩ : ByteArray).extract 0 1).toList == [43]) = false := by decide +kernel
  go_enter Tryz.func90, Tryz.ntmps90
  go_wp2
  go_ret
  exact ⟨rfl, rfl⟩
theorem trimPrefix1_m2 (w : World) : Calls Tryz.prog 59 #[.string ⟨#[45, 50]⟩, .string ⟨#[43]⟩] w fun e w' => e = .returned (.string ⟨#[45, 50]⟩) ∧ w' = w := by
  go_enter Tryz.func59, Tryz.ntmps59
  go_wp2_with fail
  refine (hasPrefix_pm2 _).mono ?_
  rintro e w1 ⟨rfl, rfl⟩
  go_wp2
  go_ret
  exact ⟨rfl, rfl⟩
theorem trimPrefix_m2 (w : World) : Calls Tryz.prog 37 #[.string ⟨#[45, 50]⟩, .string ⟨#[43]⟩] w fun e w' => e = .returned (.string ⟨#[45, 50]⟩) ∧ w' = w := by
  go_enter Tryz.func37, Tryz.ntmps37
  go_wp2_with fail
  refine (trimPrefix1_m2 _).mono ?_
  rintro e w1 ⟨rfl, rfl⟩
  go_wp2
  go_ret
  exact ⟨rfl, rfl⟩
theorem hasSuffix_v (w : World) : Calls Tryz.prog 83 #[.string ⟨#[51, 45, 50, 100]⟩, .string ⟨#[100]⟩] w fun e w' => e = .returned (.bool true) ∧ w' = w := by
  have h1 : (⟨#[51, 45, 50, 100]⟩ : ByteArray).size = 4 := rfl
  have h2 : (⟨#[100]⟩ : ByteArray).size = 1 := rfl
  have h3 : (((⟨#[51, 45, 50, 100]⟩ : ByteArray).extract 3 4).toList == [100]) = true := by decide +kernel
  go_enter Tryz.func83, Tryz.ntmps83
  go_wp2
  go_ret
  exact ⟨rfl, rfl⟩
theorem cutSuffix1_v (w : World) : Calls Tryz.prog 53 #[.string ⟨#[51, 45, 50, 100]⟩, .string ⟨#[100]⟩] w fun e w' => e = .returned (.tuple #[.string ⟨#[51, 45, 50]⟩, .bool true]) ∧ w' = w := by
  have h1 : (⟨#[51, 45, 50, 100]⟩ : ByteArray).size = 4 := rfl
  have h2 : (⟨#[100]⟩ : ByteArray).size = 1 := rfl
  have e1 : (⟨#[51, 45, 50, 100]⟩ : ByteArray).extract 0 3 = ⟨#[51, 45, 50]⟩ := by decide +kernel
  go_enter Tryz.func53, Tryz.ntmps53
  go_wp2_with fail
  refine (hasSuffix_v _).mono ?_
  rintro e w1 ⟨rfl, rfl⟩
  go_wp2
  go_ret2
  exact ⟨by first | rfl | simp only [e1], rfl⟩
theorem cutSuffix_v (w : World) : Calls Tryz.prog 35 #[.string ⟨#[51, 45, 50, 100]⟩, .string ⟨#[100]⟩] w fun e w' => e = .returned (.tuple #[.string ⟨#[51, 45, 50]⟩, .bool true]) ∧ w' = w := by
  go_enter Tryz.func35, Tryz.ntmps35
  go_wp2_with fail
  refine (cutSuffix1_v _).mono ?_
  rintro e w1 ⟨rfl, rfl⟩
  go_wp2
  go_ret2
  exact ⟨rfl, rfl⟩
set_option maxRecDepth 100000 in
theorem indexByte_3s (w : World) : Calls Tryz.prog 104 #[.string ⟨#[51]⟩, .int .u8 47] w fun e w' => e = .returned (.int .i64 (-1)) ∧ w' = w := by
  go_enter Tryz.func104, Tryz.ntmps104
  go_wp2
  rw [run_callFunc_extern Tryz.func118 (by kernel_rfl) (by kernel_rfl) (by kernel_rfl) (e := Extern.BytealgIndexByte.indexByte) (by kernel_rfl), Lib.run_indexByteString]
  simp only [Result.andThen]
  rw [Oper.upon_value]
  go_wp2
  go_ret
  exact ⟨rfl, rfl⟩
set_option maxRecDepth 100000 in
theorem index_3s (w : World) : Calls Tryz.prog 106 #[.string ⟨#[51]⟩, .string ⟨#[47]⟩] w fun e w' => e = .returned (.int .i64 (-1)) ∧ w' = w := by
  have h1 : (⟨#[51]⟩ : ByteArray).size = 1 := rfl
  have h2 : (⟨#[47]⟩ : ByteArray).size = 1 := rfl
  have HI := hide' indexByte_3s
  go_enter Tryz.func106, Tryz.ntmps106
  go_wp2_with fail
  refine (HI.out _).mono ?_
  rintro e w1 ⟨rfl, rfl⟩
  go_wp2
  go_ret
  exact ⟨rfl, rfl⟩
set_option maxRecDepth 100000 in
theorem cut1_3s (w : World) : Calls Tryz.prog 91 #[.string ⟨#[51]⟩, .string ⟨#[47]⟩] w fun e w' => e = .returned (.tuple #[.string ⟨#[51]⟩, .string ⟨#[]⟩, .bool false]) ∧ w' = w := by
  have HI := hide' index_3s
  go_enter Tryz.func91, Tryz.ntmps91
  go_wp2_with fail
  refine (HI.out _).mono ?_
  rintro e w1 ⟨rfl, rfl⟩
  go_wp2
  go_ret3
  exact ⟨rfl, rfl⟩
theorem cut_3s (w : World) : Calls Tryz.prog 61 #[.string ⟨#[51]⟩, .string ⟨#[47]⟩] w fun e w' => e = .returned (.tuple #[.string ⟨#[51]⟩, .string ⟨#[]⟩, .bool false]) ∧ w' = w := by
  have HI := hide' cut1_3s
  go_enter Tryz.func61, Tryz.ntmps61
  go_wp2_with fail
  refine (HI.out _).mono ?_
  rintro e w1 ⟨rfl, rfl⟩
  go_wp2
  go_ret3
  exact ⟨rfl, rfl⟩
set_option maxRecDepth 100000 in
theorem indexByte_3p (w : World) : Calls Tryz.prog 104 #[.string ⟨#[51]⟩, .int .u8 46] w fun e w' => e = .returned (.int .i64 (-1)) ∧ w' = w := by
  go_enter Tryz.func104, Tryz.ntmps104
  go_wp2
  rw [run_callFunc_extern Tryz.func118 (by kernel_rfl) (by kernel_rfl) (by kernel_rfl) (e := Extern.BytealgIndexByte.indexByte) (by kernel_rfl), Lib.run_indexByteString]
  simp only [Result.andThen]
  rw [Oper.upon_value]
  go_wp2
  go_ret
  exact ⟨rfl, rfl⟩
set_option maxRecDepth 100000 in
theorem index_3p (w : World) : Calls Tryz.prog 106 #[.string ⟨#[51]⟩, .string ⟨#[46]⟩] w fun e w' => e = .returned (.int .i64 (-1)) ∧ w' = w := by
  have h1 : (⟨#[51]⟩ : ByteArray).size = 1 := rfl
  have h2 : (⟨#[46]⟩ : ByteArray).size = 1 := rfl
  have HI := hide' indexByte_3p
  go_enter Tryz.func106, Tryz.ntmps106
  go_wp2_with fail
  refine (HI.out _).mono ?_
  rintro e w1 ⟨rfl, rfl⟩
  go_wp2
  go_ret
  exact ⟨rfl, rfl⟩
set_option maxRecDepth 100000 in
theorem cut1_3p (w : World) : Calls Tryz.prog 91 #[.string ⟨#[51]⟩, .string ⟨#[46]⟩] w fun e w' => e = .returned (.tuple #[.string ⟨#[51]⟩, .string ⟨#[]⟩, .bool false]) ∧ w' = w := by
  have HI := hide' index_3p
  go_enter Tryz.func91, Tryz.ntmps91
  go_wp2_with fail
  refine (HI.out _).mono ?_
  rintro e w1 ⟨rfl, rfl⟩
  go_wp2
  go_ret3
  exact ⟨rfl, rfl⟩
theorem cut_3p (w : World) : Calls Tryz.prog 61 #[.string ⟨#[51]⟩, .string ⟨#[46]⟩] w fun e w' => e = .returned (.tuple #[.string ⟨#[51]⟩, .string ⟨#[]⟩, .bool false]) ∧ w' = w := by
  have HI := hide' cut1_3p
  go_enter Tryz.func61, Tryz.ntmps61
  go_wp2_with fail
  refine (HI.out _).mono ?_
  rintro e w1 ⟨rfl, rfl⟩
  go_wp2
  go_ret3
  exact ⟨rfl, rfl⟩
set_option maxRecDepth 100000 in
theorem indexByte_2s (w : World) : Calls Tryz.prog 104 #[.string ⟨#[50]⟩, .int .u8 47] w fun e w' => e = .returned (.int .i64 (-1)) ∧ w' = w := by
  go_enter Tryz.func104, Tryz.ntmps104
  go_wp2
  rw [run_callFunc_extern Tryz.func118 (by kernel_rfl) (by kernel_rfl) (by kernel_rfl) (e := Extern.BytealgIndexByte.indexByte) (by kernel_rfl), Lib.run_indexByteString]
  simp only [Result.andThen]
  rw [Oper.upon_value]
  go_wp2
  go_ret
  exact ⟨rfl, rfl⟩
set_option maxRecDepth 100000 in
theorem index_2s (w : World) : Calls Tryz.prog 106 #[.string ⟨#[50]⟩, .string ⟨#[47]⟩] w fun e w' => e = .returned (.int .i64 (-1)) ∧ w' = w := by
  have h1 : (⟨#[50]⟩ : ByteArray).size = 1 := rfl
  have h2 : (⟨#[47]⟩ : ByteArray).size = 1 := rfl
  have HI := hide' indexByte_2s
  go_enter Tryz.func106, Tryz.ntmps106
  go_wp2_with fail
  refine (HI.out _).mono ?_
  rintro e w1 ⟨rfl, rfl⟩
  go_wp2
  go_ret
  exact ⟨rfl, rfl⟩
set_option maxRecDepth 100000 in
theorem cut1_2s (w : World) : Calls Tryz.prog 91 #[.string ⟨#[50]⟩, .string ⟨#[47]⟩] w fun e w' => e = .returned (.tuple #[.string ⟨#[50]⟩, .string ⟨#[]⟩, .bool false]) ∧ w' = w := by
  have HI := hide' index_2s
  go_enter Tryz.func91, Tryz.ntmps91
  go_wp2_with fail
  refine (HI.out _).mono ?_
  rintro e w1 ⟨rfl, rfl⟩
  go_wp2
  go_ret3
  exact ⟨rfl, rfl⟩
theorem cut_2s (w : World) : Calls Tryz.prog 61 #[.string ⟨#[50]⟩, .string ⟨#[47]⟩] w fun e w' => e = .returned (.tuple #[.string ⟨#[50]⟩, .string ⟨#[]⟩, .bool false]) ∧ w' = w := by
  have HI := hide' cut1_2s
  go_enter Tryz.func61, Tryz.ntmps61
  go_wp2_with fail
  refine (HI.out _).mono ?_
  rintro e w1 ⟨rfl, rfl⟩
  go_wp2
  go_ret3
  exact ⟨rfl, rfl⟩
set_option maxRecDepth 100000 in
theorem indexByte_2p (w : World) : Calls Tryz.prog 104 #[.string ⟨#[50]⟩, .int .u8 46] w fun e w' => e = .returned (.int .i64 (-1)) ∧ w' = w := by
  go_enter Tryz.func104, Tryz.ntmps104
  go_wp2
  rw [run_callFunc_extern Tryz.func118 (by kernel_rfl) (by kernel_rfl) (by kernel_rfl) (e := Extern.BytealgIndexByte.indexByte) (by kernel_rfl), Lib.run_indexByteString]
  simp only [Result.andThen]
  rw [Oper.upon_value]
  go_wp2
  go_ret
  exact ⟨rfl, rfl⟩
set_option maxRecDepth 100000 in
theorem index_2p (w : World) : Calls Tryz.prog 106 #[.string ⟨#[50]⟩, .string ⟨#[46]⟩] w fun e w' => e = .returned (.int .i64 (-1)) ∧ w' = w := by
  have h1 : (⟨#[50]⟩ : ByteArray).size = 1 := rfl
  have h2 : (⟨#[46]⟩ : ByteArray).size = 1 := rfl
  have HI := hide' indexByte_2p
  go_enter Tryz.func106, Tryz.ntmps106
  go_wp2_with fail
  refine (HI.out _).mono ?_
  rintro e w1 ⟨rfl, rfl⟩
  go_wp2
  go_ret
  exact ⟨rfl, rfl⟩
set_option maxRecDepth 100000 in
theorem cut1_2p (w : World) : Calls Tryz.prog 91 #[.string ⟨#[50]⟩, .string ⟨#[46]⟩] w fun e w' => e = .returned (.tuple #[.string ⟨#[50]⟩, .string ⟨#[]⟩, .bool false]) ∧ w' = w := by
  have HI := hide' index_2p
  go_enter Tryz.func91, Tryz.ntmps91
  go_wp2_with fail
  refine (HI.out _).mono ?_
  rintro e w1 ⟨rfl, rfl⟩
  go_wp2
  go_ret3
  exact ⟨rfl, rfl⟩
theorem cut_2p (w : World) : Calls Tryz.prog 61 #[.string ⟨#[50]⟩, .string ⟨#[46]⟩] w fun e w' => e = .returned (.tuple #[.string ⟨#[50]⟩, .string ⟨#[]⟩, .bool false]) ∧ w' = w := by
  have HI := hide' cut1_2p
  go_enter Tryz.func61, Tryz.ntmps61
  go_wp2_with fail
  refine (HI.out _).mono ?_
  rintro e w1 ⟨rfl, rfl⟩
  go_wp2
  go_ret3
  exact ⟨rfl, rfl⟩
end Go.Proofs.YtamkdnogkeilnaaGreatDoor

namespace Go.Proofs.YtamkdnogkeilnaaGreatDoor
open Go.RowKit
set_option linter.unusedVariables false

set_option maxHeartbeats 1000000 in
theorem decodeLast_a (w : World) : Calls Tryz.prog 58 #[.string ⟨#[51, 45, 50]⟩] w fun e w' => e = .returned (.tuple #[.int .i32 50, .int .i64 1]) ∧ w' = w := by
  have h1 : (⟨#[51, 45, 50]⟩ : ByteArray).size = 3 := rfl
  have hx : wrap32 (((⟨#[51, 45, 50]⟩ : ByteArray)[2]'(by decide)).toNat : Int) = 50 := by decide +kernel
  go_enter Tryz.func58, Tryz.ntmps58
  go_wp2
  go_ret2
  exact ⟨by show Ending.returned (.tuple #[.int .i32 (wrap32 (((⟨#[51, 45, 50]⟩ : ByteArray)[2]'(by decide)).toNat : Int)), .int .i64 1]) = _; rw [hx], rfl⟩
set_option maxHeartbeats 1000000 in
theorem decodeLast_b (w : World) : Calls Tryz.prog 58 #[.string ⟨#[51, 45]⟩] w fun e w' => e = .returned (.tuple #[.int .i32 45, .int .i64 1]) ∧ w' = w := by
  have h1 : (⟨#[51, 45]⟩ : ByteArray).size = 2 := rfl
  have hx : wrap32 (((⟨#[51, 45]⟩ : ByteArray)[1]'(by decide)).toNat : Int) = 45 := by decide +kernel
  go_enter Tryz.func58, Tryz.ntmps58
  go_wp2
  go_ret2
  exact ⟨by show Ending.returned (.tuple #[.int .i32 (wrap32 (((⟨#[51, 45]⟩ : ByteArray)[1]'(by decide)).toNat : Int)), .int .i64 1]) = _; rw [hx], rfl⟩
set_option maxRecDepth 100000 in
theorem indexByte_la (w : World) : Calls Tryz.prog 104 #[.string ⟨#[43, 45]⟩, .int .u8 50] w fun e w' => e = .returned (.int .i64 (-1)) ∧ w' = w := by
  go_enter Tryz.func104, Tryz.ntmps104
  go_wp2
  rw [run_callFunc_extern Tryz.func118 (by kernel_rfl) (by kernel_rfl) (by kernel_rfl) (e := Extern.BytealgIndexByte.indexByte) (by kernel_rfl), Lib.run_indexByteString]
  simp only [Result.andThen]
  rw [Oper.upon_value]
  go_wp2
  go_ret
  exact ⟨rfl, rfl⟩
theorem sIndexByte_la (w : World) : Calls Tryz.prog 84 #[.string ⟨#[43, 45]⟩, .int .u8 50] w fun e w' => e = .returned (.int .i64 (-1)) ∧ w' = w := by
  have HI := hide' indexByte_la
  go_enter Tryz.func84, Tryz.ntmps84
  go_wp2_with fail
  refine (HI.out _).mono ?_
  rintro e w1 ⟨rfl, rfl⟩
  go_wp2
  go_ret
  exact ⟨rfl, rfl⟩
set_option maxHeartbeats 1000000 in
set_option maxRecDepth 100000 in
theorem indexRune_a (w : World) : Calls Tryz.prog 54 #[.string ⟨#[43, 45]⟩, .int .i32 50] w fun e w' => e = .returned (.int .i64 (-1)) ∧ w' = w := by
  have HI := hide' sIndexByte_la
  go_enter Tryz.func54, Tryz.ntmps54
  go_wp2_with fail
  refine (HI.out _).mono ?_
  rintro e w1 ⟨rfl, rfl⟩
  go_wp2
  go_ret
  exact ⟨rfl, rfl⟩
set_option maxRecDepth 100000 in
theorem indexByte_lb (w : World) : Calls Tryz.prog 104 #[.string ⟨#[43, 45]⟩, .int .u8 45] w fun e w' => e = .returned (.int .i64 1) ∧ w' = w := by
  go_enter Tryz.func104, Tryz.ntmps104
  go_wp2
  rw [run_callFunc_extern Tryz.func118 (by kernel_rfl) (by kernel_rfl) (by kernel_rfl) (e := Extern.BytealgIndexByte.indexByte) (by kernel_rfl), Lib.run_indexByteString]
  simp only [Result.andThen]
  rw [Oper.upon_value]
  go_wp2
  go_ret
  exact ⟨rfl, rfl⟩
theorem sIndexByte_lb (w : World) : Calls Tryz.prog 84 #[.string ⟨#[43, 45]⟩, .int .u8 45] w fun e w' => e = .returned (.int .i64 1) ∧ w' = w := by
  have HI := hide' indexByte_lb
  go_enter Tryz.func84, Tryz.ntmps84
  go_wp2_with fail
  refine (HI.out _).mono ?_
  rintro e w1 ⟨rfl, rfl⟩
  go_wp2
  go_ret
  exact ⟨rfl, rfl⟩
set_option maxHeartbeats 1000000 in
set_option maxRecDepth 100000 in
theorem indexRune_b (w : World) : Calls Tryz.prog 54 #[.string ⟨#[43, 45]⟩, .int .i32 45] w fun e w' => e = .returned (.int .i64 1) ∧ w' = w := by
  have HI := hide' sIndexByte_lb
  go_enter Tryz.func54, Tryz.ntmps54
  go_wp2_with fail
  refine (HI.out _).mono ?_
  rintro e w1 ⟨rfl, rfl⟩
  go_wp2
  go_ret
  exact ⟨rfl, rfl⟩
theorem useASCII_3 (w : World) : Calls Tryz.prog 55 #[.int .i64 3] w fun e w' => e = .returned (.bool false) ∧ w' = w := by
  go_enter Tryz.func55, Tryz.ntmps55
  go_wp2
  go_ret
  exact ⟨rfl, rfl⟩
set_option maxHeartbeats 2000000 in
set_option maxRecDepth 100000 in
theorem lastIndexAny_v (w : World) : Calls Tryz.prog 36 #[.string ⟨#[51, 45, 50]⟩, .string ⟨#[43, 45]⟩] w fun e w' => e = .returned (.int .i64 1) ∧ w' = w := by
  have h1 : (⟨#[51, 45, 50]⟩ : ByteArray).size = 3 := rfl
  have h2 : (⟨#[43, 45]⟩ : ByteArray).size = 2 := rfl
  have he : ((⟨#[43, 45]⟩ : ByteArray) == ByteArray.empty) = false := by decide
  have e1 : (⟨#[51, 45, 50]⟩ : ByteArray).extract 0 3 = ⟨#[51, 45, 50]⟩ := by decide +kernel
  have e2 : (⟨#[51, 45, 50]⟩ : ByteArray).extract 0 2 = ⟨#[51, 45]⟩ := by decide +kernel
  have D1 := hide' decodeLast_a
  have D2 := hide' decodeLast_b
  have I1 := hide' indexRune_a
  have I2 := hide' indexRune_b
  have U := hide' useASCII_3
  go_enter Tryz.func36, Tryz.ntmps36
  go_wp2_with fail
  refine (U.out _).mono ?_
  rintro e w1 ⟨rfl, rfl⟩
  go_wp2_with fail
  refine wp_loop_rounds 2 ?_
  rw [rounds_succ]
  go_wp2_with fail
  try simp only [e1]
  refine (D1.out _).mono ?_
  rintro e w2 ⟨rfl, rfl⟩
  go_wp2_with fail
  refine (I1.out _).mono ?_
  rintro e w3 ⟨rfl, rfl⟩
  go_wp2_with fail
  rw [rounds_succ]
  go_wp2_with fail
  try simp only [e2]
  refine (D2.out _).mono ?_
  rintro e w4 ⟨rfl, rfl⟩
  go_wp2_with fail
  refine (I2.out _).mono ?_
  rintro e w5 ⟨rfl, rfl⟩
  go_wp2
  go_ret
  exact ⟨rfl, rfl⟩

set_option maxHeartbeats 2000000 in
theorem dcut_v (w : World) : Calls Tryz.prog 18 #[.string ⟨#[51, 45, 50, 100]⟩] w fun e w' => e = .returned (.tuple #[.string ⟨#[51]⟩, .string ⟨#[45, 50]⟩]) ∧ Dr w w' := by
  have h1 : (⟨#[51, 45, 50]⟩ : ByteArray).size = 3 := rfl
  have e1 : (⟨#[51, 45, 50]⟩ : ByteArray).extract 0 1 = ⟨#[51]⟩ := by decide +kernel
  have e2 : (⟨#[51, 45, 50]⟩ : ByteArray).extract 1 3 = ⟨#[45, 50]⟩ := by decide +kernel
  have D1 := hide' cutSuffix_v
  have D2 := hide' lastIndexAny_v
  have D3 := hide' trimPrefix_m2
  go_enter Tryz.func18, Tryz.ntmps18
  go_wp2_with fail
  refine (D1.out _).mono ?_
  rintro e w1 ⟨rfl, rfl⟩
  go_wp2_with fail
  refine (D2.out _).mono ?_
  rintro e w2 ⟨rfl, rfl⟩
  go_wp2_with fail
  simp only [show max (1 : Int) 0 = 1 by decide]
  go_quiet ((go_at_call 37; exact Calls.quiet_of_same (D3.out _)))
  go_wp2
  go_ret2
  exact ⟨by first | rfl | simp only [e1], ⟨_, rfl⟩⟩
end Go.Proofs.YtamkdnogkeilnaaGreatDoor

namespace Go.Proofs.YtamkdnogkeilnaaGreatDoor
open Go.RowKit
set_option linter.unusedVariables false

theorem ln_2 : ln 2 = 1 := ln_of_top (by rw [BB_eq]; omega) (by rw [dg0]; omega)
theorem ln_3 : ln 3 = 1 := ln_of_top (by rw [BB_eq]; omega) (by rw [dg0]; omega)
theorem ln_1 : ln 1 = 1 := ln_one
set_option maxHeartbeats 1000000 in
theorem quotient_v2 (w : World) (h : Digits w) : Calls Tryz.prog 62 #[.string ⟨#[50]⟩, .string ⟨#[49]⟩] w fun e w' => ∃ p q, e = .returned (.tuple #[.slice p 1 1, .slice q 1 1, .int .i64 0]) ∧ New w w' p 2 1 ∧ New w w' q 1 1 := by
  obtain ⟨A2, hA2⟩ : ∃ A2 : Nat, 2 = A2 := ⟨_, rfl⟩
  obtain ⟨A4, hA4⟩ : ∃ A4 : Nat, 1 = A4 := ⟨_, rfl⟩
  obtain ⟨L, hL⟩ : ∃ L : Nat, 1 = L := ⟨_, rfl⟩
  have l4 : L ≤ 2 := by omega
  have P2 : Calls Tryz.prog 92 #[.string ⟨#[50]⟩, .int .i64 10] w fun e w' => ∃ a, e = .returned (.tuple #[.slice a L L, .int .i64 0]) ∧ New w w' a A2 L := by subst hA2 hL; have := Parse_2 w h; rw [ln_2] at this; exact this
  have P4 : ∀ w', Digits w' → Calls Tryz.prog 92 #[.string ⟨#[49]⟩, .int .i64 10] w' fun e w'' => ∃ a, e = .returned (.tuple #[.slice a L L, .int .i64 0]) ∧ New w' w'' a A4 L := fun w' h' => by subst hA4 hL; have := Parse_1 w' h'; rw [ln_1] at this; exact this
  have hb : (((bl A4 : Nat) : Int) == 0) = false := by rw [bl_beq, ← hA4]; rfl
  have Q2 := hide' P2
  have Q4 := hide' P4
  have e2 : ∀ w' q, New w w' q 2 1 ↔ New w w' q A2 L := fun w' q => by rw [← hA2, ← hL]
  have e4 : ∀ w' q, New w w' q 1 1 ↔ New w w' q A4 L := fun w' q => by rw [← hA4, ← hL]
  have e5 : ∀ p : Option Addr, Value.slice p 1 1 = .slice p L L := fun p => by rw [← hL]
  simp only [e2, e4, e5]
  clear P2 P4 hA2 hA4 e2 e4 e5 hL
  go_enter Tryz.func62, Tryz.ntmps62
  go_wp2_with fail
  refine Q2.out.mono ?_
  rintro e w1 ⟨a1, rfl, h1⟩
  go_wp2_with fail
  refine (Q4.out _ (h.below h1.below)).mono ?_
  rintro e w2 ⟨a2, rfl, h2⟩
  have g1 := h1.later h2.below
  have g2 := h2.back h1.below
  go_wp2_with fail
  refine (Bits_any a2 L L A4 _ (Nat.le_refl _) (by omega) h2.seg).mono ?_
  rintro e w3 ⟨rfl, rfl⟩
  go_wp2
  go_ret3
  exact ⟨a1, a2, rfl, g1, g2⟩

set_option maxHeartbeats 1000000 in
theorem parts_v2 (w : World) (h : Digits w) : Calls Tryz.prog 39 #[.string ⟨#[50]⟩] w fun e w' => ∃ p q, e = .returned (.tuple #[.slice p 1 1, .slice q 1 1, .int .i64 0]) ∧ New w w' p 2 1 ∧ New w w' q 1 1 := by
  have H1 := hide' cut_2s
  have H3 := hide' cut_2p
  have H2 := hide' quotient_v2
  go_enter Tryz.func39, Tryz.ntmps39
  go_wp2_with fail
  refine (H1.out _).mono ?_
  rintro e w1 ⟨rfl, rfl⟩
  go_wp2_with fail
  refine (H3.out _).mono ?_
  rintro e w2 ⟨rfl, rfl⟩
  go_wp2_with fail
  refine (H2.out _ h).mono ?_
  rintro e w3 ⟨p, q, rfl, h1, h2⟩
  go_wp2
  go_ret3
  exact ⟨p, q, rfl, h1, h2⟩
set_option maxHeartbeats 1000000 in
theorem quotient_v3 (w : World) (h : Digits w) : Calls Tryz.prog 62 #[.string ⟨#[51]⟩, .string ⟨#[49]⟩] w fun e w' => ∃ p q, e = .returned (.tuple #[.slice p 1 1, .slice q 1 1, .int .i64 0]) ∧ New w w' p 3 1 ∧ New w w' q 1 1 := by
  obtain ⟨A2, hA2⟩ : ∃ A2 : Nat, 3 = A2 := ⟨_, rfl⟩
  obtain ⟨A4, hA4⟩ : ∃ A4 : Nat, 1 = A4 := ⟨_, rfl⟩
  obtain ⟨L, hL⟩ : ∃ L : Nat, 1 = L := ⟨_, rfl⟩
  have l4 : L ≤ 2 := by omega
  have P2 : Calls Tryz.prog 92 #[.string ⟨#[51]⟩, .int .i64 10] w fun e w' => ∃ a, e = .returned (.tuple #[.slice a L L, .int .i64 0]) ∧ New w w' a A2 L := by subst hA2 hL; have := Parse_3 w h; rw [ln_3] at this; exact this
  have P4 : ∀ w', Digits w' → Calls Tryz.prog 92 #[.string ⟨#[49]⟩, .int .i64 10] w' fun e w'' => ∃ a, e = .returned (.tuple #[.slice a L L, .int .i64 0]) ∧ New w' w'' a A4 L := fun w' h' => by subst hA4 hL; have := Parse_1 w' h'; rw [ln_1] at this; exact this
  have hb : (((bl A4 : Nat) : Int) == 0) = false := by rw [bl_beq, ← hA4]; rfl
  have Q2 := hide' P2
  have Q4 := hide' P4
  have e2 : ∀ w' q, New w w' q 3 1 ↔ New w w' q A2 L := fun w' q => by rw [← hA2, ← hL]
  have e4 : ∀ w' q, New w w' q 1 1 ↔ New w w' q A4 L := fun w' q => by rw [← hA4, ← hL]
  have e5 : ∀ p : Option Addr, Value.slice p 1 1 = .slice p L L := fun p => by rw [← hL]
  simp only [e2, e4, e5]
  clear P2 P4 hA2 hA4 e2 e4 e5 hL
  go_enter Tryz.func62, Tryz.ntmps62
  go_wp2_with fail
  refine Q2.out.mono ?_
  rintro e w1 ⟨a1, rfl, h1⟩
  go_wp2_with fail
  refine (Q4.out _ (h.below h1.below)).mono ?_
  rintro e w2 ⟨a2, rfl, h2⟩
  have g1 := h1.later h2.below
  have g2 := h2.back h1.below
  go_wp2_with fail
  refine (Bits_any a2 L L A4 _ (Nat.le_refl _) (by omega) h2.seg).mono ?_
  rintro e w3 ⟨rfl, rfl⟩
  go_wp2
  go_ret3
  exact ⟨a1, a2, rfl, g1, g2⟩

set_option maxHeartbeats 1000000 in
theorem parts_v3 (w : World) (h : Digits w) : Calls Tryz.prog 39 #[.string ⟨#[51]⟩] w fun e w' => ∃ p q, e = .returned (.tuple #[.slice p 1 1, .slice q 1 1, .int .i64 0]) ∧ New w w' p 3 1 ∧ New w w' q 1 1 := by
  have H1 := hide' cut_3s
  have H3 := hide' cut_3p
  have H2 := hide' quotient_v3
  go_enter Tryz.func39, Tryz.ntmps39
  go_wp2_with fail
  refine (H1.out _).mono ?_
  rintro e w1 ⟨rfl, rfl⟩
  go_wp2_with fail
  refine (H3.out _).mono ?_
  rintro e w2 ⟨rfl, rfl⟩
  go_wp2_with fail
  refine (H2.out _ h).mono ?_
  rintro e w3 ⟨p, q, rfl, h1, h2⟩
  go_wp2
  go_ret3
  exact ⟨p, q, rfl, h1, h2⟩
theorem low_v3 : Low (sg false 3) ((1 : Nat) : Int) 3 1 := ⟨by decide, by omega, by decide, by decide⟩
set_option maxHeartbeats 1000000 in
set_option maxRecDepth 100000 in
theorem qParse_v3 (w : World) (h : Digits w) : Calls Tryz.prog 19 #[.string ⟨#[51]⟩] w fun e w' => ∃ p q, e = .returned (.tuple #[.agg #[.bool false, .slice p 1 1, .slice q 1 1], .int .i64 0]) ∧ New w w' p 3 1 ∧ New w w' q 1 1 := by
  have H0 := hide' cutPrefix_3
  have P2 : ∀ w' p q, Seg w' p 3 1 → Seg w' q 1 1 → Calls Tryz.prog 40 #[.agg #[.bool false, .slice p 1 1, .bool false, .slice q 1 1]] w' fun e w'' => ∃ p q, e = .returned (.agg #[.bool false, .slice p 1 1, .slice q 1 1]) ∧ New w' w'' p 3 1 ∧ New w' w'' q 1 1 := fun w' p q k1 k2 => by
    have := lowest_is false p 1 1 3 q 1 1 1 1 3 w' (Nat.le_refl _) (by omega) k1 (Nat.le_refl _) (by omega) k2 low_v3
    rw [show ng 3 = false from rfl, show am 3 = 3 from rfl, ln_1, ln_3] at this
    exact this
  have H1 := hide' parts_v3
  have H2 := hide' P2
  have HD := hide' h
  clear P2 h
  go_enter Tryz.func19, Tryz.ntmps19
  go_wp2_with fail
  obtain ⟨W, hW⟩ : ∃ W, (w.alloc (.cells #[.bool false, .slice none 0 0, .slice none 0 0] 27)) = W := ⟨_, rfl⟩
  have r00 : W.cell? ⟨w.heap.size, 0, none⟩ = some (.bool false) := by subst hW; go_simp
  have r01 : W.cell? ⟨w.heap.size, 1, none⟩ = some (.slice none 0 0) := by subst hW; go_simp
  have r02 : W.cell? ⟨w.heap.size, 2, none⟩ = some (.slice none 0 0) := by subst hW; go_simp
  have hB : Below w.heap.size w W := by subst hW; exact ((Below.refl _ _).alloc (by (try simp only [World.size_alloc]); omega) _)
  have hR0 : Row W (w.heap.size) := by
    have := row_new (w) #[.bool false, .slice none 0 0, .slice none 0 0] 27
    try simp only [World.size_alloc] at this
    subst hW; exact this
  have hz : W.heap.size = w.heap.size + 1 := by subst hW; simp only [World.size_alloc]
  rw [hW]
  clear hW
  have hBW : Below W.heap.size W W := Below.refl _ _
  refine (H0.out _).mono ?_
  rintro e w1 ⟨rfl, rfl⟩
  go_wp2_with fail
  refine (H1.out _ (HD.out.below (hB.trans (hBW.mono hB.size)))).mono ?_
  rintro e w41 ⟨p41, q41, rfl, hp41, hq41⟩
  have b41 := hp41.below
  replace hp41 := hp41.back hBW
  replace hq41 := hq41.back hBW
  replace hBW := hBW.trans (b41.mono hBW.size)
  replace r00 := below_cell b41 r00
  replace r01 := below_cell b41 r01
  replace r02 := below_cell b41 r02
  replace hR0 := below_row b41 hR0
  go_wp2_with fail
  refine (H2.out _ p41 q41 hp41.seg hq41.seg).mono ?_
  rintro e w42 ⟨p42, q42, rfl, hp42, hq42⟩
  have b42 := hp42.below
  replace hp42 := hp42.back hBW
  replace hq42 := hq42.back hBW
  replace hBW := hBW.trans (b42.mono hBW.size)
  replace r00 := below_cell b42 r00
  replace r01 := below_cell b42 r01
  replace r02 := below_cell b42 r02
  replace hR0 := below_row b42 hR0
  replace hp41 := hp41.later b42
  replace hq41 := hq41.later b42
  have fz0 := fun o => hR0.frozen o
  go_wp2
  all_goals refine bodyPost_ret (v := .tuple #[.agg #[.bool false, .slice p42 1 1, .slice q42 1 1], .int .i64 0]) (by rw [results_ct rfl]; go_simp) rfl ?_
  all_goals exact ⟨p42, q42, rfl, hp42.mid hB (((((Mid.refl _ _ _).set _ _ (by omega) (by omega) _).set _ _ (by omega) (by omega) _).set _ _ (by omega) (by omega) _)), hq42.mid hB (((((Mid.refl _ _ _).set _ _ (by omega) (by omega) _).set _ _ (by omega) (by omega) _).set _ _ (by omega) (by omega) _))⟩

theorem low_v2 : Low (sg true 2) ((1 : Nat) : Int) (-2) 1 := ⟨by decide, by omega, by decide, by decide⟩
set_option maxHeartbeats 1000000 in
set_option maxRecDepth 100000 in
theorem qParse_vm2 (w : World) (h : Digits w) : Calls Tryz.prog 19 #[.string ⟨#[45, 50]⟩] w fun e w' => ∃ p q, e = .returned (.tuple #[.agg #[.bool true, .slice p 1 1, .slice q 1 1], .int .i64 0]) ∧ New w w' p 2 1 ∧ New w w' q 1 1 := by
  have H0 := hide' cutPrefix_m2
  have P2 : ∀ w' p q, Seg w' p 2 1 → Seg w' q 1 1 → Calls Tryz.prog 40 #[.agg #[.bool true, .slice p 1 1, .bool false, .slice q 1 1]] w' fun e w'' => ∃ p q, e = .returned (.agg #[.bool true, .slice p 1 1, .slice q 1 1]) ∧ New w' w'' p 2 1 ∧ New w' w'' q 1 1 := fun w' p q k1 k2 => by
    have := lowest_is true p 1 1 2 q 1 1 1 1 (-2) w' (Nat.le_refl _) (by omega) k1 (Nat.le_refl _) (by omega) k2 low_v2
    rw [show ng (-2) = true from rfl, show am (-2) = 2 from rfl, ln_1, ln_2] at this
    exact this
  have H1 := hide' parts_v2
  have H2 := hide' P2
  have HD := hide' h
  clear P2 h
  go_enter Tryz.func19, Tryz.ntmps19
  go_wp2_with fail
  obtain ⟨W, hW⟩ : ∃ W, (w.alloc (.cells #[.bool false, .slice none 0 0, .slice none 0 0] 27)) = W := ⟨_, rfl⟩
  have r00 : W.cell? ⟨w.heap.size, 0, none⟩ = some (.bool false) := by subst hW; go_simp
  have r01 : W.cell? ⟨w.heap.size, 1, none⟩ = some (.slice none 0 0) := by subst hW; go_simp
  have r02 : W.cell? ⟨w.heap.size, 2, none⟩ = some (.slice none 0 0) := by subst hW; go_simp
  have hB : Below w.heap.size w W := by subst hW; exact ((Below.refl _ _).alloc (by (try simp only [World.size_alloc]); omega) _)
  have hR0 : Row W (w.heap.size) := by
    have := row_new (w) #[.bool false, .slice none 0 0, .slice none 0 0] 27
    try simp only [World.size_alloc] at this
    subst hW; exact this
  have hz : W.heap.size = w.heap.size + 1 := by subst hW; simp only [World.size_alloc]
  rw [hW]
  clear hW
  have hBW : Below W.heap.size W W := Below.refl _ _
  refine (H0.out _).mono ?_
  rintro e w1 ⟨rfl, rfl⟩
  go_wp2_with fail
  refine (H1.out _ (HD.out.below (hB.trans (hBW.mono hB.size)))).mono ?_
  rintro e w41 ⟨p41, q41, rfl, hp41, hq41⟩
  have b41 := hp41.below
  replace hp41 := hp41.back hBW
  replace hq41 := hq41.back hBW
  replace hBW := hBW.trans (b41.mono hBW.size)
  replace r00 := below_cell b41 r00
  replace r01 := below_cell b41 r01
  replace r02 := below_cell b41 r02
  replace hR0 := below_row b41 hR0
  go_wp2_with fail
  refine (H2.out _ p41 q41 hp41.seg hq41.seg).mono ?_
  rintro e w42 ⟨p42, q42, rfl, hp42, hq42⟩
  have b42 := hp42.below
  replace hp42 := hp42.back hBW
  replace hq42 := hq42.back hBW
  replace hBW := hBW.trans (b42.mono hBW.size)
  replace r00 := below_cell b42 r00
  replace r01 := below_cell b42 r01
  replace r02 := below_cell b42 r02
  replace hR0 := below_row b42 hR0
  replace hp41 := hp41.later b42
  replace hq41 := hq41.later b42
  have fz0 := fun o => hR0.frozen o
  go_wp2
  all_goals refine bodyPost_ret (v := .tuple #[.agg #[.bool true, .slice p42 1 1, .slice q42 1 1], .int .i64 0]) (by rw [results_ct rfl]; go_simp) rfl ?_
  all_goals exact ⟨p42, q42, rfl, hp42.mid hB (((((Mid.refl _ _ _).set _ _ (by omega) (by omega) _).set _ _ (by omega) (by omega) _).set _ _ (by omega) (by omega) _)), hq42.mid hB (((((Mid.refl _ _ _).set _ _ (by omega) (by omega) _).set _ _ (by omega) (by omega) _).set _ _ (by omega) (by omega) _))⟩

end Go.Proofs.YtamkdnogkeilnaaGreatDoor

namespace Go.Proofs.YtamkdnogkeilnaaGreatDoor
open Go.RowKit
set_option linter.unusedVariables false

set_option maxHeartbeats 2000000 in
theorem scaleOf2_10 (w : World) : Calls Tryz.prog 74 #[.int .i64 10] w fun e w' => ∃ a, e = .returned (.agg #[.int .i64 10, .int .i64 9, .slice none 0 0, .slice a (ln 1000000000) (ln 1000000000)]) ∧ New w w' a 1000000000 (ln 1000000000) := by
  obtain ⟨N, hN⟩ : ∃ N : Nat, 1000000000 = N := ⟨_, rfl⟩
  have HO' : ∀ w', Calls Tryz.prog 81 #[.int .u64 1000000000] w' fun e w'' => ∃ ao, e = .returned (.slice ao (ln N) (ln N)) ∧ New w' w'' ao N (ln N) := fun w' => by subst hN; exact Of_any 1000000000 w' (by omega)
  have HO := hide' HO'
  rw [hN]
  clear HO' hN
  go_enter Tryz.func74, Tryz.ntmps74
  go_wp2_with fail
  obtain ⟨W, hW⟩ : ∃ W, (w.alloc (.cells #[.int .i64 0, .int .i64 0, .slice none 0 0, .slice none 0 0] 98)) = W := ⟨_, rfl⟩
  have r00 : W.cell? ⟨w.heap.size, 0, none⟩ = some (.int .i64 0) := by subst hW; go_simp
  have r01 : W.cell? ⟨w.heap.size, 1, none⟩ = some (.int .i64 0) := by subst hW; go_simp
  have r02 : W.cell? ⟨w.heap.size, 2, none⟩ = some (.slice none 0 0) := by subst hW; go_simp
  have r03 : W.cell? ⟨w.heap.size, 3, none⟩ = some (.slice none 0 0) := by subst hW; go_simp
  have hB : Below w.heap.size w W := by subst hW; exact ((Below.refl _ _).alloc (by (try simp only [World.size_alloc]); omega) _)
  have hR0 : Row W (w.heap.size) := by
    have := row_new (w) #[.int .i64 0, .int .i64 0, .slice none 0 0, .slice none 0 0] 98
    try simp only [World.size_alloc] at this
    subst hW; exact this
  have hz : W.heap.size = w.heap.size + 1 := by subst hW; simp only [World.size_alloc]
  rw [hW]
  clear hW
  have hBW : Below W.heap.size W W := Below.refl _ _
  refine wp_loop_rounds 10 ?_
  repeat (rw [rounds_succ]; go_wp2_with fail)
  refine (HO.out _).mono ?_
  rintro e w1 ⟨a1, rfl, h1⟩
  have b1 := h1.below
  replace h1 := h1.back hBW
  replace hBW := hBW.trans (b1.mono hBW.size)
  replace r00 := below_cell b1 r00
  replace r01 := below_cell b1 r01
  replace r02 := below_cell b1 r02
  replace r03 := below_cell b1 r03
  replace hR0 := below_row b1 hR0
  have fz0 := fun o => hR0.frozen o
  go_wp2
  all_goals refine bodyPost_ret (v := .agg #[.int .i64 10, .int .i64 9, .slice none 0 0, .slice a1 (ln N) (ln N)]) (by rw [results_cell rfl]; go_simp) rfl ?_
  all_goals exact ⟨a1, rfl, h1.mid hB ((((((Mid.refl _ _ _).set _ _ (by omega) (by omega) _).set _ _ (by omega) (by omega) _).set _ _ (by omega) (by omega) _).set _ _ (by omega) (by omega) _))⟩
set_option maxHeartbeats 4000000 in
set_option maxRecDepth 100000 in
theorem writeLimb_2 (p b : Nat) (w : World) (h : Digits w) (hp : w.cell? ⟨p, 0, none⟩ = some (.int .i64 10)) (hR : Row w b) (h1 : b ≠ 0) (h2 : b ≠ p) (hc : w.cell? ⟨b, 0, none⟩ = some (.int .u8 0) ∧ w.cell? ⟨b, 1, none⟩ = some (.int .u8 0) ∧ w.cell? ⟨b, 2, none⟩ = some (.int .u8 0) ∧ w.cell? ⟨b, 3, none⟩ = some (.int .u8 0) ∧ w.cell? ⟨b, 4, none⟩ = some (.int .u8 0) ∧ w.cell? ⟨b, 5, none⟩ = some (.int .u8 0) ∧ w.cell? ⟨b, 6, none⟩ = some (.int .u8 0) ∧ w.cell? ⟨b, 7, none⟩ = some (.int .u8 0) ∧ w.cell? ⟨b, 8, none⟩ = some (.int .u8 0)) :
    Calls Tryz.prog 102 #[.pointer (some ⟨p, 0, none⟩), .slice (some ⟨b, 0, none⟩) 9 9, .int .u64 2] w fun e w' => e = .returned (.tuple #[]) ∧ Wr b 0 9 w w' ∧ (w'.cell? ⟨b, 0, none⟩ = some (.int .u8 48) ∧ w'.cell? ⟨b, 1, none⟩ = some (.int .u8 48) ∧ w'.cell? ⟨b, 2, none⟩ = some (.int .u8 48) ∧ w'.cell? ⟨b, 3, none⟩ = some (.int .u8 48) ∧ w'.cell? ⟨b, 4, none⟩ = some (.int .u8 48) ∧ w'.cell? ⟨b, 5, none⟩ = some (.int .u8 48) ∧ w'.cell? ⟨b, 6, none⟩ = some (.int .u8 48) ∧ w'.cell? ⟨b, 7, none⟩ = some (.int .u8 48) ∧ w'.cell? ⟨b, 8, none⟩ = some (.int .u8 50)) := by
  obtain ⟨g0, g1, g2, g3, g4⟩ := h
  obtain ⟨c0, c1, c2, c3, c4, c5, c6, c7, c8⟩ := hc
  have fz := fun o => hR.frozen o
  have h1s := h1.symm
  have h2s := h2.symm
  go_enter Tryz.func102, Tryz.ntmps102
  go_wp2_with fail
  refine wp_loop_rounds 10 ?_
  repeat (rw [rounds_succ]; go_wp2_with fail)
  all_goals go_end0
  refine ⟨rfl, ?_, ?_⟩
  · have k0 := Wr.refl b 0 9 w
    have k1 := k0.setCell 8 (by omega) (by omega) (.int .u8 50)
    have k2 := k1.setCell 7 (by omega) (by omega) (.int .u8 48)
    have k3 := k2.setCell 6 (by omega) (by omega) (.int .u8 48)
    have k4 := k3.setCell 5 (by omega) (by omega) (.int .u8 48)
    have k5 := k4.setCell 4 (by omega) (by omega) (.int .u8 48)
    have k6 := k5.setCell 3 (by omega) (by omega) (.int .u8 48)
    have k7 := k6.setCell 2 (by omega) (by omega) (.int .u8 48)
    have k8 := k7.setCell 1 (by omega) (by omega) (.int .u8 48)
    have k9 := k8.setCell 0 (by omega) (by omega) (.int .u8 48)
    exact k9
  · refine ⟨?_, ?_, ?_, ?_, ?_, ?_, ?_, ?_, ?_⟩ <;> go_simp
set_option maxHeartbeats 1000000 in
theorem write_2 (p b : Nat) (a : Option Addr) (w : World) (h : Digits w) (hp : w.cell? ⟨p, 0, none⟩ = some (.int .i64 10)) (hR : Row w b) (h1 : b ≠ 0) (h2 : b ≠ p) (hc : w.cell? ⟨b, 0, none⟩ = some (.int .u8 0) ∧ w.cell? ⟨b, 1, none⟩ = some (.int .u8 0) ∧ w.cell? ⟨b, 2, none⟩ = some (.int .u8 0) ∧ w.cell? ⟨b, 3, none⟩ = some (.int .u8 0) ∧ w.cell? ⟨b, 4, none⟩ = some (.int .u8 0) ∧ w.cell? ⟨b, 5, none⟩ = some (.int .u8 0) ∧ w.cell? ⟨b, 6, none⟩ = some (.int .u8 0) ∧ w.cell? ⟨b, 7, none⟩ = some (.int .u8 0) ∧ w.cell? ⟨b, 8, none⟩ = some (.int .u8 0)) (hS : Seg w a 2 1) :
    Calls Tryz.prog 77 #[.pointer (some ⟨p, 0, none⟩), .slice (some ⟨b, 0, none⟩) 9 9, .slice a 1 1, .int .i64 0] w fun e w' => e = .returned (.tuple #[]) ∧ Wr b 0 9 w w' ∧ (w'.cell? ⟨b, 0, none⟩ = some (.int .u8 48) ∧ w'.cell? ⟨b, 1, none⟩ = some (.int .u8 48) ∧ w'.cell? ⟨b, 2, none⟩ = some (.int .u8 48) ∧ w'.cell? ⟨b, 3, none⟩ = some (.int .u8 48) ∧ w'.cell? ⟨b, 4, none⟩ = some (.int .u8 48) ∧ w'.cell? ⟨b, 5, none⟩ = some (.int .u8 48) ∧ w'.cell? ⟨b, 6, none⟩ = some (.int .u8 48) ∧ w'.cell? ⟨b, 7, none⟩ = some (.int .u8 48) ∧ w'.cell? ⟨b, 8, none⟩ = some (.int .u8 50)) := by
  have H1 := hide' (word_any a 1 1 2 w (by omega) hS)
  have H2 := hide' (writeLimb_2 p b w h hp hR h1 h2 hc)
  clear hc
  go_enter Tryz.func77, Tryz.ntmps77
  go_wp2_with fail
  refine H1.out.mono ?_
  rintro e w1 ⟨rfl, rfl⟩
  go_wp2_with fail
  refine H2.out.mono ?_
  rintro e w2 ⟨rfl, hw, hc⟩
  go_wp2
  refine bodyPost_ret (results_none rfl _ _ _) rfl ?_
  exact ⟨rfl, hw, hc⟩
set_option maxHeartbeats 4000000 in
set_option maxRecDepth 100000 in
theorem noughts_2 (b : Nat) (w : World) (h : Digits w) (hc : w.cell? ⟨b, 0, none⟩ = some (.int .u8 48) ∧ w.cell? ⟨b, 1, none⟩ = some (.int .u8 48) ∧ w.cell? ⟨b, 2, none⟩ = some (.int .u8 48) ∧ w.cell? ⟨b, 3, none⟩ = some (.int .u8 48) ∧ w.cell? ⟨b, 4, none⟩ = some (.int .u8 48) ∧ w.cell? ⟨b, 5, none⟩ = some (.int .u8 48) ∧ w.cell? ⟨b, 6, none⟩ = some (.int .u8 48) ∧ w.cell? ⟨b, 7, none⟩ = some (.int .u8 48) ∧ w.cell? ⟨b, 8, none⟩ = some (.int .u8 50)) :
    Calls Tryz.prog 78 #[.slice (some ⟨b, 0, none⟩) 9 9] w fun e w' => e = .returned (.int .i64 8) ∧ Dr w w' := by
  obtain ⟨g0, g1, g2, g3, g4⟩ := h
  obtain ⟨c0, c1, c2, c3, c4, c5, c6, c7, c8⟩ := hc
  go_enter Tryz.func78, Tryz.ntmps78
  go_wp2_with fail
  refine wp_loop_rounds 9 ?_
  repeat (rw [rounds_succ]; go_wp2_with fail; (try go_quiet (fail)); go_wp2_with fail)
  go_ret
  exact ⟨rfl, by first | exact ⟨_, rfl⟩ | exact Dr.drewN ⟨_, rfl⟩ _⟩
set_option maxHeartbeats 4000000 in
set_option maxRecDepth 100000 in
theorem writeLimb_3 (p b : Nat) (w : World) (h : Digits w) (hp : w.cell? ⟨p, 0, none⟩ = some (.int .i64 10)) (hR : Row w b) (h1 : b ≠ 0) (h2 : b ≠ p) (hc : w.cell? ⟨b, 0, none⟩ = some (.int .u8 0) ∧ w.cell? ⟨b, 1, none⟩ = some (.int .u8 0) ∧ w.cell? ⟨b, 2, none⟩ = some (.int .u8 0) ∧ w.cell? ⟨b, 3, none⟩ = some (.int .u8 0) ∧ w.cell? ⟨b, 4, none⟩ = some (.int .u8 0) ∧ w.cell? ⟨b, 5, none⟩ = some (.int .u8 0) ∧ w.cell? ⟨b, 6, none⟩ = some (.int .u8 0) ∧ w.cell? ⟨b, 7, none⟩ = some (.int .u8 0) ∧ w.cell? ⟨b, 8, none⟩ = some (.int .u8 0)) :
    Calls Tryz.prog 102 #[.pointer (some ⟨p, 0, none⟩), .slice (some ⟨b, 0, none⟩) 9 9, .int .u64 3] w fun e w' => e = .returned (.tuple #[]) ∧ Wr b 0 9 w w' ∧ (w'.cell? ⟨b, 0, none⟩ = some (.int .u8 48) ∧ w'.cell? ⟨b, 1, none⟩ = some (.int .u8 48) ∧ w'.cell? ⟨b, 2, none⟩ = some (.int .u8 48) ∧ w'.cell? ⟨b, 3, none⟩ = some (.int .u8 48) ∧ w'.cell? ⟨b, 4, none⟩ = some (.int .u8 48) ∧ w'.cell? ⟨b, 5, none⟩ = some (.int .u8 48) ∧ w'.cell? ⟨b, 6, none⟩ = some (.int .u8 48) ∧ w'.cell? ⟨b, 7, none⟩ = some (.int .u8 48) ∧ w'.cell? ⟨b, 8, none⟩ = some (.int .u8 51)) := by
  obtain ⟨g0, g1, g2, g3, g4⟩ := h
  obtain ⟨c0, c1, c2, c3, c4, c5, c6, c7, c8⟩ := hc
  have fz := fun o => hR.frozen o
  have h1s := h1.symm
  have h2s := h2.symm
  go_enter Tryz.func102, Tryz.ntmps102
  go_wp2_with fail
  refine wp_loop_rounds 10 ?_
  repeat (rw [rounds_succ]; go_wp2_with fail)
  all_goals go_end0
  refine ⟨rfl, ?_, ?_⟩
  · have k0 := Wr.refl b 0 9 w
    have k1 := k0.setCell 8 (by omega) (by omega) (.int .u8 51)
    have k2 := k1.setCell 7 (by omega) (by omega) (.int .u8 48)
    have k3 := k2.setCell 6 (by omega) (by omega) (.int .u8 48)
    have k4 := k3.setCell 5 (by omega) (by omega) (.int .u8 48)
    have k5 := k4.setCell 4 (by omega) (by omega) (.int .u8 48)
    have k6 := k5.setCell 3 (by omega) (by omega) (.int .u8 48)
    have k7 := k6.setCell 2 (by omega) (by omega) (.int .u8 48)
    have k8 := k7.setCell 1 (by omega) (by omega) (.int .u8 48)
    have k9 := k8.setCell 0 (by omega) (by omega) (.int .u8 48)
    exact k9
  · refine ⟨?_, ?_, ?_, ?_, ?_, ?_, ?_, ?_, ?_⟩ <;> go_simp
set_option maxHeartbeats 1000000 in
theorem write_3 (p b : Nat) (a : Option Addr) (w : World) (h : Digits w) (hp : w.cell? ⟨p, 0, none⟩ = some (.int .i64 10)) (hR : Row w b) (h1 : b ≠ 0) (h2 : b ≠ p) (hc : w.cell? ⟨b, 0, none⟩ = some (.int .u8 0) ∧ w.cell? ⟨b, 1, none⟩ = some (.int .u8 0) ∧ w.cell? ⟨b, 2, none⟩ = some (.int .u8 0) ∧ w.cell? ⟨b, 3, none⟩ = some (.int .u8 0) ∧ w.cell? ⟨b, 4, none⟩ = some (.int .u8 0) ∧ w.cell? ⟨b, 5, none⟩ = some (.int .u8 0) ∧ w.cell? ⟨b, 6, none⟩ = some (.int .u8 0) ∧ w.cell? ⟨b, 7, none⟩ = some (.int .u8 0) ∧ w.cell? ⟨b, 8, none⟩ = some (.int .u8 0)) (hS : Seg w a 3 1) :
    Calls Tryz.prog 77 #[.pointer (some ⟨p, 0, none⟩), .slice (some ⟨b, 0, none⟩) 9 9, .slice a 1 1, .int .i64 0] w fun e w' => e = .returned (.tuple #[]) ∧ Wr b 0 9 w w' ∧ (w'.cell? ⟨b, 0, none⟩ = some (.int .u8 48) ∧ w'.cell? ⟨b, 1, none⟩ = some (.int .u8 48) ∧ w'.cell? ⟨b, 2, none⟩ = some (.int .u8 48) ∧ w'.cell? ⟨b, 3, none⟩ = some (.int .u8 48) ∧ w'.cell? ⟨b, 4, none⟩ = some (.int .u8 48) ∧ w'.cell? ⟨b, 5, none⟩ = some (.int .u8 48) ∧ w'.cell? ⟨b, 6, none⟩ = some (.int .u8 48) ∧ w'.cell? ⟨b, 7, none⟩ = some (.int .u8 48) ∧ w'.cell? ⟨b, 8, none⟩ = some (.int .u8 51)) := by
  have H1 := hide' (word_any a 1 1 3 w (by omega) hS)
  have H2 := hide' (writeLimb_3 p b w h hp hR h1 h2 hc)
  clear hc
  go_enter Tryz.func77, Tryz.ntmps77
  go_wp2_with fail
  refine H1.out.mono ?_
  rintro e w1 ⟨rfl, rfl⟩
  go_wp2_with fail
  refine H2.out.mono ?_
  rintro e w2 ⟨rfl, hw, hc⟩
  go_wp2
  refine bodyPost_ret (results_none rfl _ _ _) rfl ?_
  exact ⟨rfl, hw, hc⟩
set_option maxHeartbeats 4000000 in
set_option maxRecDepth 100000 in
theorem noughts_3 (b : Nat) (w : World) (h : Digits w) (hc : w.cell? ⟨b, 0, none⟩ = some (.int .u8 48) ∧ w.cell? ⟨b, 1, none⟩ = some (.int .u8 48) ∧ w.cell? ⟨b, 2, none⟩ = some (.int .u8 48) ∧ w.cell? ⟨b, 3, none⟩ = some (.int .u8 48) ∧ w.cell? ⟨b, 4, none⟩ = some (.int .u8 48) ∧ w.cell? ⟨b, 5, none⟩ = some (.int .u8 48) ∧ w.cell? ⟨b, 6, none⟩ = some (.int .u8 48) ∧ w.cell? ⟨b, 7, none⟩ = some (.int .u8 48) ∧ w.cell? ⟨b, 8, none⟩ = some (.int .u8 51)) :
    Calls Tryz.prog 78 #[.slice (some ⟨b, 0, none⟩) 9 9] w fun e w' => e = .returned (.int .i64 8) ∧ Dr w w' := by
  obtain ⟨g0, g1, g2, g3, g4⟩ := h
  obtain ⟨c0, c1, c2, c3, c4, c5, c6, c7, c8⟩ := hc
  go_enter Tryz.func78, Tryz.ntmps78
  go_wp2_with fail
  refine wp_loop_rounds 9 ?_
  repeat (rw [rounds_succ]; go_wp2_with fail; (try go_quiet (fail)); go_wp2_with fail)
  go_ret
  exact ⟨rfl, by first | exact ⟨_, rfl⟩ | exact Dr.drewN ⟨_, rfl⟩ _⟩
end Go.Proofs.YtamkdnogkeilnaaGreatDoor

namespace Go.Proofs.YtamkdnogkeilnaaGreatDoor
open Go.RowKit
set_option linter.unusedVariables false

theorem mk9 (w : World) : (Instr.makeSlice 100 (.int .i64 9) (.int .i64 9)).run Tryz.prog w = .ok (.slice (some ⟨w.heap.size, 0, none⟩) 9 9) (w.alloc (.cells #[.int .u8 0, .int .u8 0, .int .u8 0, .int .u8 0, .int .u8 0, .int .u8 0, .int .u8 0, .int .u8 0, .int .u8 0] 5)) := by
  first | kernel_rfl | rfl
set_option maxHeartbeats 4000000 in
set_option maxRecDepth 100000 in
theorem nText_2 (a : Option Addr) (w : World) (h : Digits w) (hS : Seg w a 2 1) :
    Calls Tryz.prog 48 #[.slice a 1 1, .int .i64 10] w fun e w' => e = .returned (.tuple #[.string ⟨#[50]⟩, .int .i64 0]) ∧ Below w.heap.size w w' := by
  have H0 := hide' (trim_any a 1 1 2 w (Nat.le_refl _) (by omega) hS)
  rw [ln_2] at H0
  have H1 := hide' scaleOf2_10
  obtain ⟨N, hN⟩ : ∃ N : Nat, ln 1000000000 = N := ⟨_, rfl⟩
  rw [hN] at H1
  have hNl : N ≤ 2 := by rw [← hN]; exact ln_le_of_lt (by rw [BB2]; decide)
  have H2 := hide' (fun x y w' k1 k2 => Cmp_any x y 1 1 2 N N 1000000000 w' (Nat.le_refl _) (by omega) k1 (Nat.le_refl _) (by omega) k2)
  rw [show cmpI 2 1000000000 = -1 from by decide] at H2
  have H3 := hide' (fun p b x w' k1 k2 k3 k4 k5 k6 k7 => write_2 p b x w' k1 k2 k3 k4 k5 k6 k7)
  have H4 := hide' (fun b w' k1 k2 => noughts_2 b w' k1 k2)
  go_enter Tryz.func48, Tryz.ntmps48
  go_wp2_with fail
  refine (isBase_10 _).mono ?_
  rintro e w0 ⟨rfl, rfl⟩
  go_wp2_with fail
  refine H0.out.mono ?_
  rintro e w1 ⟨a1, rfl, rfl, ht⟩
  obtain rfl := ht.2 (by omega)
  go_wp2_with fail
  refine (H1.out _).mono ?_
  rintro e w2 ⟨a2, rfl, h2⟩
  have hc := below_alloc (w := w2) (.cells #[.int .i64 10, .int .i64 9, .slice none 0 0, .slice a2 N N] 98)
  have hB := h2.below.trans (hc.mono h2.below.size)
  have kS := hS.below hB (Nat.le_refl _)
  have kN := h2.seg.later hc
  have hD := h.below hB
  have q0 : (w2.alloc (.cells #[.int .i64 10, .int .i64 9, .slice none 0 0, .slice a2 N N] 98)).cell? ⟨w2.heap.size, 0, none⟩ = some (.int .i64 10) := by go_simp
  have q1 : (w2.alloc (.cells #[.int .i64 10, .int .i64 9, .slice none 0 0, .slice a2 N N] 98)).cell? ⟨w2.heap.size, 1, none⟩ = some (.int .i64 9) := by go_simp
  have q2 : (w2.alloc (.cells #[.int .i64 10, .int .i64 9, .slice none 0 0, .slice a2 N N] 98)).cell? ⟨w2.heap.size, 2, none⟩ = some (.slice none 0 0) := by go_simp
  have q3 : (w2.alloc (.cells #[.int .i64 10, .int .i64 9, .slice none 0 0, .slice a2 N N] 98)).cell? ⟨w2.heap.size, 3, none⟩ = some (.slice a2 N N) := by go_simp
  have hz : (w2.alloc (.cells #[.int .i64 10, .int .i64 9, .slice none 0 0, .slice a2 N N] 98)).heap.size = w2.heap.size + 1 := World.size_alloc _ _
  have hl2 := h2.below.size
  have hg : 0 < w0.heap.size := World.block_lt_of_cell? w0 ⟨0, 0, none⟩ h.1
  have G2 := hide' (H2.out _ _ _ kS kN)
  go_wp2_with fail
  generalize (w2.alloc (.cells #[.int .i64 10, .int .i64 9, .slice none 0 0, .slice a2 N N] 98)) = W at hB kS kN hD q0 q1 q2 q3 hz G2 ⊢
  refine wp_loop_rounds 1 ?_
  rw [rounds_succ]
  go_wp2_with fail
  refine G2.out.mono ?_
  rintro e w3 ⟨rfl, n3, rfl⟩
  go_wp2_with fail
  rw [mk9]
  simp only [Result.andThen]
  rw [Oper.upon_value]
  have b4 := below_alloc (w := W.drewN n3) (.cells #[.int .u8 0, .int .u8 0, .int .u8 0, .int .u8 0, .int .u8 0, .int .u8 0, .int .u8 0, .int .u8 0, .int .u8 0] 5)
  have r4 := row_new (W.drewN n3) #[.int .u8 0, .int .u8 0, .int .u8 0, .int .u8 0, .int .u8 0, .int .u8 0, .int .u8 0, .int .u8 0, .int .u8 0] 5
  have hs4 : (W.drewN n3).heap.size = W.heap.size := rfl
  simp only [hs4] at b4 r4 ⊢
  have cc : ∀ j, j < 9 → ((W.drewN n3).alloc (.cells #[.int .u8 0, .int .u8 0, .int .u8 0, .int .u8 0, .int .u8 0, .int .u8 0, .int .u8 0, .int .u8 0, .int .u8 0] 5)).cell? ⟨W.heap.size, j, none⟩ = some (.int .u8 0) := by
    intro j hj
    have := World.cell?_alloc_mark (W.drewN n3) #[.int .u8 0, .int .u8 0, .int .u8 0, .int .u8 0, .int .u8 0, .int .u8 0, .int .u8 0, .int .u8 0, .int .u8 0] 5 (0, 0) j
    simp only [hs4] at this
    rw [this]
    match j, hj with
    | 0, _ => rfl
    | 1, _ => rfl
    | 2, _ => rfl
    | 3, _ => rfl
    | 4, _ => rfl
    | 5, _ => rfl
    | 6, _ => rfl
    | 7, _ => rfl
    | 8, _ => rfl
  have hz4 : ((W.drewN n3).alloc (.cells #[.int .u8 0, .int .u8 0, .int .u8 0, .int .u8 0, .int .u8 0, .int .u8 0, .int .u8 0, .int .u8 0, .int .u8 0] 5)).heap.size = W.heap.size + 1 := World.size_alloc _ _
  have kS4 := (Seg.drewN (q := n3) kS).later b4
  have hD4 := (show Digits (W.drewN n3) from hD).below b4
  have p0 := below_cell b4 (show (W.drewN n3).cell? _ = _ from q0)
  have p1 := below_cell b4 (show (W.drewN n3).cell? _ = _ from q1)
  have p2 := below_cell b4 (show (W.drewN n3).cell? _ = _ from q2)
  have p3 := below_cell b4 (show (W.drewN n3).cell? _ = _ from q3)
  have G3 := hide' (H3.out w2.heap.size W.heap.size _ _ hD4 p0 r4 (by omega) (by omega) ⟨cc 0 (by omega), cc 1 (by omega), cc 2 (by omega), cc 3 (by omega), cc 4 (by omega), cc 5 (by omega), cc 6 (by omega), cc 7 (by omega), cc 8 (by omega)⟩ kS4)
  have hB4 := (below_drewN (q := n3) hB).trans (b4.mono hB.size)
  generalize ((W.drewN n3).alloc (.cells #[.int .u8 0, .int .u8 0, .int .u8 0, .int .u8 0, .int .u8 0, .int .u8 0, .int .u8 0, .int .u8 0, .int .u8 0] 5)) = W4 at hD4 p0 p1 p2 p3 r4 hz4 G3 hB4 ⊢
  clear cc b4 kS4 hs4 kN kS hD q0 q1 q2 q3 G2
  have hz1 := Nat.le_of_eq hz
  have hz2 := Nat.le_of_eq hz.symm
  have hz3 := Nat.le_of_eq hz4.symm
  clear hz hz4
  go_wp2_with fail
  refine G3.out.mono ?_
  rintro e w5 ⟨rfl, hwr, hcs⟩
  have hs2 := hB.size
  have hB5 := hB4.trans (hwr.below (B := w0.heap.size) (by omega) (by omega))
  have hD5 := h.below hB5
  have G4 := hide' (H4.out _ _ hD5 hcs)
  have c8 := hcs.2.2.2.2.2.2.2.2
  clear hcs
  go_wp2_with fail
  refine G4.out.mono ?_
  rintro e w6 ⟨rfl, n6, rfl⟩
  have hcv := fun cap => run_convert_bytes_back (P := Tryz.prog) (w5.drewN n6) 100 9 5 ⟨W.heap.size, 8, none⟩ cap [50] Tryz.underlying100 Tryz.underlying5 Tryz.underlying9 (fun j hj => by match j, hj with | 0, _ => exact c8)
  simp only [List.length_singleton] at hcv
  go_wp2
  all_goals (try go_ret2)
  all_goals exact ⟨rfl, below_drewN hB5⟩
set_option maxHeartbeats 4000000 in
set_option maxRecDepth 100000 in
theorem nText_3 (a : Option Addr) (w : World) (h : Digits w) (hS : Seg w a 3 1) :
    Calls Tryz.prog 48 #[.slice a 1 1, .int .i64 10] w fun e w' => e = .returned (.tuple #[.string ⟨#[51]⟩, .int .i64 0]) ∧ Below w.heap.size w w' := by
  have H0 := hide' (trim_any a 1 1 3 w (Nat.le_refl _) (by omega) hS)
  rw [ln_3] at H0
  have H1 := hide' scaleOf2_10
  obtain ⟨N, hN⟩ : ∃ N : Nat, ln 1000000000 = N := ⟨_, rfl⟩
  rw [hN] at H1
  have hNl : N ≤ 2 := by rw [← hN]; exact ln_le_of_lt (by rw [BB2]; decide)
  have H2 := hide' (fun x y w' k1 k2 => Cmp_any x y 1 1 3 N N 1000000000 w' (Nat.le_refl _) (by omega) k1 (Nat.le_refl _) (by omega) k2)
  rw [show cmpI 3 1000000000 = -1 from by decide] at H2
  have H3 := hide' (fun p b x w' k1 k2 k3 k4 k5 k6 k7 => write_3 p b x w' k1 k2 k3 k4 k5 k6 k7)
  have H4 := hide' (fun b w' k1 k2 => noughts_3 b w' k1 k2)
  go_enter Tryz.func48, Tryz.ntmps48
  go_wp2_with fail
  refine (isBase_10 _).mono ?_
  rintro e w0 ⟨rfl, rfl⟩
  go_wp2_with fail
  refine H0.out.mono ?_
  rintro e w1 ⟨a1, rfl, rfl, ht⟩
  obtain rfl := ht.2 (by omega)
  go_wp2_with fail
  refine (H1.out _).mono ?_
  rintro e w2 ⟨a2, rfl, h2⟩
  have hc := below_alloc (w := w2) (.cells #[.int .i64 10, .int .i64 9, .slice none 0 0, .slice a2 N N] 98)
  have hB := h2.below.trans (hc.mono h2.below.size)
  have kS := hS.below hB (Nat.le_refl _)
  have kN := h2.seg.later hc
  have hD := h.below hB
  have q0 : (w2.alloc (.cells #[.int .i64 10, .int .i64 9, .slice none 0 0, .slice a2 N N] 98)).cell? ⟨w2.heap.size, 0, none⟩ = some (.int .i64 10) := by go_simp
  have q1 : (w2.alloc (.cells #[.int .i64 10, .int .i64 9, .slice none 0 0, .slice a2 N N] 98)).cell? ⟨w2.heap.size, 1, none⟩ = some (.int .i64 9) := by go_simp
  have q2 : (w2.alloc (.cells #[.int .i64 10, .int .i64 9, .slice none 0 0, .slice a2 N N] 98)).cell? ⟨w2.heap.size, 2, none⟩ = some (.slice none 0 0) := by go_simp
  have q3 : (w2.alloc (.cells #[.int .i64 10, .int .i64 9, .slice none 0 0, .slice a2 N N] 98)).cell? ⟨w2.heap.size, 3, none⟩ = some (.slice a2 N N) := by go_simp
  have hz : (w2.alloc (.cells #[.int .i64 10, .int .i64 9, .slice none 0 0, .slice a2 N N] 98)).heap.size = w2.heap.size + 1 := World.size_alloc _ _
  have hl2 := h2.below.size
  have hg : 0 < w0.heap.size := World.block_lt_of_cell? w0 ⟨0, 0, none⟩ h.1
  have G2 := hide' (H2.out _ _ _ kS kN)
  go_wp2_with fail
  generalize (w2.alloc (.cells #[.int .i64 10, .int .i64 9, .slice none 0 0, .slice a2 N N] 98)) = W at hB kS kN hD q0 q1 q2 q3 hz G2 ⊢
  refine wp_loop_rounds 1 ?_
  rw [rounds_succ]
  go_wp2_with fail
  refine G2.out.mono ?_
  rintro e w3 ⟨rfl, n3, rfl⟩
  go_wp2_with fail
  rw [mk9]
  simp only [Result.andThen]
  rw [Oper.upon_value]
  have b4 := below_alloc (w := W.drewN n3) (.cells #[.int .u8 0, .int .u8 0, .int .u8 0, .int .u8 0, .int .u8 0, .int .u8 0, .int .u8 0, .int .u8 0, .int .u8 0] 5)
  have r4 := row_new (W.drewN n3) #[.int .u8 0, .int .u8 0, .int .u8 0, .int .u8 0, .int .u8 0, .int .u8 0, .int .u8 0, .int .u8 0, .int .u8 0] 5
  have hs4 : (W.drewN n3).heap.size = W.heap.size := rfl
  simp only [hs4] at b4 r4 ⊢
  have cc : ∀ j, j < 9 → ((W.drewN n3).alloc (.cells #[.int .u8 0, .int .u8 0, .int .u8 0, .int .u8 0, .int .u8 0, .int .u8 0, .int .u8 0, .int .u8 0, .int .u8 0] 5)).cell? ⟨W.heap.size, j, none⟩ = some (.int .u8 0) := by
    intro j hj
    have := World.cell?_alloc_mark (W.drewN n3) #[.int .u8 0, .int .u8 0, .int .u8 0, .int .u8 0, .int .u8 0, .int .u8 0, .int .u8 0, .int .u8 0, .int .u8 0] 5 (0, 0) j
    simp only [hs4] at this
    rw [this]
    match j, hj with
    | 0, _ => rfl
    | 1, _ => rfl
    | 2, _ => rfl
    | 3, _ => rfl
    | 4, _ => rfl
    | 5, _ => rfl
    | 6, _ => rfl
    | 7, _ => rfl
    | 8, _ => rfl
  have hz4 : ((W.drewN n3).alloc (.cells #[.int .u8 0, .int .u8 0, .int .u8 0, .int .u8 0, .int .u8 0, .int .u8 0, .int .u8 0, .int .u8 0, .int .u8 0] 5)).heap.size = W.heap.size + 1 := World.size_alloc _ _
  have kS4 := (Seg.drewN (q := n3) kS).later b4
  have hD4 := (show Digits (W.drewN n3) from hD).below b4
  have p0 := below_cell b4 (show (W.drewN n3).cell? _ = _ from q0)
  have p1 := below_cell b4 (show (W.drewN n3).cell? _ = _ from q1)
  have p2 := below_cell b4 (show (W.drewN n3).cell? _ = _ from q2)
  have p3 := below_cell b4 (show (W.drewN n3).cell? _ = _ from q3)
  have G3 := hide' (H3.out w2.heap.size W.heap.size _ _ hD4 p0 r4 (by omega) (by omega) ⟨cc 0 (by omega), cc 1 (by omega), cc 2 (by omega), cc 3 (by omega), cc 4 (by omega), cc 5 (by omega), cc 6 (by omega), cc 7 (by omega), cc 8 (by omega)⟩ kS4)
  have hB4 := (below_drewN (q := n3) hB).trans (b4.mono hB.size)
  generalize ((W.drewN n3).alloc (.cells #[.int .u8 0, .int .u8 0, .int .u8 0, .int .u8 0, .int .u8 0, .int .u8 0, .int .u8 0, .int .u8 0, .int .u8 0] 5)) = W4 at hD4 p0 p1 p2 p3 r4 hz4 G3 hB4 ⊢
  clear cc b4 kS4 hs4 kN kS hD q0 q1 q2 q3 G2
  have hz1 := Nat.le_of_eq hz
  have hz2 := Nat.le_of_eq hz.symm
  have hz3 := Nat.le_of_eq hz4.symm
  clear hz hz4
  go_wp2_with fail
  refine G3.out.mono ?_
  rintro e w5 ⟨rfl, hwr, hcs⟩
  have hs2 := hB.size
  have hB5 := hB4.trans (hwr.below (B := w0.heap.size) (by omega) (by omega))
  have hD5 := h.below hB5
  have G4 := hide' (H4.out _ _ hD5 hcs)
  have c8 := hcs.2.2.2.2.2.2.2.2
  clear hcs
  go_wp2_with fail
  refine G4.out.mono ?_
  rintro e w6 ⟨rfl, n6, rfl⟩
  have hcv := fun cap => run_convert_bytes_back (P := Tryz.prog) (w5.drewN n6) 100 9 5 ⟨W.heap.size, 8, none⟩ cap [51] Tryz.underlying100 Tryz.underlying5 Tryz.underlying9 (fun j hj => by match j, hj with | 0, _ => exact c8)
  simp only [List.length_singleton] at hcv
  go_wp2
  all_goals (try go_ret2)
  all_goals exact ⟨rfl, below_drewN hB5⟩
end Go.Proofs.YtamkdnogkeilnaaGreatDoor

namespace Go.Proofs.YtamkdnogkeilnaaGreatDoor
open Go.RowKit
set_option linter.unusedVariables false

set_option maxHeartbeats 1000000 in
set_option maxRecDepth 100000 in
theorem wText_3 (a : Option Addr) (w : World) (h : Digits w) (hS : Seg w a 3 1) : Calls Tryz.prog 25 #[.agg #[.bool false, .slice a 1 1]] w fun e w' => e = .returned (.string ⟨#[51]⟩) ∧ Below w.heap.size w w' := by
  have H1 := hide' (fun w' k1 k2 => nText_3 a w' k1 k2)
  have H2' := fun w' k => wSign_is false a 1 1 3 3 w' (Nat.le_refl _) (by omega) k (by decide)
  rw [show sgn 3 = 1 from rfl] at H2'
  have H2 := hide' H2'
  clear H2'
  have HD := hide' h
  clear h
  have e1 : (⟨#[45]⟩ : ByteArray) ++ ⟨#[50]⟩ = ⟨#[45, 50]⟩ := by decide +kernel
  go_enter Tryz.func25, Tryz.ntmps25
  go_wp2_with fail
  obtain ⟨W, hW⟩ : ∃ W, (w.alloc (.cells #[.bool false, .slice a 1 1] 25)) = W := ⟨_, rfl⟩
  have q00 : W.cell? ⟨w.heap.size, 0, none⟩ = some (.bool false) := by subst hW; go_simp
  have q01 : W.cell? ⟨w.heap.size, 1, none⟩ = some (.slice a 1 1) := by subst hW; go_simp
  have hB : Below w.heap.size w W := by subst hW; exact ((Below.refl _ _).alloc (by (try simp only [World.size_alloc]); omega) _)
  have hz : W.heap.size = w.heap.size + 1 := by subst hW; simp only [World.size_alloc]
  rw [hW]
  clear hW
  have hBW : Below W.heap.size W W := Below.refl _ _
  refine (H1.out _ (HD.out.below (hB.trans (hBW.mono hB.size))) (sb hS hB hBW)).mono ?_
  rintro e w41 ⟨rfl, b41⟩
  replace hBW := hBW.trans (b41.mono hBW.size)
  replace q00 := below_cell b41 q00
  replace q01 := below_cell b41 q01
  go_wp2_with fail
  refine (H2.out _ (sb hS hB hBW)).mono ?_
  rintro e w42 ⟨rfl, b42⟩
  replace hBW := hBW.trans (b42.mono hBW.size)
  replace q00 := below_cell b42 q00
  replace q01 := below_cell b42 q01
  go_wp2
  go_ret
  exact ⟨by first | rfl | simp only [e1], hB.trans (hBW.mono hB.size)⟩

set_option maxHeartbeats 1000000 in
set_option maxRecDepth 100000 in
theorem wText_m2 (a : Option Addr) (w : World) (h : Digits w) (hS : Seg w a 2 1) : Calls Tryz.prog 25 #[.agg #[.bool true, .slice a 1 1]] w fun e w' => e = .returned (.string ⟨#[45, 50]⟩) ∧ Below w.heap.size w w' := by
  have H1 := hide' (fun w' k1 k2 => nText_2 a w' k1 k2)
  have H2' := fun w' k => wSign_is true a 1 1 2 (-2) w' (Nat.le_refl _) (by omega) k (by decide)
  rw [show sgn (-2) = -1 from rfl] at H2'
  have H2 := hide' H2'
  clear H2'
  have HD := hide' h
  clear h
  have e1 : (⟨#[45]⟩ : ByteArray) ++ ⟨#[50]⟩ = ⟨#[45, 50]⟩ := by decide +kernel
  go_enter Tryz.func25, Tryz.ntmps25
  go_wp2_with fail
  obtain ⟨W, hW⟩ : ∃ W, (w.alloc (.cells #[.bool true, .slice a 1 1] 25)) = W := ⟨_, rfl⟩
  have q00 : W.cell? ⟨w.heap.size, 0, none⟩ = some (.bool true) := by subst hW; go_simp
  have q01 : W.cell? ⟨w.heap.size, 1, none⟩ = some (.slice a 1 1) := by subst hW; go_simp
  have hB : Below w.heap.size w W := by subst hW; exact ((Below.refl _ _).alloc (by (try simp only [World.size_alloc]); omega) _)
  have hz : W.heap.size = w.heap.size + 1 := by subst hW; simp only [World.size_alloc]
  rw [hW]
  clear hW
  have hBW : Below W.heap.size W W := Below.refl _ _
  refine (H1.out _ (HD.out.below (hB.trans (hBW.mono hB.size))) (sb hS hB hBW)).mono ?_
  rintro e w41 ⟨rfl, b41⟩
  replace hBW := hBW.trans (b41.mono hBW.size)
  replace q00 := below_cell b41 q00
  replace q01 := below_cell b41 q01
  go_wp2_with fail
  refine (H2.out _ (sb hS hB hBW)).mono ?_
  rintro e w42 ⟨rfl, b42⟩
  replace hBW := hBW.trans (b42.mono hBW.size)
  replace q00 := below_cell b42 q00
  replace q01 := below_cell b42 q01
  go_wp2
  go_ret
  exact ⟨by first | rfl | simp only [e1], hB.trans (hBW.mono hB.size)⟩

set_option maxHeartbeats 1000000 in
theorem isOne_1 (q : Option Addr) (w : World) (hS : Seg w q 1 1) : Calls Tryz.prog 24 #[.slice q 1 1] w fun e w' => e = .returned (.bool true) ∧ w' = w := by
  obtain ⟨b, off, rfl, hb, hc⟩ := hS.2 (by omega)
  have h0 := hc 0 (by omega)
  rw [dg0, Nat.add_zero] at h0
  clear hc
  go_enter Tryz.func24, Tryz.ntmps24
  go_wp2
  go_ret
  exact ⟨rfl, rfl⟩
theorem lowN_3 : Low (rn false 3 1) ((rd 1 : Nat) : Int) 3 1 := ⟨by decide, by omega, by decide, by decide⟩
set_option maxHeartbeats 1000000 in
set_option maxRecDepth 100000 in
theorem qText_3 (p q : Option Addr) (w : World) (h : Digits w) (hS : Seg w p 3 1) (hT : Seg w q 1 1) : Calls Tryz.prog 12 #[Value.agg #[Value.bool false, Value.slice p 1 1, Value.slice q 1 1]] w fun e w' => e = .returned (.string ⟨#[51]⟩) ∧ Below w.heap.size w w' := by
  have P1 : ∀ w', Seg w' p 3 1 → Seg w' q 1 1 → Calls Tryz.prog 23 #[Value.agg #[Value.bool false, Value.slice p 1 1, Value.slice q 1 1]] w' fun e w'' => ∃ p q, e = .returned (Value.agg #[Value.bool false, Value.slice p 1 1, Value.slice q 1 1]) ∧ New w' w'' p 3 1 ∧ New w' w'' q 1 1 := fun w' k1 k2 => by
    have := qNorm_is false p 1 1 3 q 1 1 1 3 1 w' (Nat.le_refl _) (by omega) k1 (Nat.le_refl _) (by omega) k2 lowN_3
    rw [show ng 3 = false from rfl, show am 3 = 3 from rfl, ln_1, ln_3] at this
    exact this
  have H1 := hide' P1
  clear P1
  have H2 := hide' (fun q w' k => isOne_1 q w' k)
  have H3 := hide' (fun a w' k1 k2 => wText_3 a w' k1 k2)
  have HD := hide' h
  clear h
  go_enter Tryz.func12, Tryz.ntmps12
  go_wp2_with fail
  obtain ⟨W, hW⟩ : ∃ W, (w.alloc (.cells #[.bool false, .slice p 1 1, .slice q 1 1] 27)) = W := ⟨_, rfl⟩
  have q00 : W.cell? ⟨w.heap.size, 0, none⟩ = some (.bool false) := by subst hW; go_simp
  have q01 : W.cell? ⟨w.heap.size, 1, none⟩ = some (.slice p 1 1) := by subst hW; go_simp
  have q02 : W.cell? ⟨w.heap.size, 2, none⟩ = some (.slice q 1 1) := by subst hW; go_simp
  have hB : Below w.heap.size w W := by subst hW; exact ((Below.refl _ _).alloc (by (try simp only [World.size_alloc]); omega) _)
  have hz : W.heap.size = w.heap.size + 1 := by subst hW; simp only [World.size_alloc]
  rw [hW]
  clear hW
  have hBW : Below W.heap.size W W := Below.refl _ _
  refine (H1.out _ (sb hS hB hBW) (sb hT hB hBW)).mono ?_
  rintro e w41 ⟨p41, q41, rfl, hp41, hq41⟩
  have b41 := hp41.below
  replace hp41 := hp41.back hBW
  replace hq41 := hq41.back hBW
  replace hBW := hBW.trans (b41.mono hBW.size)
  replace q00 := below_cell b41 q00
  replace q01 := below_cell b41 q01
  replace q02 := below_cell b41 q02
  have hsz41 := hBW.size
  have l4100 : ((w41.alloc (.cells #[.bool false, .slice p41 1 1, .slice q41 1 1] 27))).cell? ⟨w41.heap.size, 0, none⟩ = some (.bool false) := by go_simp
  have l4101 : ((w41.alloc (.cells #[.bool false, .slice p41 1 1, .slice q41 1 1] 27))).cell? ⟨w41.heap.size, 1, none⟩ = some (.slice p41 1 1) := by go_simp
  have l4102 : ((w41.alloc (.cells #[.bool false, .slice p41 1 1, .slice q41 1 1] 27))).cell? ⟨w41.heap.size, 2, none⟩ = some (.slice q41 1 1) := by go_simp
  have cb41 : Below w41.heap.size w41 ((w41.alloc (.cells #[.bool false, .slice p41 1 1, .slice q41 1 1] 27))) := ((Below.refl _ _).alloc (by (try simp only [World.size_alloc]); omega) _)
  replace hBW := hBW.trans (cb41.mono hBW.size)
  replace q00 := below_cell cb41 q00
  replace q01 := below_cell cb41 q01
  replace q02 := below_cell cb41 q02
  replace hp41 := hp41.later cb41
  replace hq41 := hq41.later cb41
  have hL410 : Row ((w41.alloc (.cells #[.bool false, .slice p41 1 1, .slice q41 1 1] 27))) (w41.heap.size) := by
    have := row_new (w41) #[.bool false, .slice p41 1 1, .slice q41 1 1] 27
    try simp only [World.size_alloc] at this
    exact this
  go_wp2_with fail
  generalize (w41.alloc (.cells #[.bool false, .slice p41 1 1, .slice q41 1 1] 27)) = w41x at q00 q01 q02 l4100 l4101 l4102 hL410 hp41 hq41 hBW cb41 ⊢
  clear cb41
  refine (H2.out _ _ hq41.seg).mono ?_
  rintro e w42 ⟨rfl, rfl⟩
  go_wp2_with fail
  refine (H3.out _ _ (HD.out.below (hB.trans (hBW.mono hB.size))) hp41.seg).mono ?_
  rintro e w43 ⟨rfl, b43⟩
  replace hBW := hBW.trans (b43.mono hBW.size)
  replace q00 := below_cell b43 q00
  replace q01 := below_cell b43 q01
  replace q02 := below_cell b43 q02
  replace l4100 := below_cell b43 l4100
  replace l4101 := below_cell b43 l4101
  replace l4102 := below_cell b43 l4102
  replace hL410 := below_row b43 hL410
  replace hp41 := hp41.later b43
  replace hq41 := hq41.later b43
  go_wp2
  go_ret
  exact ⟨rfl, hB.trans (hBW.mono hB.size)⟩

theorem lowN_m2 : Low (rn true 2 1) ((rd 1 : Nat) : Int) (-2) 1 := ⟨by decide, by omega, by decide, by decide⟩
set_option maxHeartbeats 1000000 in
set_option maxRecDepth 100000 in
theorem qText_m2 (p q : Option Addr) (w : World) (h : Digits w) (hS : Seg w p 2 1) (hT : Seg w q 1 1) : Calls Tryz.prog 12 #[Value.agg #[Value.bool true, Value.slice p 1 1, Value.slice q 1 1]] w fun e w' => e = .returned (.string ⟨#[45, 50]⟩) ∧ Below w.heap.size w w' := by
  have P1 : ∀ w', Seg w' p 2 1 → Seg w' q 1 1 → Calls Tryz.prog 23 #[Value.agg #[Value.bool true, Value.slice p 1 1, Value.slice q 1 1]] w' fun e w'' => ∃ p q, e = .returned (Value.agg #[Value.bool true, Value.slice p 1 1, Value.slice q 1 1]) ∧ New w' w'' p 2 1 ∧ New w' w'' q 1 1 := fun w' k1 k2 => by
    have := qNorm_is true p 1 1 2 q 1 1 1 (-2) 1 w' (Nat.le_refl _) (by omega) k1 (Nat.le_refl _) (by omega) k2 lowN_m2
    rw [show ng (-2) = true from rfl, show am (-2) = 2 from rfl, ln_1, ln_2] at this
    exact this
  have H1 := hide' P1
  clear P1
  have H2 := hide' (fun q w' k => isOne_1 q w' k)
  have H3 := hide' (fun a w' k1 k2 => wText_m2 a w' k1 k2)
  have HD := hide' h
  clear h
  go_enter Tryz.func12, Tryz.ntmps12
  go_wp2_with fail
  obtain ⟨W, hW⟩ : ∃ W, (w.alloc (.cells #[.bool true, .slice p 1 1, .slice q 1 1] 27)) = W := ⟨_, rfl⟩
  have q00 : W.cell? ⟨w.heap.size, 0, none⟩ = some (.bool true) := by subst hW; go_simp
  have q01 : W.cell? ⟨w.heap.size, 1, none⟩ = some (.slice p 1 1) := by subst hW; go_simp
  have q02 : W.cell? ⟨w.heap.size, 2, none⟩ = some (.slice q 1 1) := by subst hW; go_simp
  have hB : Below w.heap.size w W := by subst hW; exact ((Below.refl _ _).alloc (by (try simp only [World.size_alloc]); omega) _)
  have hz : W.heap.size = w.heap.size + 1 := by subst hW; simp only [World.size_alloc]
  rw [hW]
  clear hW
  have hBW : Below W.heap.size W W := Below.refl _ _
  refine (H1.out _ (sb hS hB hBW) (sb hT hB hBW)).mono ?_
  rintro e w41 ⟨p41, q41, rfl, hp41, hq41⟩
  have b41 := hp41.below
  replace hp41 := hp41.back hBW
  replace hq41 := hq41.back hBW
  replace hBW := hBW.trans (b41.mono hBW.size)
  replace q00 := below_cell b41 q00
  replace q01 := below_cell b41 q01
  replace q02 := below_cell b41 q02
  have hsz41 := hBW.size
  have l4100 : ((w41.alloc (.cells #[.bool true, .slice p41 1 1, .slice q41 1 1] 27))).cell? ⟨w41.heap.size, 0, none⟩ = some (.bool true) := by go_simp
  have l4101 : ((w41.alloc (.cells #[.bool true, .slice p41 1 1, .slice q41 1 1] 27))).cell? ⟨w41.heap.size, 1, none⟩ = some (.slice p41 1 1) := by go_simp
  have l4102 : ((w41.alloc (.cells #[.bool true, .slice p41 1 1, .slice q41 1 1] 27))).cell? ⟨w41.heap.size, 2, none⟩ = some (.slice q41 1 1) := by go_simp
  have cb41 : Below w41.heap.size w41 ((w41.alloc (.cells #[.bool true, .slice p41 1 1, .slice q41 1 1] 27))) := ((Below.refl _ _).alloc (by (try simp only [World.size_alloc]); omega) _)
  replace hBW := hBW.trans (cb41.mono hBW.size)
  replace q00 := below_cell cb41 q00
  replace q01 := below_cell cb41 q01
  replace q02 := below_cell cb41 q02
  replace hp41 := hp41.later cb41
  replace hq41 := hq41.later cb41
  have hL410 : Row ((w41.alloc (.cells #[.bool true, .slice p41 1 1, .slice q41 1 1] 27))) (w41.heap.size) := by
    have := row_new (w41) #[.bool true, .slice p41 1 1, .slice q41 1 1] 27
    try simp only [World.size_alloc] at this
    exact this
  go_wp2_with fail
  generalize (w41.alloc (.cells #[.bool true, .slice p41 1 1, .slice q41 1 1] 27)) = w41x at q00 q01 q02 l4100 l4101 l4102 hL410 hp41 hq41 hBW cb41 ⊢
  clear cb41
  refine (H2.out _ _ hq41.seg).mono ?_
  rintro e w42 ⟨rfl, rfl⟩
  go_wp2_with fail
  refine (H3.out _ _ (HD.out.below (hB.trans (hBW.mono hB.size))) hp41.seg).mono ?_
  rintro e w43 ⟨rfl, b43⟩
  replace hBW := hBW.trans (b43.mono hBW.size)
  replace q00 := below_cell b43 q00
  replace q01 := below_cell b43 q01
  replace q02 := below_cell b43 q02
  replace l4100 := below_cell b43 l4100
  replace l4101 := below_cell b43 l4101
  replace l4102 := below_cell b43 l4102
  replace hL410 := below_row b43 hL410
  replace hp41 := hp41.later b43
  replace hq41 := hq41.later b43
  go_wp2
  go_ret
  exact ⟨rfl, hB.trans (hBW.mono hB.size)⟩

set_option maxHeartbeats 2000000 in
set_option maxRecDepth 100000 in
theorem dText_v (p q r t : Option Addr) (w : World) (h : Digits w) (hS : Seg w p 3 1) (hT : Seg w q 1 1) (hU : Seg w r 2 1) (hV : Seg w t 1 1) : Calls Tryz.prog 6 #[Value.agg #[Value.bool false, Value.slice p 1 1, Value.slice q 1 1, Value.bool true, Value.slice r 1 1, Value.slice t 1 1]] w fun e w' => e = .returned (.string ⟨#[51, 45, 50, 100]⟩) ∧ Below w.heap.size w w' := by
  have H1 := hide' (fun w' k1 k2 k3 => qText_3 p q w' k1 k2 k3)
  have H2 := hide' (fun w' k1 k2 => qSign_is true r 1 1 2 t 1 1 1 (-1) w' (Nat.le_refl _) (by omega) k1 (Nat.le_refl _) (by omega) k2 (by decide))
  have H3 := hide' (fun w' k1 k2 k3 => qText_m2 r t w' k1 k2 k3)
  have HD := hide' h
  clear h
  have e1 : (⟨#[45, 50]⟩ : ByteArray) ++ ⟨#[100]⟩ = ⟨#[45, 50, 100]⟩ := by decide +kernel
  have e2 : (⟨#[51]⟩ : ByteArray) ++ ⟨#[45, 50, 100]⟩ = ⟨#[51, 45, 50, 100]⟩ := by decide +kernel
  go_enter Tryz.func6, Tryz.ntmps6
  go_wp2_with fail
  obtain ⟨W, hW⟩ : ∃ W, (w.alloc (.cells #[.bool false, .slice p 1 1, .slice q 1 1, .bool true, .slice r 1 1, .slice t 1 1] 29)) = W := ⟨_, rfl⟩
  have q00 : W.cell? ⟨w.heap.size, 0, none⟩ = some (.bool false) := by subst hW; go_simp
  have q01 : W.cell? ⟨w.heap.size, 1, none⟩ = some (.slice p 1 1) := by subst hW; go_simp
  have q02 : W.cell? ⟨w.heap.size, 2, none⟩ = some (.slice q 1 1) := by subst hW; go_simp
  have q03 : W.cell? ⟨w.heap.size, 3, none⟩ = some (.bool true) := by subst hW; go_simp
  have q04 : W.cell? ⟨w.heap.size, 4, none⟩ = some (.slice r 1 1) := by subst hW; go_simp
  have q05 : W.cell? ⟨w.heap.size, 5, none⟩ = some (.slice t 1 1) := by subst hW; go_simp
  have hB : Below w.heap.size w W := by subst hW; exact ((Below.refl _ _).alloc (by (try simp only [World.size_alloc]); omega) _)
  have hz : W.heap.size = w.heap.size + 1 := by subst hW; simp only [World.size_alloc]
  rw [hW]
  clear hW
  have hBW : Below W.heap.size W W := Below.refl _ _
  refine (H1.out _ (HD.out.below (hB.trans (hBW.mono hB.size))) (sb hS hB hBW) (sb hT hB hBW)).mono ?_
  rintro e w41 ⟨rfl, b41⟩
  replace hBW := hBW.trans (b41.mono hBW.size)
  replace q00 := below_cell b41 q00
  replace q01 := below_cell b41 q01
  replace q02 := below_cell b41 q02
  replace q03 := below_cell b41 q03
  replace q04 := below_cell b41 q04
  replace q05 := below_cell b41 q05
  go_wp2_with fail
  refine (H2.out _ (sb hU hB hBW) (sb hV hB hBW)).mono ?_
  rintro e w42 ⟨rfl, b42⟩
  replace hBW := hBW.trans (b42.mono hBW.size)
  replace q00 := below_cell b42 q00
  replace q01 := below_cell b42 q01
  replace q02 := below_cell b42 q02
  replace q03 := below_cell b42 q03
  replace q04 := below_cell b42 q04
  replace q05 := below_cell b42 q05
  go_wp2_with fail
  refine (H3.out _ (HD.out.below (hB.trans (hBW.mono hB.size))) (sb hU hB hBW) (sb hV hB hBW)).mono ?_
  rintro e w43 ⟨rfl, b43⟩
  replace hBW := hBW.trans (b43.mono hBW.size)
  replace q00 := below_cell b43 q00
  replace q01 := below_cell b43 q01
  replace q02 := below_cell b43 q02
  replace q03 := below_cell b43 q03
  replace q04 := below_cell b43 q04
  replace q05 := below_cell b43 q05
  go_wp2
  go_ret
  exact ⟨by first | rfl | simp only [e1, e2], hB.trans (hBW.mono hB.size)⟩

end Go.Proofs.YtamkdnogkeilnaaGreatDoor

namespace Go.Proofs.YtamkdnogkeilnaaGreatDoor
open Go.RowKit
set_option linter.unusedVariables false

set_option maxHeartbeats 4000000 in
set_option maxRecDepth 100000 in
theorem dParse_v (w : World) (h : Digits w) : Calls Tryz.prog 9 #[.string ⟨#[51, 45, 50, 100]⟩] w fun e w' => ∃ p q r t, e = .returned (.tuple #[Value.agg #[Value.bool false, Value.slice p 1 1, Value.slice q 1 1, Value.bool true, Value.slice r 1 1, Value.slice t 1 1], .int .i64 0]) ∧ New w w' p 3 1 ∧ New w w' q 1 1 ∧ New w w' r 2 1 ∧ New w w' t 1 1 := by
  have H0 := hide' dcut_v
  have H1 := hide' qParse_v3
  have H2 := hide' qParse_vm2
  have H3 := hide' (fun p q r t w' k1 k2 k3 k4 k5 => dText_v p q r t w' k1 k2 k3 k4 k5)
  have HD := hide' h
  clear h
  have hne : ((⟨#[51, 45, 50, 100]⟩ : ByteArray) != ⟨#[51, 45, 50, 100]⟩) = false := by decide
  have hne2 : ((⟨#[51, 45, 50, 100]⟩ : ByteArray).toList != (⟨#[51, 45, 50, 100]⟩ : ByteArray).toList) = false := by simp
  go_enter Tryz.func9, Tryz.ntmps9
  go_wp2_with fail
  obtain ⟨W, hW⟩ : ∃ W, (w.alloc (.cells #[.bool false, .slice none 0 0, .slice none 0 0, .bool false, .slice none 0 0, .slice none 0 0] 29)) = W := ⟨_, rfl⟩
  have r00 : W.cell? ⟨w.heap.size, 0, none⟩ = some (.bool false) := by subst hW; go_simp
  have r01 : W.cell? ⟨w.heap.size, 1, none⟩ = some (.slice none 0 0) := by subst hW; go_simp
  have r02 : W.cell? ⟨w.heap.size, 2, none⟩ = some (.slice none 0 0) := by subst hW; go_simp
  have r03 : W.cell? ⟨w.heap.size, 3, none⟩ = some (.bool false) := by subst hW; go_simp
  have r04 : W.cell? ⟨w.heap.size, 4, none⟩ = some (.slice none 0 0) := by subst hW; go_simp
  have r05 : W.cell? ⟨w.heap.size, 5, none⟩ = some (.slice none 0 0) := by subst hW; go_simp
  have hB : Below w.heap.size w W := by subst hW; exact ((Below.refl _ _).alloc (by (try simp only [World.size_alloc]); omega) _)
  have hR0 : Row W (w.heap.size) := by
    have := row_new (w) #[.bool false, .slice none 0 0, .slice none 0 0, .bool false, .slice none 0 0, .slice none 0 0] 29
    try simp only [World.size_alloc] at this
    subst hW; exact this
  have hz : W.heap.size = w.heap.size + 1 := by subst hW; simp only [World.size_alloc]
  rw [hW]
  clear hW
  have hBW : Below W.heap.size W W := Below.refl _ _
  refine (H0.out _).mono ?_
  rintro e w41 ⟨rfl, dd41⟩
  have b41 := dd41.below W.heap.size
  replace hBW := hBW.trans (b41.mono hBW.size)
  replace r00 := below_cell b41 r00
  replace r01 := below_cell b41 r01
  replace r02 := below_cell b41 r02
  replace r03 := below_cell b41 r03
  replace r04 := below_cell b41 r04
  replace r05 := below_cell b41 r05
  replace hR0 := below_row b41 hR0
  go_wp2_with fail
  refine (H1.out _ (HD.out.below (hB.trans (hBW.mono hB.size)))).mono ?_
  rintro e w42 ⟨p42, q42, rfl, hp42, hq42⟩
  have b42 := hp42.below
  replace hp42 := hp42.back hBW
  replace hq42 := hq42.back hBW
  replace hBW := hBW.trans (b42.mono hBW.size)
  replace r00 := below_cell b42 r00
  replace r01 := below_cell b42 r01
  replace r02 := below_cell b42 r02
  replace r03 := below_cell b42 r03
  replace r04 := below_cell b42 r04
  replace r05 := below_cell b42 r05
  replace hR0 := below_row b42 hR0
  have hsz42 := hBW.size
  have hlt42hR0 := hR0.lt
  have l4200 : ((w42.alloc (.cells #[.bool false, .slice p42 1 1, .slice q42 1 1] 27))).cell? ⟨w42.heap.size, 0, none⟩ = some (.bool false) := by go_simp
  have l4201 : ((w42.alloc (.cells #[.bool false, .slice p42 1 1, .slice q42 1 1] 27))).cell? ⟨w42.heap.size, 1, none⟩ = some (.slice p42 1 1) := by go_simp
  have l4202 : ((w42.alloc (.cells #[.bool false, .slice p42 1 1, .slice q42 1 1] 27))).cell? ⟨w42.heap.size, 2, none⟩ = some (.slice q42 1 1) := by go_simp
  have cb42 : Below w42.heap.size w42 ((w42.alloc (.cells #[.bool false, .slice p42 1 1, .slice q42 1 1] 27))) := ((Below.refl _ _).alloc (by (try simp only [World.size_alloc]); omega) _)
  replace hBW := hBW.trans (cb42.mono hBW.size)
  replace r00 := below_cell cb42 r00
  replace r01 := below_cell cb42 r01
  replace r02 := below_cell cb42 r02
  replace r03 := below_cell cb42 r03
  replace r04 := below_cell cb42 r04
  replace r05 := below_cell cb42 r05
  replace hR0 := below_row cb42 hR0
  replace hp42 := hp42.later cb42
  replace hq42 := hq42.later cb42
  have hL420 : Row ((w42.alloc (.cells #[.bool false, .slice p42 1 1, .slice q42 1 1] 27))) (w42.heap.size) := by
    have := row_new (w42) #[.bool false, .slice p42 1 1, .slice q42 1 1] 27
    try simp only [World.size_alloc] at this
    exact this
  go_wp2_with fail
  generalize (w42.alloc (.cells #[.bool false, .slice p42 1 1, .slice q42 1 1] 27)) = w42x at r00 r01 r02 r03 r04 r05 l4200 l4201 l4202 hR0 hL420 hp42 hq42 hBW cb42 ⊢
  clear cb42
  refine (H2.out _ (HD.out.below (hB.trans (hBW.mono hB.size)))).mono ?_
  rintro e w43 ⟨p43, q43, rfl, hp43, hq43⟩
  have b43 := hp43.below
  replace hp43 := hp43.back hBW
  replace hq43 := hq43.back hBW
  replace hBW := hBW.trans (b43.mono hBW.size)
  replace r00 := below_cell b43 r00
  replace r01 := below_cell b43 r01
  replace r02 := below_cell b43 r02
  replace r03 := below_cell b43 r03
  replace r04 := below_cell b43 r04
  replace r05 := below_cell b43 r05
  replace l4200 := below_cell b43 l4200
  replace l4201 := below_cell b43 l4201
  replace l4202 := below_cell b43 l4202
  replace hR0 := below_row b43 hR0
  replace hL420 := below_row b43 hL420
  replace hp42 := hp42.later b43
  replace hq42 := hq42.later b43
  have j0 := below_cell (below_alloc (w := w43) (.cells #[.bool true, .slice p43 1 1, .slice q43 1 1] 27)) l4200
  have j1 := below_cell (below_alloc (w := w43) (.cells #[.bool true, .slice p43 1 1, .slice q43 1 1] 27)) l4201
  have j2 := below_cell (below_alloc (w := w43) (.cells #[.bool true, .slice p43 1 1, .slice q43 1 1] 27)) l4202
  have hsz43 := hBW.size
  have hlt43hR0 := hR0.lt
  have hlt43hL420 := hL420.lt
  have l4300 : (((w43.alloc (.cells #[.bool true, .slice p43 1 1, .slice q43 1 1] 27)).alloc (.cells #[.bool false, .slice p42 1 1, .slice q42 1 1, .bool true, .slice p43 1 1, .slice q43 1 1] 29))).cell? ⟨w43.heap.size, 0, none⟩ = some (.bool true) := by go_simp
  have l4301 : (((w43.alloc (.cells #[.bool true, .slice p43 1 1, .slice q43 1 1] 27)).alloc (.cells #[.bool false, .slice p42 1 1, .slice q42 1 1, .bool true, .slice p43 1 1, .slice q43 1 1] 29))).cell? ⟨w43.heap.size, 1, none⟩ = some (.slice p43 1 1) := by go_simp
  have l4302 : (((w43.alloc (.cells #[.bool true, .slice p43 1 1, .slice q43 1 1] 27)).alloc (.cells #[.bool false, .slice p42 1 1, .slice q42 1 1, .bool true, .slice p43 1 1, .slice q43 1 1] 29))).cell? ⟨w43.heap.size, 2, none⟩ = some (.slice q43 1 1) := by go_simp
  have l4310 : (((w43.alloc (.cells #[.bool true, .slice p43 1 1, .slice q43 1 1] 27)).alloc (.cells #[.bool false, .slice p42 1 1, .slice q42 1 1, .bool true, .slice p43 1 1, .slice q43 1 1] 29))).cell? ⟨w43.heap.size + 1, 0, none⟩ = some (.bool false) := by go_simp
  have l4311 : (((w43.alloc (.cells #[.bool true, .slice p43 1 1, .slice q43 1 1] 27)).alloc (.cells #[.bool false, .slice p42 1 1, .slice q42 1 1, .bool true, .slice p43 1 1, .slice q43 1 1] 29))).cell? ⟨w43.heap.size + 1, 1, none⟩ = some (.slice p42 1 1) := by go_simp
  have l4312 : (((w43.alloc (.cells #[.bool true, .slice p43 1 1, .slice q43 1 1] 27)).alloc (.cells #[.bool false, .slice p42 1 1, .slice q42 1 1, .bool true, .slice p43 1 1, .slice q43 1 1] 29))).cell? ⟨w43.heap.size + 1, 2, none⟩ = some (.slice q42 1 1) := by go_simp
  have l4313 : (((w43.alloc (.cells #[.bool true, .slice p43 1 1, .slice q43 1 1] 27)).alloc (.cells #[.bool false, .slice p42 1 1, .slice q42 1 1, .bool true, .slice p43 1 1, .slice q43 1 1] 29))).cell? ⟨w43.heap.size + 1, 3, none⟩ = some (.bool true) := by go_simp
  have l4314 : (((w43.alloc (.cells #[.bool true, .slice p43 1 1, .slice q43 1 1] 27)).alloc (.cells #[.bool false, .slice p42 1 1, .slice q42 1 1, .bool true, .slice p43 1 1, .slice q43 1 1] 29))).cell? ⟨w43.heap.size + 1, 4, none⟩ = some (.slice p43 1 1) := by go_simp
  have l4315 : (((w43.alloc (.cells #[.bool true, .slice p43 1 1, .slice q43 1 1] 27)).alloc (.cells #[.bool false, .slice p42 1 1, .slice q42 1 1, .bool true, .slice p43 1 1, .slice q43 1 1] 29))).cell? ⟨w43.heap.size + 1, 5, none⟩ = some (.slice q43 1 1) := by go_simp
  have cb43 : Below w43.heap.size w43 (((w43.alloc (.cells #[.bool true, .slice p43 1 1, .slice q43 1 1] 27)).alloc (.cells #[.bool false, .slice p42 1 1, .slice q42 1 1, .bool true, .slice p43 1 1, .slice q43 1 1] 29))) := (((Below.refl _ _).alloc (by (try simp only [World.size_alloc]); omega) _).alloc (by (try simp only [World.size_alloc]); omega) _)
  replace hBW := hBW.trans (cb43.mono hBW.size)
  replace r00 := below_cell cb43 r00
  replace r01 := below_cell cb43 r01
  replace r02 := below_cell cb43 r02
  replace r03 := below_cell cb43 r03
  replace r04 := below_cell cb43 r04
  replace r05 := below_cell cb43 r05
  replace l4200 := below_cell cb43 l4200
  replace l4201 := below_cell cb43 l4201
  replace l4202 := below_cell cb43 l4202
  replace hR0 := below_row cb43 hR0
  replace hL420 := below_row cb43 hL420
  replace hp42 := hp42.later cb43
  replace hq42 := hq42.later cb43
  replace hp43 := hp43.later cb43
  replace hq43 := hq43.later cb43
  have hL430 : Row (((w43.alloc (.cells #[.bool true, .slice p43 1 1, .slice q43 1 1] 27)).alloc (.cells #[.bool false, .slice p42 1 1, .slice q42 1 1, .bool true, .slice p43 1 1, .slice q43 1 1] 29))) (w43.heap.size) := by
    have := row_new (w43) #[.bool true, .slice p43 1 1, .slice q43 1 1] 27
    try simp only [World.size_alloc] at this
    exact (this.alloc _)
  have hL431 : Row (((w43.alloc (.cells #[.bool true, .slice p43 1 1, .slice q43 1 1] 27)).alloc (.cells #[.bool false, .slice p42 1 1, .slice q42 1 1, .bool true, .slice p43 1 1, .slice q43 1 1] 29))) (w43.heap.size + 1) := by
    have := row_new ((w43.alloc (.cells #[.bool true, .slice p43 1 1, .slice q43 1 1] 27))) #[.bool false, .slice p42 1 1, .slice q42 1 1, .bool true, .slice p43 1 1, .slice q43 1 1] 29
    try simp only [World.size_alloc] at this
    exact this
  go_wp2_with fail
  generalize ((w43.alloc (.cells #[.bool true, .slice p43 1 1, .slice q43 1 1] 27)).alloc (.cells #[.bool false, .slice p42 1 1, .slice q42 1 1, .bool true, .slice p43 1 1, .slice q43 1 1] 29)) = w43x at r00 r01 r02 r03 r04 r05 l4200 l4201 l4202 l4300 l4301 l4302 l4310 l4311 l4312 l4313 l4314 l4315 hR0 hL420 hL430 hL431 hp42 hq42 hp43 hq43 hBW cb43 ⊢
  clear cb43
  clear j0 j1 j2
  refine (H3.out _ _ _ _ _ (HD.out.below (hB.trans (hBW.mono hB.size))) hp42.seg hq42.seg hp43.seg hq43.seg).mono ?_
  rintro e w44 ⟨rfl, b44⟩
  replace hBW := hBW.trans (b44.mono hBW.size)
  replace r00 := below_cell b44 r00
  replace r01 := below_cell b44 r01
  replace r02 := below_cell b44 r02
  replace r03 := below_cell b44 r03
  replace r04 := below_cell b44 r04
  replace r05 := below_cell b44 r05
  replace l4200 := below_cell b44 l4200
  replace l4201 := below_cell b44 l4201
  replace l4202 := below_cell b44 l4202
  replace l4300 := below_cell b44 l4300
  replace l4301 := below_cell b44 l4301
  replace l4302 := below_cell b44 l4302
  replace l4310 := below_cell b44 l4310
  replace l4311 := below_cell b44 l4311
  replace l4312 := below_cell b44 l4312
  replace l4313 := below_cell b44 l4313
  replace l4314 := below_cell b44 l4314
  replace l4315 := below_cell b44 l4315
  replace hR0 := below_row b44 hR0
  replace hL420 := below_row b44 hL420
  replace hL430 := below_row b44 hL430
  replace hL431 := below_row b44 hL431
  replace hp42 := hp42.later b44
  replace hq42 := hq42.later b44
  replace hp43 := hp43.later b44
  replace hq43 := hq43.later b44
  have fz0 := fun o => hR0.frozen o
  go_wp2
  all_goals refine bodyPost_ret (v := .tuple #[Value.agg #[Value.bool false, Value.slice p42 1 1, Value.slice q42 1 1, Value.bool true, Value.slice p43 1 1, Value.slice q43 1 1], .int .i64 0]) (by rw [results_ct rfl]; go_simp) rfl ?_
  all_goals exact ⟨p42, q42, p43, q43, rfl, hp42.mid hB ((((((((Mid.refl _ _ _).set _ _ (by omega) (by omega) _).set _ _ (by omega) (by omega) _).set _ _ (by omega) (by omega) _).set _ _ (by omega) (by omega) _).set _ _ (by omega) (by omega) _).set _ _ (by omega) (by omega) _)), hq42.mid hB ((((((((Mid.refl _ _ _).set _ _ (by omega) (by omega) _).set _ _ (by omega) (by omega) _).set _ _ (by omega) (by omega) _).set _ _ (by omega) (by omega) _).set _ _ (by omega) (by omega) _).set _ _ (by omega) (by omega) _)), hp43.mid hB ((((((((Mid.refl _ _ _).set _ _ (by omega) (by omega) _).set _ _ (by omega) (by omega) _).set _ _ (by omega) (by omega) _).set _ _ (by omega) (by omega) _).set _ _ (by omega) (by omega) _).set _ _ (by omega) (by omega) _)), hq43.mid hB ((((((((Mid.refl _ _ _).set _ _ (by omega) (by omega) _).set _ _ (by omega) (by omega) _).set _ _ (by omega) (by omega) _).set _ _ (by omega) (by omega) _).set _ _ (by omega) (by omega) _).set _ _ (by omega) (by omega) _))⟩
set_option maxHeartbeats 4000000 in
set_option maxRecDepth 100000 in
theorem lives_is (w : World) (h : Digits w) : Calls Tryz.prog 5 #[] w fun e w' => e = .returned (.bool true) ∧ Below w.heap.size w w' := by
  have P3 : ∀ w', Calls Tryz.prog 11 #[.int .i64 3] w' fun e w'' => ∃ p q, e = .returned (Value.agg #[Value.bool false, Value.slice p 1 1, Value.slice q 1 1]) ∧ New w' w'' p 3 1 ∧ New w' w'' q 1 1 := fun w' => by
    have := vqWhole_is 3 w' (by omega) (by omega)
    rw [show ng 3 = false from rfl, show am 3 = 3 from rfl, ln_3, ln_1] at this
    exact this
  have P2 : ∀ w', Calls Tryz.prog 11 #[.int .i64 (-2)] w' fun e w'' => ∃ p q, e = .returned (Value.agg #[Value.bool true, Value.slice p 1 1, Value.slice q 1 1]) ∧ New w' w'' p 2 1 ∧ New w' w'' q 1 1 := fun w' => by
    have := vqWhole_is (-2) w' (by omega) (by omega)
    rw [show ng (-2) = true from rfl, show am (-2) = 2 from rfl, ln_2, ln_1] at this
    exact this
  have P4 : ∀ p q r t p2 q2 r2 t2 w', Seg w' p 3 1 → Seg w' q 1 1 → Seg w' r 2 1 → Seg w' t 1 1 → Seg w' p2 3 1 → Seg w' q2 1 1 → Seg w' r2 2 1 → Seg w' t2 1 1 → Calls Tryz.prog 10 #[Value.agg #[Value.bool false, Value.slice p 1 1, Value.slice q 1 1, Value.bool true, Value.slice r 1 1, Value.slice t 1 1], Value.agg #[Value.bool false, Value.slice p2 1 1, Value.slice q2 1 1, Value.bool true, Value.slice r2 1 1, Value.slice t2 1 1]] w' fun e w'' => e = .returned (.bool true) ∧ Below w'.heap.size w' w'' := fun p q r t p2 q2 r2 t2 w' k1 k2 k3 k4 k5 k6 k7 k8 => by
    have := dsame_is 3 1 (-2) 1 p q r t p2 q2 r2 t2 w'
    rw [show ng 3 = false from rfl, show am 3 = 3 from rfl, show ng (-2) = true from rfl, show am (-2) = 2 from rfl, ln_3, ln_2, ln_1] at this
    exact this (by omega) (by omega) (by omega) (by omega) k1 k2 k3 k4 k5 k6 k7 k8
  have H0 := hide' (dParse_v w h)
  have H1 := hide' P3
  have H2 := hide' P2
  have H3 := hide' P4
  clear P2 P3 P4 h
  go_enter Tryz.func5, Tryz.ntmps5
  go_wp2_with fail
  refine H0.out.mono ?_
  rintro e w40 ⟨p40, q40, r40, t40, rfl, hp40, hq40, hr40, ht40⟩
  have hB := hp40.below
  have hBW : Below w40.heap.size w40 w40 := Below.refl _ _
  have kp := hp40.seg
  clear hp40
  have kq := hq40.seg
  clear hq40
  have kr := hr40.seg
  clear hr40
  have kt := ht40.seg
  clear ht40
  have hsz40 := hBW.size
  have l4000 : ((w40.alloc (.cells #[.bool false, .slice p40 1 1, .slice q40 1 1, .bool true, .slice r40 1 1, .slice t40 1 1] 29))).cell? ⟨w40.heap.size, 0, none⟩ = some (.bool false) := by go_simp
  have l4001 : ((w40.alloc (.cells #[.bool false, .slice p40 1 1, .slice q40 1 1, .bool true, .slice r40 1 1, .slice t40 1 1] 29))).cell? ⟨w40.heap.size, 1, none⟩ = some (.slice p40 1 1) := by go_simp
  have l4002 : ((w40.alloc (.cells #[.bool false, .slice p40 1 1, .slice q40 1 1, .bool true, .slice r40 1 1, .slice t40 1 1] 29))).cell? ⟨w40.heap.size, 2, none⟩ = some (.slice q40 1 1) := by go_simp
  have l4003 : ((w40.alloc (.cells #[.bool false, .slice p40 1 1, .slice q40 1 1, .bool true, .slice r40 1 1, .slice t40 1 1] 29))).cell? ⟨w40.heap.size, 3, none⟩ = some (.bool true) := by go_simp
  have l4004 : ((w40.alloc (.cells #[.bool false, .slice p40 1 1, .slice q40 1 1, .bool true, .slice r40 1 1, .slice t40 1 1] 29))).cell? ⟨w40.heap.size, 4, none⟩ = some (.slice r40 1 1) := by go_simp
  have l4005 : ((w40.alloc (.cells #[.bool false, .slice p40 1 1, .slice q40 1 1, .bool true, .slice r40 1 1, .slice t40 1 1] 29))).cell? ⟨w40.heap.size, 5, none⟩ = some (.slice t40 1 1) := by go_simp
  have cb40 : Below w40.heap.size w40 ((w40.alloc (.cells #[.bool false, .slice p40 1 1, .slice q40 1 1, .bool true, .slice r40 1 1, .slice t40 1 1] 29))) := ((Below.refl _ _).alloc (by (try simp only [World.size_alloc]); omega) _)
  replace hBW := hBW.trans (cb40.mono hBW.size)
  replace kp := kp.later cb40
  replace kq := kq.later cb40
  replace kr := kr.later cb40
  replace kt := kt.later cb40
  have hL400 : Row ((w40.alloc (.cells #[.bool false, .slice p40 1 1, .slice q40 1 1, .bool true, .slice r40 1 1, .slice t40 1 1] 29))) (w40.heap.size) := by
    have := row_new (w40) #[.bool false, .slice p40 1 1, .slice q40 1 1, .bool true, .slice r40 1 1, .slice t40 1 1] 29
    try simp only [World.size_alloc] at this
    exact this
  go_wp2_with fail
  generalize (w40.alloc (.cells #[.bool false, .slice p40 1 1, .slice q40 1 1, .bool true, .slice r40 1 1, .slice t40 1 1] 29)) = w40x at l4000 l4001 l4002 l4003 l4004 l4005 hL400 kp kq kr kt hBW cb40 ⊢
  clear cb40
  replace hBW := hBW.drew
  replace kp := kp.drew
  replace kq := kq.drew
  replace kr := kr.drew
  replace kt := kt.drew
  first
    | go_region_held3 (fun w' => w'.cell? ⟨w40.heap.size, 0, none⟩ = some (.bool false) ∧ w'.cell? ⟨w40.heap.size, 1, none⟩ = some (.slice p40 1 1) ∧ w'.cell? ⟨w40.heap.size, 2, none⟩ = some (.slice q40 1 1) ∧ w'.cell? ⟨w40.heap.size, 3, none⟩ = some (.bool true) ∧ w'.cell? ⟨w40.heap.size, 4, none⟩ = some (.slice r40 1 1) ∧ w'.cell? ⟨w40.heap.size, 5, none⟩ = some (.slice t40 1 1) ∧ Below w.heap.size w w')
        (first | exact ⟨l4000, l4001, l4002, l4003, l4004, l4005, hB.trans (hBW.mono hB.size)⟩ | exact kp6 b41 (by assumption) | exact kp6 b42 (by assumption) | exact kp6 b43 (by assumption) | exact kp6 (below_alloc _) (by assumption))
        (first
          | (go_at_call 11; (fail_if_success clear b41); refine (H1.out _).mono ?_; rintro e w41 ⟨p41, q41, rfl, hp41, hq41⟩; have b41 := hp41.below; replace hp41 := hp41.back hBW; replace hq41 := hq41.back hBW; replace hBW := hBW.trans (b41.mono hBW.size); replace l4000 := below_cell b41 l4000; replace l4001 := below_cell b41 l4001; replace l4002 := below_cell b41 l4002; replace l4003 := below_cell b41 l4003; replace l4004 := below_cell b41 l4004; replace l4005 := below_cell b41 l4005; replace hL400 := below_row b41 hL400; replace kp := kp.later b41; replace kq := kq.later b41; replace kr := kr.later b41; replace kt := kt.later b41)
          | (go_at_call 11; (fail_if_success clear b42); refine (H2.out _).mono ?_; rintro e w42 ⟨p42, q42, rfl, hp42, hq42⟩; have b42 := hp42.below; replace hp42 := hp42.back hBW; replace hq42 := hq42.back hBW; replace hBW := hBW.trans (b42.mono hBW.size); replace l4000 := below_cell b42 l4000; replace l4001 := below_cell b42 l4001; replace l4002 := below_cell b42 l4002; replace l4003 := below_cell b42 l4003; replace l4004 := below_cell b42 l4004; replace l4005 := below_cell b42 l4005; replace hL400 := below_row b42 hL400; replace kp := kp.later b42; replace kq := kq.later b42; replace kr := kr.later b42; replace kt := kt.later b42; replace hp41 := hp41.later b42; replace hq41 := hq41.later b42)
          | (go_at_call 10; refine (H3.out _ _ _ _ _ _ _ _ _ kp kq kr kt hp41.seg hq41.seg hp42.seg hq42.seg).mono ?_; rintro e w43 ⟨rfl, b43⟩; replace hBW := hBW.trans (b43.mono hBW.size); replace l4000 := below_cell b43 l4000; replace l4001 := below_cell b43 l4001; replace l4002 := below_cell b43 l4002; replace l4003 := below_cell b43 l4003; replace l4004 := below_cell b43 l4004; replace l4005 := below_cell b43 l4005; replace hL400 := below_row b43 hL400; replace kp := kp.later b43; replace kq := kq.later b43; replace kr := kr.later b43; replace kt := kt.later b43; replace hp41 := hp41.later b43; replace hq41 := hq41.later b43; replace hp42 := hp42.later b43; replace hq42 := hq42.later b43))
    | fail
  go_wp2
  go_ret
  exact ⟨rfl, hB.trans (hBW.mono hB.size)⟩
end Go.Proofs.YtamkdnogkeilnaaGreatDoor
