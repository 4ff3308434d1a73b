/-
  lives: layer 1's Text of one digit, whole.
-/
import Derived.Test.YtjbeagbkjmaeeaaGreatDoorWV2
import Derived.Test.YtjbeagbkjmaeeaaGreatDoorWQ2
import Derived.Test.YtjbeagbkjmaeeaaGreatDoorW5
import Derived.Laws.IdiomStrings
namespace Go.Proofs.YtjbeagbkjmaeeaaGreatDoor
open Go.RowKit
set_option linter.unusedVariables false

set_option maxHeartbeats 1000000 in
theorem decodeLast_a (w : World) : Calls Tryz.prog 41 #[.string ⟨#[51, 45, 50]⟩] w fun e w' => e = .returned (.tuple #[.int .i32 50, .int .i64 1]) ∧ w' = w := by
  have h1 : (⟨#[51, 45, 50]⟩ : ByteArray).size = 3 := rfl
  have hx : wrap32 (((⟨#[51, 45, 50]⟩ : ByteArray)[2]'(by decide)).toNat : Int) = 50 := by decide +kernel
  go_enter Tryz.func41, Tryz.ntmps41
  go_wp2
  go_ret2
  exact ⟨by show Ending.returned (.tuple #[.int .i32 (wrap32 (((⟨#[51, 45, 50]⟩ : ByteArray)[2]'(by decide)).toNat : Int)), .int .i64 1]) = _; rw [hx], rfl⟩
set_option maxHeartbeats 1000000 in
theorem decodeLast_b (w : World) : Calls Tryz.prog 41 #[.string ⟨#[51, 45]⟩] w fun e w' => e = .returned (.tuple #[.int .i32 45, .int .i64 1]) ∧ w' = w := by
  have h1 : (⟨#[51, 45]⟩ : ByteArray).size = 2 := rfl
  have hx : wrap32 (((⟨#[51, 45]⟩ : ByteArray)[1]'(by decide)).toNat : Int) = 45 := by decide +kernel
  go_enter Tryz.func41, Tryz.ntmps41
  go_wp2
  go_ret2
  exact ⟨by show Ending.returned (.tuple #[.int .i32 (wrap32 (((⟨#[51, 45]⟩ : ByteArray)[1]'(by decide)).toNat : Int)), .int .i64 1]) = _; rw [hx], rfl⟩
set_option maxRecDepth 100000 in
theorem indexByte_la (w : World) : Calls Tryz.prog 96 #[.string ⟨#[43, 45]⟩, .int .u8 50] w fun e w' => e = .returned (.int .i64 (-1)) ∧ w' = w := by
  go_enter Tryz.func96, Tryz.ntmps96
  go_wp2
  rw [run_callFunc_extern Tryz.func121 (by kernel_rfl) (by kernel_rfl) (by kernel_rfl) (e := Extern.BytealgIndexByte.indexByte) (by kernel_rfl), Lib.run_indexByteString]
  simp only [Result.andThen]
  rw [Oper.upon_value]
  go_wp2
  go_ret
  exact ⟨rfl, rfl⟩
theorem sIndexByte_la (w : World) : Calls Tryz.prog 69 #[.string ⟨#[43, 45]⟩, .int .u8 50] w fun e w' => e = .returned (.int .i64 (-1)) ∧ w' = w := by
  have HI := hide' indexByte_la
  go_enter Tryz.func69, Tryz.ntmps69
  go_wp2_with fail
  refine (HI.out _).mono ?_
  rintro e w1 ⟨rfl, rfl⟩
  go_wp2
  go_ret
  exact ⟨rfl, rfl⟩
set_option maxHeartbeats 1000000 in
set_option maxRecDepth 100000 in
theorem indexRune_a (w : World) : Calls Tryz.prog 37 #[.string ⟨#[43, 45]⟩, .int .i32 50] w fun e w' => e = .returned (.int .i64 (-1)) ∧ w' = w := by
  have HI := hide' sIndexByte_la
  go_enter Tryz.func37, Tryz.ntmps37
  go_wp2_with fail
  refine (HI.out _).mono ?_
  rintro e w1 ⟨rfl, rfl⟩
  go_wp2
  go_ret
  exact ⟨rfl, rfl⟩
set_option maxRecDepth 100000 in
theorem indexByte_lb (w : World) : Calls Tryz.prog 96 #[.string ⟨#[43, 45]⟩, .int .u8 45] w fun e w' => e = .returned (.int .i64 1) ∧ w' = w := by
  go_enter Tryz.func96, Tryz.ntmps96
  go_wp2
  rw [run_callFunc_extern Tryz.func121 (by kernel_rfl) (by kernel_rfl) (by kernel_rfl) (e := Extern.BytealgIndexByte.indexByte) (by kernel_rfl), Lib.run_indexByteString]
  simp only [Result.andThen]
  rw [Oper.upon_value]
  go_wp2
  go_ret
  exact ⟨rfl, rfl⟩
theorem sIndexByte_lb (w : World) : Calls Tryz.prog 69 #[.string ⟨#[43, 45]⟩, .int .u8 45] w fun e w' => e = .returned (.int .i64 1) ∧ w' = w := by
  have HI := hide' indexByte_lb
  go_enter Tryz.func69, Tryz.ntmps69
  go_wp2_with fail
  refine (HI.out _).mono ?_
  rintro e w1 ⟨rfl, rfl⟩
  go_wp2
  go_ret
  exact ⟨rfl, rfl⟩
set_option maxHeartbeats 1000000 in
set_option maxRecDepth 100000 in
theorem indexRune_b (w : World) : Calls Tryz.prog 37 #[.string ⟨#[43, 45]⟩, .int .i32 45] w fun e w' => e = .returned (.int .i64 1) ∧ w' = w := by
  have HI := hide' sIndexByte_lb
  go_enter Tryz.func37, Tryz.ntmps37
  go_wp2_with fail
  refine (HI.out _).mono ?_
  rintro e w1 ⟨rfl, rfl⟩
  go_wp2
  go_ret
  exact ⟨rfl, rfl⟩
theorem useASCII_3 (w : World) : Calls Tryz.prog 38 #[.int .i64 3] w fun e w' => e = .returned (.bool false) ∧ w' = w := by
  go_enter Tryz.func38, Tryz.ntmps38
  go_wp2
  go_ret
  exact ⟨rfl, rfl⟩
set_option maxHeartbeats 2000000 in
set_option maxRecDepth 100000 in
theorem lastIndexAny_v (w : World) : Calls Tryz.prog 19 #[.string ⟨#[51, 45, 50]⟩, .string ⟨#[43, 45]⟩] w fun e w' => e = .returned (.int .i64 1) ∧ w' = w := by
  have h1 : (⟨#[51, 45, 50]⟩ : ByteArray).size = 3 := rfl
  have h2 : (⟨#[43, 45]⟩ : ByteArray).size = 2 := rfl
  have he : ((⟨#[43, 45]⟩ : ByteArray) == ByteArray.empty) = false := by decide
  have e1 : (⟨#[51, 45, 50]⟩ : ByteArray).extract 0 3 = ⟨#[51, 45, 50]⟩ := by decide +kernel
  have e2 : (⟨#[51, 45, 50]⟩ : ByteArray).extract 0 2 = ⟨#[51, 45]⟩ := by decide +kernel
  have D1 := hide' decodeLast_a
  have D2 := hide' decodeLast_b
  have I1 := hide' indexRune_a
  have I2 := hide' indexRune_b
  have U := hide' useASCII_3
  go_enter Tryz.func19, Tryz.ntmps19
  go_wp2_with fail
  refine (U.out _).mono ?_
  rintro e w1 ⟨rfl, rfl⟩
  go_wp2_with fail
  refine wp_loop_rounds 2 ?_
  rw [rounds_succ]
  go_wp2_with fail
  try simp only [e1]
  refine (D1.out _).mono ?_
  rintro e w2 ⟨rfl, rfl⟩
  go_wp2_with fail
  refine (I1.out _).mono ?_
  rintro e w3 ⟨rfl, rfl⟩
  go_wp2_with fail
  rw [rounds_succ]
  go_wp2_with fail
  try simp only [e2]
  refine (D2.out _).mono ?_
  rintro e w4 ⟨rfl, rfl⟩
  go_wp2_with fail
  refine (I2.out _).mono ?_
  rintro e w5 ⟨rfl, rfl⟩
  go_wp2
  go_ret
  exact ⟨rfl, rfl⟩

set_option maxHeartbeats 2000000 in
theorem dcut_v (w : World) : Calls Tryz.prog 9 #[.string ⟨#[51, 45, 50, 100]⟩] w fun e w' => e = .returned (.tuple #[.string ⟨#[51]⟩, .string ⟨#[45, 50]⟩]) ∧ Dr w w' := by
  have h1 : (⟨#[51, 45, 50]⟩ : ByteArray).size = 3 := rfl
  have e1 : (⟨#[51, 45, 50]⟩ : ByteArray).extract 0 1 = ⟨#[51]⟩ := by decide +kernel
  have e2 : (⟨#[51, 45, 50]⟩ : ByteArray).extract 1 3 = ⟨#[45, 50]⟩ := by decide +kernel
  have D1 := hide' cutSuffix_v
  have D2 := hide' lastIndexAny_v
  have D3 := hide' trimPrefix_m2
  go_enter Tryz.func9, Tryz.ntmps9
  go_wp2_with fail
  refine (D1.out _).mono ?_
  rintro e w1 ⟨rfl, rfl⟩
  go_wp2_with fail
  refine (D2.out _).mono ?_
  rintro e w2 ⟨rfl, rfl⟩
  go_wp2_with fail
  simp only [show max (1 : Int) 0 = 1 by decide]
  go_quiet ((go_at_call 20; exact Calls.quiet_of_same (D3.out _)))
  go_wp2
  go_ret2
  exact ⟨by first | rfl | simp only [e1], ⟨_, rfl⟩⟩
end Go.Proofs.YtjbeagbkjmaeeaaGreatDoor

namespace Go.Proofs.YtjbeagbkjmaeeaaGreatDoor
open Go.RowKit
set_option linter.unusedVariables false

theorem ln_2 : ln 2 = 1 := ln_of_top (by rw [BB_eq]; omega) (by rw [dg0]; omega)
theorem ln_3 : ln 3 = 1 := ln_of_top (by rw [BB_eq]; omega) (by rw [dg0]; omega)
theorem ln_1 : ln 1 = 1 := ln_one
set_option maxHeartbeats 1000000 in
theorem quotient_v2 (w : World) (h : Digits w) : Calls Tryz.prog 45 #[.string ⟨#[50]⟩, .string ⟨#[49]⟩] w fun e w' => ∃ p q, e = .returned (.tuple #[.slice p 1 1, .slice q 1 1, .int .i64 0]) ∧ New w w' p 2 1 ∧ New w w' q 1 1 := by
  obtain ⟨A2, hA2⟩ : ∃ A2 : Nat, 2 = A2 := ⟨_, rfl⟩
  obtain ⟨A4, hA4⟩ : ∃ A4 : Nat, 1 = A4 := ⟨_, rfl⟩
  obtain ⟨L, hL⟩ : ∃ L : Nat, 1 = L := ⟨_, rfl⟩
  have l4 : L ≤ 2 := by omega
  have P2 : Calls Tryz.prog 77 #[.string ⟨#[50]⟩, .int .i64 10] w fun e w' => ∃ a, e = .returned (.tuple #[.slice a L L, .int .i64 0]) ∧ New w w' a A2 L := by subst hA2 hL; have := Parse_2 w h; rw [ln_2] at this; exact this
  have P4 : ∀ w', Digits w' → Calls Tryz.prog 77 #[.string ⟨#[49]⟩, .int .i64 10] w' fun e w'' => ∃ a, e = .returned (.tuple #[.slice a L L, .int .i64 0]) ∧ New w' w'' a A4 L := fun w' h' => by subst hA4 hL; have := Parse_1 w' h'; rw [ln_1] at this; exact this
  have hb : (((bl A4 : Nat) : Int) == 0) = false := by rw [bl_beq, ← hA4]; rfl
  have Q2 := hide' P2
  have Q4 := hide' P4
  have e2 : ∀ w' q, New w w' q 2 1 ↔ New w w' q A2 L := fun w' q => by rw [← hA2, ← hL]
  have e4 : ∀ w' q, New w w' q 1 1 ↔ New w w' q A4 L := fun w' q => by rw [← hA4, ← hL]
  have e5 : ∀ p : Option Addr, Value.slice p 1 1 = .slice p L L := fun p => by rw [← hL]
  simp only [e2, e4, e5]
  clear P2 P4 hA2 hA4 e2 e4 e5 hL
  go_enter Tryz.func45, Tryz.ntmps45
  go_wp2_with fail
  refine Q2.out.mono ?_
  rintro e w1 ⟨a1, rfl, h1⟩
  go_wp2_with fail
  refine (Q4.out _ (h.below h1.below)).mono ?_
  rintro e w2 ⟨a2, rfl, h2⟩
  have g1 := h1.later h2.below
  have g2 := h2.back h1.below
  go_wp2_with fail
  refine (Bits_any a2 L L A4 _ (Nat.le_refl _) (by omega) h2.seg).mono ?_
  rintro e w3 ⟨rfl, rfl⟩
  go_wp2
  go_ret3
  exact ⟨a1, a2, rfl, g1, g2⟩

set_option maxHeartbeats 1000000 in
theorem parts_v2 (w : World) (h : Digits w) : Calls Tryz.prog 22 #[.string ⟨#[50]⟩] w fun e w' => ∃ p q, e = .returned (.tuple #[.slice p 1 1, .slice q 1 1, .int .i64 0]) ∧ New w w' p 2 1 ∧ New w w' q 1 1 := by
  have H1 := hide' cut_2s
  have H3 := hide' cut_2p
  have H2 := hide' quotient_v2
  go_enter Tryz.func22, Tryz.ntmps22
  go_wp2_with fail
  refine (H1.out _).mono ?_
  rintro e w1 ⟨rfl, rfl⟩
  go_wp2_with fail
  refine (H3.out _).mono ?_
  rintro e w2 ⟨rfl, rfl⟩
  go_wp2_with fail
  refine (H2.out _ h).mono ?_
  rintro e w3 ⟨p, q, rfl, h1, h2⟩
  go_wp2
  go_ret3
  exact ⟨p, q, rfl, h1, h2⟩
set_option maxHeartbeats 1000000 in
theorem quotient_v3 (w : World) (h : Digits w) : Calls Tryz.prog 45 #[.string ⟨#[51]⟩, .string ⟨#[49]⟩] w fun e w' => ∃ p q, e = .returned (.tuple #[.slice p 1 1, .slice q 1 1, .int .i64 0]) ∧ New w w' p 3 1 ∧ New w w' q 1 1 := by
  obtain ⟨A2, hA2⟩ : ∃ A2 : Nat, 3 = A2 := ⟨_, rfl⟩
  obtain ⟨A4, hA4⟩ : ∃ A4 : Nat, 1 = A4 := ⟨_, rfl⟩
  obtain ⟨L, hL⟩ : ∃ L : Nat, 1 = L := ⟨_, rfl⟩
  have l4 : L ≤ 2 := by omega
  have P2 : Calls Tryz.prog 77 #[.string ⟨#[51]⟩, .int .i64 10] w fun e w' => ∃ a, e = .returned (.tuple #[.slice a L L, .int .i64 0]) ∧ New w w' a A2 L := by subst hA2 hL; have := Parse_3 w h; rw [ln_3] at this; exact this
  have P4 : ∀ w', Digits w' → Calls Tryz.prog 77 #[.string ⟨#[49]⟩, .int .i64 10] w' fun e w'' => ∃ a, e = .returned (.tuple #[.slice a L L, .int .i64 0]) ∧ New w' w'' a A4 L := fun w' h' => by subst hA4 hL; have := Parse_1 w' h'; rw [ln_1] at this; exact this
  have hb : (((bl A4 : Nat) : Int) == 0) = false := by rw [bl_beq, ← hA4]; rfl
  have Q2 := hide' P2
  have Q4 := hide' P4
  have e2 : ∀ w' q, New w w' q 3 1 ↔ New w w' q A2 L := fun w' q => by rw [← hA2, ← hL]
  have e4 : ∀ w' q, New w w' q 1 1 ↔ New w w' q A4 L := fun w' q => by rw [← hA4, ← hL]
  have e5 : ∀ p : Option Addr, Value.slice p 1 1 = .slice p L L := fun p => by rw [← hL]
  simp only [e2, e4, e5]
  clear P2 P4 hA2 hA4 e2 e4 e5 hL
  go_enter Tryz.func45, Tryz.ntmps45
  go_wp2_with fail
  refine Q2.out.mono ?_
  rintro e w1 ⟨a1, rfl, h1⟩
  go_wp2_with fail
  refine (Q4.out _ (h.below h1.below)).mono ?_
  rintro e w2 ⟨a2, rfl, h2⟩
  have g1 := h1.later h2.below
  have g2 := h2.back h1.below
  go_wp2_with fail
  refine (Bits_any a2 L L A4 _ (Nat.le_refl _) (by omega) h2.seg).mono ?_
  rintro e w3 ⟨rfl, rfl⟩
  go_wp2
  go_ret3
  exact ⟨a1, a2, rfl, g1, g2⟩

set_option maxHeartbeats 1000000 in
theorem parts_v3 (w : World) (h : Digits w) : Calls Tryz.prog 22 #[.string ⟨#[51]⟩] w fun e w' => ∃ p q, e = .returned (.tuple #[.slice p 1 1, .slice q 1 1, .int .i64 0]) ∧ New w w' p 3 1 ∧ New w w' q 1 1 := by
  have H1 := hide' cut_3s
  have H3 := hide' cut_3p
  have H2 := hide' quotient_v3
  go_enter Tryz.func22, Tryz.ntmps22
  go_wp2_with fail
  refine (H1.out _).mono ?_
  rintro e w1 ⟨rfl, rfl⟩
  go_wp2_with fail
  refine (H3.out _).mono ?_
  rintro e w2 ⟨rfl, rfl⟩
  go_wp2_with fail
  refine (H2.out _ h).mono ?_
  rintro e w3 ⟨p, q, rfl, h1, h2⟩
  go_wp2
  go_ret3
  exact ⟨p, q, rfl, h1, h2⟩
theorem low_v3 : Low (sg false 3) ((1 : Nat) : Int) 3 1 := ⟨by decide, by omega, by decide, by decide⟩
set_option maxHeartbeats 1000000 in
set_option maxRecDepth 100000 in
theorem qParse_v3 (w : World) (h : Digits w) : Calls Tryz.prog 10 #[.string ⟨#[51]⟩] w fun e w' => ∃ p q, e = .returned (.tuple #[.agg #[.bool false, .slice p 1 1, .slice q 1 1], .int .i64 0]) ∧ New w w' p 3 1 ∧ New w w' q 1 1 := by
  have H0 := hide' cutPrefix_3
  have P2 : ∀ w' p q, Seg w' p 3 1 → Seg w' q 1 1 → Calls Tryz.prog 23 #[.agg #[.bool false, .slice p 1 1, .bool false, .slice q 1 1]] w' fun e w'' => ∃ p q, e = .returned (.agg #[.bool false, .slice p 1 1, .slice q 1 1]) ∧ New w' w'' p 3 1 ∧ New w' w'' q 1 1 := fun w' p q k1 k2 => by
    have := lowest_is false p 1 1 3 q 1 1 1 1 3 w' (Nat.le_refl _) (by omega) k1 (Nat.le_refl _) (by omega) k2 low_v3
    rw [show ng 3 = false from rfl, show am 3 = 3 from rfl, ln_1, ln_3] at this
    exact this
  have H1 := hide' parts_v3
  have H2 := hide' P2
  have HD := hide' h
  clear P2 h
  go_enter Tryz.func10, Tryz.ntmps10
  go_wp2_with fail
  obtain ⟨W, hW⟩ : ∃ W, (w.alloc (.cells #[.bool false, .slice none 0 0, .slice none 0 0] 27)) = W := ⟨_, rfl⟩
  have r00 : W.cell? ⟨w.heap.size, 0, none⟩ = some (.bool false) := by subst hW; go_simp
  have r01 : W.cell? ⟨w.heap.size, 1, none⟩ = some (.slice none 0 0) := by subst hW; go_simp
  have r02 : W.cell? ⟨w.heap.size, 2, none⟩ = some (.slice none 0 0) := by subst hW; go_simp
  have hB : Below w.heap.size w W := by subst hW; exact ((Below.refl _ _).alloc (by (try simp only [World.size_alloc]); omega) _)
  have hR0 : Row W (w.heap.size) := by
    have := row_new (w) #[.bool false, .slice none 0 0, .slice none 0 0] 27
    try simp only [World.size_alloc] at this
    subst hW; exact this
  have hz : W.heap.size = w.heap.size + 1 := by subst hW; simp only [World.size_alloc]
  rw [hW]
  clear hW
  have hBW : Below W.heap.size W W := Below.refl _ _
  refine (H0.out _).mono ?_
  rintro e w1 ⟨rfl, rfl⟩
  go_wp2_with fail
  refine (H1.out _ (HD.out.below (hB.trans (hBW.mono hB.size)))).mono ?_
  rintro e w41 ⟨p41, q41, rfl, hp41, hq41⟩
  have b41 := hp41.below
  replace hp41 := hp41.back hBW
  replace hq41 := hq41.back hBW
  replace hBW := hBW.trans (b41.mono hBW.size)
  replace r00 := below_cell b41 r00
  replace r01 := below_cell b41 r01
  replace r02 := below_cell b41 r02
  replace hR0 := below_row b41 hR0
  go_wp2_with fail
  refine (H2.out _ p41 q41 hp41.seg hq41.seg).mono ?_
  rintro e w42 ⟨p42, q42, rfl, hp42, hq42⟩
  have b42 := hp42.below
  replace hp42 := hp42.back hBW
  replace hq42 := hq42.back hBW
  replace hBW := hBW.trans (b42.mono hBW.size)
  replace r00 := below_cell b42 r00
  replace r01 := below_cell b42 r01
  replace r02 := below_cell b42 r02
  replace hR0 := below_row b42 hR0
  replace hp41 := hp41.later b42
  replace hq41 := hq41.later b42
  have fz0 := fun o => hR0.frozen o
  go_wp2
  all_goals refine bodyPost_ret (v := .tuple #[.agg #[.bool false, .slice p42 1 1, .slice q42 1 1], .int .i64 0]) (by rw [results_ct rfl]; go_simp) rfl ?_
  all_goals exact ⟨p42, q42, rfl, hp42.mid hB (((((Mid.refl _ _ _).set _ _ (by omega) (by omega) _).set _ _ (by omega) (by omega) _).set _ _ (by omega) (by omega) _)), hq42.mid hB (((((Mid.refl _ _ _).set _ _ (by omega) (by omega) _).set _ _ (by omega) (by omega) _).set _ _ (by omega) (by omega) _))⟩

theorem low_v2 : Low (sg true 2) ((1 : Nat) : Int) (-2) 1 := ⟨by decide, by omega, by decide, by decide⟩
set_option maxHeartbeats 1000000 in
set_option maxRecDepth 100000 in
theorem qParse_vm2 (w : World) (h : Digits w) : Calls Tryz.prog 10 #[.string ⟨#[45, 50]⟩] w fun e w' => ∃ p q, e = .returned (.tuple #[.agg #[.bool true, .slice p 1 1, .slice q 1 1], .int .i64 0]) ∧ New w w' p 2 1 ∧ New w w' q 1 1 := by
  have H0 := hide' cutPrefix_m2
  have P2 : ∀ w' p q, Seg w' p 2 1 → Seg w' q 1 1 → Calls Tryz.prog 23 #[.agg #[.bool true, .slice p 1 1, .bool false, .slice q 1 1]] w' fun e w'' => ∃ p q, e = .returned (.agg #[.bool true, .slice p 1 1, .slice q 1 1]) ∧ New w' w'' p 2 1 ∧ New w' w'' q 1 1 := fun w' p q k1 k2 => by
    have := lowest_is true p 1 1 2 q 1 1 1 1 (-2) w' (Nat.le_refl _) (by omega) k1 (Nat.le_refl _) (by omega) k2 low_v2
    rw [show ng (-2) = true from rfl, show am (-2) = 2 from rfl, ln_1, ln_2] at this
    exact this
  have H1 := hide' parts_v2
  have H2 := hide' P2
  have HD := hide' h
  clear P2 h
  go_enter Tryz.func10, Tryz.ntmps10
  go_wp2_with fail
  obtain ⟨W, hW⟩ : ∃ W, (w.alloc (.cells #[.bool false, .slice none 0 0, .slice none 0 0] 27)) = W := ⟨_, rfl⟩
  have r00 : W.cell? ⟨w.heap.size, 0, none⟩ = some (.bool false) := by subst hW; go_simp
  have r01 : W.cell? ⟨w.heap.size, 1, none⟩ = some (.slice none 0 0) := by subst hW; go_simp
  have r02 : W.cell? ⟨w.heap.size, 2, none⟩ = some (.slice none 0 0) := by subst hW; go_simp
  have hB : Below w.heap.size w W := by subst hW; exact ((Below.refl _ _).alloc (by (try simp only [World.size_alloc]); omega) _)
  have hR0 : Row W (w.heap.size) := by
    have := row_new (w) #[.bool false, .slice none 0 0, .slice none 0 0] 27
    try simp only [World.size_alloc] at this
    subst hW; exact this
  have hz : W.heap.size = w.heap.size + 1 := by subst hW; simp only [World.size_alloc]
  rw [hW]
  clear hW
  have hBW : Below W.heap.size W W := Below.refl _ _
  refine (H0.out _).mono ?_
  rintro e w1 ⟨rfl, rfl⟩
  go_wp2_with fail
  refine (H1.out _ (HD.out.below (hB.trans (hBW.mono hB.size)))).mono ?_
  rintro e w41 ⟨p41, q41, rfl, hp41, hq41⟩
  have b41 := hp41.below
  replace hp41 := hp41.back hBW
  replace hq41 := hq41.back hBW
  replace hBW := hBW.trans (b41.mono hBW.size)
  replace r00 := below_cell b41 r00
  replace r01 := below_cell b41 r01
  replace r02 := below_cell b41 r02
  replace hR0 := below_row b41 hR0
  go_wp2_with fail
  refine (H2.out _ p41 q41 hp41.seg hq41.seg).mono ?_
  rintro e w42 ⟨p42, q42, rfl, hp42, hq42⟩
  have b42 := hp42.below
  replace hp42 := hp42.back hBW
  replace hq42 := hq42.back hBW
  replace hBW := hBW.trans (b42.mono hBW.size)
  replace r00 := below_cell b42 r00
  replace r01 := below_cell b42 r01
  replace r02 := below_cell b42 r02
  replace hR0 := below_row b42 hR0
  replace hp41 := hp41.later b42
  replace hq41 := hq41.later b42
  have fz0 := fun o => hR0.frozen o
  go_wp2
  all_goals refine bodyPost_ret (v := .tuple #[.agg #[.bool true, .slice p42 1 1, .slice q42 1 1], .int .i64 0]) (by rw [results_ct rfl]; go_simp) rfl ?_
  all_goals exact ⟨p42, q42, rfl, hp42.mid hB (((((Mid.refl _ _ _).set _ _ (by omega) (by omega) _).set _ _ (by omega) (by omega) _).set _ _ (by omega) (by omega) _)), hq42.mid hB (((((Mid.refl _ _ _).set _ _ (by omega) (by omega) _).set _ _ (by omega) (by omega) _).set _ _ (by omega) (by omega) _))⟩

end Go.Proofs.YtjbeagbkjmaeeaaGreatDoor

namespace Go.Proofs.YtjbeagbkjmaeeaaGreatDoor
open Go.RowKit
set_option linter.unusedVariables false

set_option maxHeartbeats 2000000 in
theorem scaleOf2_10 (w : World) : Calls Tryz.prog 101 #[.int .i64 10] w fun e w' => ∃ a, e = .returned (.agg #[.int .i64 10, .int .i64 9, .slice none 0 0, .slice a (ln 1000000000) (ln 1000000000)]) ∧ New w w' a 1000000000 (ln 1000000000) := by
  obtain ⟨N, hN⟩ : ∃ N : Nat, 1000000000 = N := ⟨_, rfl⟩
  have HO' : ∀ w', Calls Tryz.prog 113 #[.int .u64 1000000000] w' fun e w'' => ∃ ao, e = .returned (.slice ao (ln N) (ln N)) ∧ New w' w'' ao N (ln N) := fun w' => by subst hN; exact Of_any 1000000000 w' (by omega)
  have HO := hide' HO'
  rw [hN]
  clear HO' hN
  go_enter Tryz.func101, Tryz.ntmps101
  go_wp2_with fail
  obtain ⟨W, hW⟩ : ∃ W, (w.alloc (.cells #[.int .i64 0, .int .i64 0, .slice none 0 0, .slice none 0 0] 111)) = W := ⟨_, rfl⟩
  have r00 : W.cell? ⟨w.heap.size, 0, none⟩ = some (.int .i64 0) := by subst hW; go_simp
  have r01 : W.cell? ⟨w.heap.size, 1, none⟩ = some (.int .i64 0) := by subst hW; go_simp
  have r02 : W.cell? ⟨w.heap.size, 2, none⟩ = some (.slice none 0 0) := by subst hW; go_simp
  have r03 : W.cell? ⟨w.heap.size, 3, none⟩ = some (.slice none 0 0) := by subst hW; go_simp
  have hB : Below w.heap.size w W := by subst hW; exact ((Below.refl _ _).alloc (by (try simp only [World.size_alloc]); omega) _)
  have hR0 : Row W (w.heap.size) := by
    have := row_new (w) #[.int .i64 0, .int .i64 0, .slice none 0 0, .slice none 0 0] 111
    try simp only [World.size_alloc] at this
    subst hW; exact this
  have hz : W.heap.size = w.heap.size + 1 := by subst hW; simp only [World.size_alloc]
  rw [hW]
  clear hW
  have hBW : Below W.heap.size W W := Below.refl _ _
  refine wp_loop_rounds 10 ?_
  repeat (rw [rounds_succ]; go_wp2_with fail)
  refine (HO.out _).mono ?_
  rintro e w1 ⟨a1, rfl, h1⟩
  have b1 := h1.below
  replace h1 := h1.back hBW
  replace hBW := hBW.trans (b1.mono hBW.size)
  replace r00 := below_cell b1 r00
  replace r01 := below_cell b1 r01
  replace r02 := below_cell b1 r02
  replace r03 := below_cell b1 r03
  replace hR0 := below_row b1 hR0
  have fz0 := fun o => hR0.frozen o
  go_wp2
  all_goals refine bodyPost_ret (v := .agg #[.int .i64 10, .int .i64 9, .slice none 0 0, .slice a1 (ln N) (ln N)]) (by rw [results_cell rfl]; go_simp) rfl ?_
  all_goals exact ⟨a1, rfl, h1.mid hB ((((((Mid.refl _ _ _).set _ _ (by omega) (by omega) _).set _ _ (by omega) (by omega) _).set _ _ (by omega) (by omega) _).set _ _ (by omega) (by omega) _))⟩
set_option maxHeartbeats 4000000 in
set_option maxRecDepth 100000 in
theorem writeLimb_2 (p b : Nat) (w : World) (h : Digits w) (hp : w.cell? ⟨p, 0, none⟩ = some (.int .i64 10)) (hR : Row w b) (h1 : b ≠ 3) (h2 : b ≠ p) (hc : w.cell? ⟨b, 0, none⟩ = some (.int .u8 0) ∧ w.cell? ⟨b, 1, none⟩ = some (.int .u8 0) ∧ w.cell? ⟨b, 2, none⟩ = some (.int .u8 0) ∧ w.cell? ⟨b, 3, none⟩ = some (.int .u8 0) ∧ w.cell? ⟨b, 4, none⟩ = some (.int .u8 0) ∧ w.cell? ⟨b, 5, none⟩ = some (.int .u8 0) ∧ w.cell? ⟨b, 6, none⟩ = some (.int .u8 0) ∧ w.cell? ⟨b, 7, none⟩ = some (.int .u8 0) ∧ w.cell? ⟨b, 8, none⟩ = some (.int .u8 0)) :
    Calls Tryz.prog 140 #[.pointer (some ⟨p, 0, none⟩), .slice (some ⟨b, 0, none⟩) 9 9, .int .u64 2] w fun e w' => e = .returned (.tuple #[]) ∧ Wr b 0 9 w w' ∧ (w'.cell? ⟨b, 0, none⟩ = some (.int .u8 48) ∧ w'.cell? ⟨b, 1, none⟩ = some (.int .u8 48) ∧ w'.cell? ⟨b, 2, none⟩ = some (.int .u8 48) ∧ w'.cell? ⟨b, 3, none⟩ = some (.int .u8 48) ∧ w'.cell? ⟨b, 4, none⟩ = some (.int .u8 48) ∧ w'.cell? ⟨b, 5, none⟩ = some (.int .u8 48) ∧ w'.cell? ⟨b, 6, none⟩ = some (.int .u8 48) ∧ w'.cell? ⟨b, 7, none⟩ = some (.int .u8 48) ∧ w'.cell? ⟨b, 8, none⟩ = some (.int .u8 50)) := by
  obtain ⟨g0, g1, g2, g3, g4⟩ := h
  obtain ⟨c0, c1, c2, c3, c4, c5, c6, c7, c8⟩ := hc
  have fz := fun o => hR.frozen o
  have h1s := h1.symm
  have h2s := h2.symm
  go_enter Tryz.func140, Tryz.ntmps140
  go_wp2_with fail
  refine wp_loop_rounds 10 ?_
  repeat (rw [rounds_succ]; go_wp2_with fail)
  all_goals go_end0
  refine ⟨rfl, ?_, ?_⟩
  · have k0 := Wr.refl b 0 9 w
    have k1 := k0.setCell 8 (by omega) (by omega) (.int .u8 50)
    have k2 := k1.setCell 7 (by omega) (by omega) (.int .u8 48)
    have k3 := k2.setCell 6 (by omega) (by omega) (.int .u8 48)
    have k4 := k3.setCell 5 (by omega) (by omega) (.int .u8 48)
    have k5 := k4.setCell 4 (by omega) (by omega) (.int .u8 48)
    have k6 := k5.setCell 3 (by omega) (by omega) (.int .u8 48)
    have k7 := k6.setCell 2 (by omega) (by omega) (.int .u8 48)
    have k8 := k7.setCell 1 (by omega) (by omega) (.int .u8 48)
    have k9 := k8.setCell 0 (by omega) (by omega) (.int .u8 48)
    exact k9
  · refine ⟨?_, ?_, ?_, ?_, ?_, ?_, ?_, ?_, ?_⟩ <;> go_simp
set_option maxHeartbeats 1000000 in
theorem write_2 (p b : Nat) (a : Option Addr) (w : World) (h : Digits w) (hp : w.cell? ⟨p, 0, none⟩ = some (.int .i64 10)) (hR : Row w b) (h1 : b ≠ 3) (h2 : b ≠ p) (hc : w.cell? ⟨b, 0, none⟩ = some (.int .u8 0) ∧ w.cell? ⟨b, 1, none⟩ = some (.int .u8 0) ∧ w.cell? ⟨b, 2, none⟩ = some (.int .u8 0) ∧ w.cell? ⟨b, 3, none⟩ = some (.int .u8 0) ∧ w.cell? ⟨b, 4, none⟩ = some (.int .u8 0) ∧ w.cell? ⟨b, 5, none⟩ = some (.int .u8 0) ∧ w.cell? ⟨b, 6, none⟩ = some (.int .u8 0) ∧ w.cell? ⟨b, 7, none⟩ = some (.int .u8 0) ∧ w.cell? ⟨b, 8, none⟩ = some (.int .u8 0)) (hS : Seg w a 2 1) :
    Calls Tryz.prog 118 #[.pointer (some ⟨p, 0, none⟩), .slice (some ⟨b, 0, none⟩) 9 9, .slice a 1 1, .int .i64 0] w fun e w' => e = .returned (.tuple #[]) ∧ Wr b 0 9 w w' ∧ (w'.cell? ⟨b, 0, none⟩ = some (.int .u8 48) ∧ w'.cell? ⟨b, 1, none⟩ = some (.int .u8 48) ∧ w'.cell? ⟨b, 2, none⟩ = some (.int .u8 48) ∧ w'.cell? ⟨b, 3, none⟩ = some (.int .u8 48) ∧ w'.cell? ⟨b, 4, none⟩ = some (.int .u8 48) ∧ w'.cell? ⟨b, 5, none⟩ = some (.int .u8 48) ∧ w'.cell? ⟨b, 6, none⟩ = some (.int .u8 48) ∧ w'.cell? ⟨b, 7, none⟩ = some (.int .u8 48) ∧ w'.cell? ⟨b, 8, none⟩ = some (.int .u8 50)) := by
  have H1 := hide' (word_any a 1 1 2 w (by omega) hS)
  have H2 := hide' (writeLimb_2 p b w h hp hR h1 h2 hc)
  clear hc
  go_enter Tryz.func118, Tryz.ntmps118
  go_wp2_with fail
  refine H1.out.mono ?_
  rintro e w1 ⟨rfl, rfl⟩
  go_wp2_with fail
  refine H2.out.mono ?_
  rintro e w2 ⟨rfl, hw, hc⟩
  go_wp2
  refine bodyPost_ret (results_none rfl _ _ _) rfl ?_
  exact ⟨rfl, hw, hc⟩
set_option maxHeartbeats 4000000 in
set_option maxRecDepth 100000 in
theorem noughts_2 (b : Nat) (w : World) (h : Digits w) (hc : w.cell? ⟨b, 0, none⟩ = some (.int .u8 48) ∧ w.cell? ⟨b, 1, none⟩ = some (.int .u8 48) ∧ w.cell? ⟨b, 2, none⟩ = some (.int .u8 48) ∧ w.cell? ⟨b, 3, none⟩ = some (.int .u8 48) ∧ w.cell? ⟨b, 4, none⟩ = some (.int .u8 48) ∧ w.cell? ⟨b, 5, none⟩ = some (.int .u8 48) ∧ w.cell? ⟨b, 6, none⟩ = some (.int .u8 48) ∧ w.cell? ⟨b, 7, none⟩ = some (.int .u8 48) ∧ w.cell? ⟨b, 8, none⟩ = some (.int .u8 50)) :
    Calls Tryz.prog 119 #[.slice (some ⟨b, 0, none⟩) 9 9] w fun e w' => e = .returned (.int .i64 8) ∧ Dr w w' := by
  obtain ⟨g0, g1, g2, g3, g4⟩ := h
  obtain ⟨c0, c1, c2, c3, c4, c5, c6, c7, c8⟩ := hc
  go_enter Tryz.func119, Tryz.ntmps119
  go_wp2_with fail
  refine wp_loop_rounds 9 ?_
  repeat (rw [rounds_succ]; go_wp2_with fail; (try go_quiet (fail)); go_wp2_with fail)
  go_ret
  exact ⟨rfl, by first | exact ⟨_, rfl⟩ | exact Dr.drewN ⟨_, rfl⟩ _⟩
set_option maxHeartbeats 4000000 in
set_option maxRecDepth 100000 in
theorem writeLimb_3 (p b : Nat) (w : World) (h : Digits w) (hp : w.cell? ⟨p, 0, none⟩ = some (.int .i64 10)) (hR : Row w b) (h1 : b ≠ 3) (h2 : b ≠ p) (hc : w.cell? ⟨b, 0, none⟩ = some (.int .u8 0) ∧ w.cell? ⟨b, 1, none⟩ = some (.int .u8 0) ∧ w.cell? ⟨b, 2, none⟩ = some (.int .u8 0) ∧ w.cell? ⟨b, 3, none⟩ = some (.int .u8 0) ∧ w.cell? ⟨b, 4, none⟩ = some (.int .u8 0) ∧ w.cell? ⟨b, 5, none⟩ = some (.int .u8 0) ∧ w.cell? ⟨b, 6, none⟩ = some (.int .u8 0) ∧ w.cell? ⟨b, 7, none⟩ = some (.int .u8 0) ∧ w.cell? ⟨b, 8, none⟩ = some (.int .u8 0)) :
    Calls Tryz.prog 140 #[.pointer (some ⟨p, 0, none⟩), .slice (some ⟨b, 0, none⟩) 9 9, .int .u64 3] w fun e w' => e = .returned (.tuple #[]) ∧ Wr b 0 9 w w' ∧ (w'.cell? ⟨b, 0, none⟩ = some (.int .u8 48) ∧ w'.cell? ⟨b, 1, none⟩ = some (.int .u8 48) ∧ w'.cell? ⟨b, 2, none⟩ = some (.int .u8 48) ∧ w'.cell? ⟨b, 3, none⟩ = some (.int .u8 48) ∧ w'.cell? ⟨b, 4, none⟩ = some (.int .u8 48) ∧ w'.cell? ⟨b, 5, none⟩ = some (.int .u8 48) ∧ w'.cell? ⟨b, 6, none⟩ = some (.int .u8 48) ∧ w'.cell? ⟨b, 7, none⟩ = some (.int .u8 48) ∧ w'.cell? ⟨b, 8, none⟩ = some (.int .u8 51)) := by
  obtain ⟨g0, g1, g2, g3, g4⟩ := h
  obtain ⟨c0, c1, c2, c3, c4, c5, c6, c7, c8⟩ := hc
  have fz := fun o => hR.frozen o
  have h1s := h1.symm
  have h2s := h2.symm
  go_enter Tryz.func140, Tryz.ntmps140
  go_wp2_with fail
  refine wp_loop_rounds 10 ?_
  repeat (rw [rounds_succ]; go_wp2_with fail)
  all_goals go_end0
  refine ⟨rfl, ?_, ?_⟩
  · have k0 := Wr.refl b 0 9 w
    have k1 := k0.setCell 8 (by omega) (by omega) (.int .u8 51)
    have k2 := k1.setCell 7 (by omega) (by omega) (.int .u8 48)
    have k3 := k2.setCell 6 (by omega) (by omega) (.int .u8 48)
    have k4 := k3.setCell 5 (by omega) (by omega) (.int .u8 48)
    have k5 := k4.setCell 4 (by omega) (by omega) (.int .u8 48)
    have k6 := k5.setCell 3 (by omega) (by omega) (.int .u8 48)
    have k7 := k6.setCell 2 (by omega) (by omega) (.int .u8 48)
    have k8 := k7.setCell 1 (by omega) (by omega) (.int .u8 48)
    have k9 := k8.setCell 0 (by omega) (by omega) (.int .u8 48)
    exact k9
  · refine ⟨?_, ?_, ?_, ?_, ?_, ?_, ?_, ?_, ?_⟩ <;> go_simp
set_option maxHeartbeats 1000000 in
theorem write_3 (p b : Nat) (a : Option Addr) (w : World) (h : Digits w) (hp : w.cell? ⟨p, 0, none⟩ = some (.int .i64 10)) (hR : Row w b) (h1 : b ≠ 3) (h2 : b ≠ p) (hc : w.cell? ⟨b, 0, none⟩ = some (.int .u8 0) ∧ w.cell? ⟨b, 1, none⟩ = some (.int .u8 0) ∧ w.cell? ⟨b, 2, none⟩ = some (.int .u8 0) ∧ w.cell? ⟨b, 3, none⟩ = some (.int .u8 0) ∧ w.cell? ⟨b, 4, none⟩ = some (.int .u8 0) ∧ w.cell? ⟨b, 5, none⟩ = some (.int .u8 0) ∧ w.cell? ⟨b, 6, none⟩ = some (.int .u8 0) ∧ w.cell? ⟨b, 7, none⟩ = some (.int .u8 0) ∧ w.cell? ⟨b, 8, none⟩ = some (.int .u8 0)) (hS : Seg w a 3 1) :
    Calls Tryz.prog 118 #[.pointer (some ⟨p, 0, none⟩), .slice (some ⟨b, 0, none⟩) 9 9, .slice a 1 1, .int .i64 0] w fun e w' => e = .returned (.tuple #[]) ∧ Wr b 0 9 w w' ∧ (w'.cell? ⟨b, 0, none⟩ = some (.int .u8 48) ∧ w'.cell? ⟨b, 1, none⟩ = some (.int .u8 48) ∧ w'.cell? ⟨b, 2, none⟩ = some (.int .u8 48) ∧ w'.cell? ⟨b, 3, none⟩ = some (.int .u8 48) ∧ w'.cell? ⟨b, 4, none⟩ = some (.int .u8 48) ∧ w'.cell? ⟨b, 5, none⟩ = some (.int .u8 48) ∧ w'.cell? ⟨b, 6, none⟩ = some (.int .u8 48) ∧ w'.cell? ⟨b, 7, none⟩ = some (.int .u8 48) ∧ w'.cell? ⟨b, 8, none⟩ = some (.int .u8 51)) := by
  have H1 := hide' (word_any a 1 1 3 w (by omega) hS)
  have H2 := hide' (writeLimb_3 p b w h hp hR h1 h2 hc)
  clear hc
  go_enter Tryz.func118, Tryz.ntmps118
  go_wp2_with fail
  refine H1.out.mono ?_
  rintro e w1 ⟨rfl, rfl⟩
  go_wp2_with fail
  refine H2.out.mono ?_
  rintro e w2 ⟨rfl, hw, hc⟩
  go_wp2
  refine bodyPost_ret (results_none rfl _ _ _) rfl ?_
  exact ⟨rfl, hw, hc⟩
set_option maxHeartbeats 4000000 in
set_option maxRecDepth 100000 in
theorem noughts_3 (b : Nat) (w : World) (h : Digits w) (hc : w.cell? ⟨b, 0, none⟩ = some (.int .u8 48) ∧ w.cell? ⟨b, 1, none⟩ = some (.int .u8 48) ∧ w.cell? ⟨b, 2, none⟩ = some (.int .u8 48) ∧ w.cell? ⟨b, 3, none⟩ = some (.int .u8 48) ∧ w.cell? ⟨b, 4, none⟩ = some (.int .u8 48) ∧ w.cell? ⟨b, 5, none⟩ = some (.int .u8 48) ∧ w.cell? ⟨b, 6, none⟩ = some (.int .u8 48) ∧ w.cell? ⟨b, 7, none⟩ = some (.int .u8 48) ∧ w.cell? ⟨b, 8, none⟩ = some (.int .u8 51)) :
    Calls Tryz.prog 119 #[.slice (some ⟨b, 0, none⟩) 9 9] w fun e w' => e = .returned (.int .i64 8) ∧ Dr w w' := by
  obtain ⟨g0, g1, g2, g3, g4⟩ := h
  obtain ⟨c0, c1, c2, c3, c4, c5, c6, c7, c8⟩ := hc
  go_enter Tryz.func119, Tryz.ntmps119
  go_wp2_with fail
  refine wp_loop_rounds 9 ?_
  repeat (rw [rounds_succ]; go_wp2_with fail; (try go_quiet (fail)); go_wp2_with fail)
  go_ret
  exact ⟨rfl, by first | exact ⟨_, rfl⟩ | exact Dr.drewN ⟨_, rfl⟩ _⟩
end Go.Proofs.YtjbeagbkjmaeeaaGreatDoor

namespace Go.Proofs.YtjbeagbkjmaeeaaGreatDoor
open Go.RowKit
set_option linter.unusedVariables false

theorem mk9 (w : World) : (Instr.makeSlice 123 (.int .i64 9) (.int .i64 9)).run Tryz.prog w = .ok (.slice (some ⟨w.heap.size, 0, none⟩) 9 9) (w.alloc (.cells #[.int .u8 0, .int .u8 0, .int .u8 0, .int .u8 0, .int .u8 0, .int .u8 0, .int .u8 0, .int .u8 0, .int .u8 0] 5)) := by
  first | kernel_rfl | rfl
set_option maxHeartbeats 4000000 in
set_option maxRecDepth 100000 in
theorem nText_2 (a : Option Addr) (w : World) (h : Digits w) (hS : Seg w a 2 1) :
    Calls Tryz.prog 88 #[.slice a 1 1, .int .i64 10] w fun e w' => e = .returned (.tuple #[.string ⟨#[50]⟩, .int .i64 0]) ∧ Below w.heap.size w w' := by
  have H0 := hide' (trim_any a 1 1 2 w (Nat.le_refl _) (by omega) hS)
  rw [ln_2] at H0
  have H1 := hide' scaleOf2_10
  obtain ⟨N, hN⟩ : ∃ N : Nat, ln 1000000000 = N := ⟨_, rfl⟩
  rw [hN] at H1
  have hNl : N ≤ 2 := by rw [← hN]; exact ln_le_of_lt (by rw [BB2]; decide)
  have H2 := hide' (fun x y w' k1 k2 => Cmp_any x y 1 1 2 N N 1000000000 w' (Nat.le_refl _) (by omega) k1 (Nat.le_refl _) (by omega) k2)
  rw [show cmpI 2 1000000000 = -1 from by decide] at H2
  have H3 := hide' (fun p b x w' k1 k2 k3 k4 k5 k6 k7 => write_2 p b x w' k1 k2 k3 k4 k5 k6 k7)
  have H4 := hide' (fun b w' k1 k2 => noughts_2 b w' k1 k2)
  go_enter Tryz.func88, Tryz.ntmps88
  go_wp2_with fail
  refine (isBase_10 _).mono ?_
  rintro e w0 ⟨rfl, rfl⟩
  go_wp2_with fail
  refine H0.out.mono ?_
  rintro e w1 ⟨a1, rfl, rfl, ht⟩
  obtain rfl := ht.2 (by omega)
  go_wp2_with fail
  refine (H1.out _).mono ?_
  rintro e w2 ⟨a2, rfl, h2⟩
  have hc := below_alloc (w := w2) (.cells #[.int .i64 10, .int .i64 9, .slice none 0 0, .slice a2 N N] 111)
  have hB := h2.below.trans (hc.mono h2.below.size)
  have kS := hS.below hB (Nat.le_refl _)
  have kN := h2.seg.later hc
  have hD := h.below hB
  have q0 : (w2.alloc (.cells #[.int .i64 10, .int .i64 9, .slice none 0 0, .slice a2 N N] 111)).cell? ⟨w2.heap.size, 0, none⟩ = some (.int .i64 10) := by go_simp
  have q1 : (w2.alloc (.cells #[.int .i64 10, .int .i64 9, .slice none 0 0, .slice a2 N N] 111)).cell? ⟨w2.heap.size, 1, none⟩ = some (.int .i64 9) := by go_simp
  have q2 : (w2.alloc (.cells #[.int .i64 10, .int .i64 9, .slice none 0 0, .slice a2 N N] 111)).cell? ⟨w2.heap.size, 2, none⟩ = some (.slice none 0 0) := by go_simp
  have q3 : (w2.alloc (.cells #[.int .i64 10, .int .i64 9, .slice none 0 0, .slice a2 N N] 111)).cell? ⟨w2.heap.size, 3, none⟩ = some (.slice a2 N N) := by go_simp
  have hz : (w2.alloc (.cells #[.int .i64 10, .int .i64 9, .slice none 0 0, .slice a2 N N] 111)).heap.size = w2.heap.size + 1 := World.size_alloc _ _
  have hl2 := h2.below.size
  have hg : 3 < w0.heap.size := World.block_lt_of_cell? w0 ⟨3, 0, none⟩ h.1
  have G2 := hide' (H2.out _ _ _ kS kN)
  go_wp2_with fail
  generalize (w2.alloc (.cells #[.int .i64 10, .int .i64 9, .slice none 0 0, .slice a2 N N] 111)) = W at hB kS kN hD q0 q1 q2 q3 hz G2 ⊢
  refine wp_loop_rounds 1 ?_
  rw [rounds_succ]
  go_wp2_with fail
  refine G2.out.mono ?_
  rintro e w3 ⟨rfl, n3, rfl⟩
  go_wp2_with fail
  rw [mk9]
  simp only [Result.andThen]
  rw [Oper.upon_value]
  have b4 := below_alloc (w := W.drewN n3) (.cells #[.int .u8 0, .int .u8 0, .int .u8 0, .int .u8 0, .int .u8 0, .int .u8 0, .int .u8 0, .int .u8 0, .int .u8 0] 5)
  have r4 := row_new (W.drewN n3) #[.int .u8 0, .int .u8 0, .int .u8 0, .int .u8 0, .int .u8 0, .int .u8 0, .int .u8 0, .int .u8 0, .int .u8 0] 5
  have hs4 : (W.drewN n3).heap.size = W.heap.size := rfl
  simp only [hs4] at b4 r4 ⊢
  have cc : ∀ j, j < 9 → ((W.drewN n3).alloc (.cells #[.int .u8 0, .int .u8 0, .int .u8 0, .int .u8 0, .int .u8 0, .int .u8 0, .int .u8 0, .int .u8 0, .int .u8 0] 5)).cell? ⟨W.heap.size, j, none⟩ = some (.int .u8 0) := by
    intro j hj
    have := World.cell?_alloc_mark (W.drewN n3) #[.int .u8 0, .int .u8 0, .int .u8 0, .int .u8 0, .int .u8 0, .int .u8 0, .int .u8 0, .int .u8 0, .int .u8 0] 5 (0, 0) j
    simp only [hs4] at this
    rw [this]
    match j, hj with
    | 0, _ => rfl
    | 1, _ => rfl
    | 2, _ => rfl
    | 3, _ => rfl
    | 4, _ => rfl
    | 5, _ => rfl
    | 6, _ => rfl
    | 7, _ => rfl
    | 8, _ => rfl
  have hz4 : ((W.drewN n3).alloc (.cells #[.int .u8 0, .int .u8 0, .int .u8 0, .int .u8 0, .int .u8 0, .int .u8 0, .int .u8 0, .int .u8 0, .int .u8 0] 5)).heap.size = W.heap.size + 1 := World.size_alloc _ _
  have kS4 := (Seg.drewN (q := n3) kS).later b4
  have hD4 := (show Digits (W.drewN n3) from hD).below b4
  have p0 := below_cell b4 (show (W.drewN n3).cell? _ = _ from q0)
  have p1 := below_cell b4 (show (W.drewN n3).cell? _ = _ from q1)
  have p2 := below_cell b4 (show (W.drewN n3).cell? _ = _ from q2)
  have p3 := below_cell b4 (show (W.drewN n3).cell? _ = _ from q3)
  have G3 := hide' (H3.out w2.heap.size W.heap.size _ _ hD4 p0 r4 (by omega) (by omega) ⟨cc 0 (by omega), cc 1 (by omega), cc 2 (by omega), cc 3 (by omega), cc 4 (by omega), cc 5 (by omega), cc 6 (by omega), cc 7 (by omega), cc 8 (by omega)⟩ kS4)
  have hB4 := (below_drewN (q := n3) hB).trans (b4.mono hB.size)
  generalize ((W.drewN n3).alloc (.cells #[.int .u8 0, .int .u8 0, .int .u8 0, .int .u8 0, .int .u8 0, .int .u8 0, .int .u8 0, .int .u8 0, .int .u8 0] 5)) = W4 at hD4 p0 p1 p2 p3 r4 hz4 G3 hB4 ⊢
  clear cc b4 kS4 hs4 kN kS hD q0 q1 q2 q3 G2
  have hz1 := Nat.le_of_eq hz
  have hz2 := Nat.le_of_eq hz.symm
  have hz3 := Nat.le_of_eq hz4.symm
  clear hz hz4
  go_wp2_with fail
  refine G3.out.mono ?_
  rintro e w5 ⟨rfl, hwr, hcs⟩
  have hs2 := hB.size
  have hB5 := hB4.trans (hwr.below (B := w0.heap.size) (by omega) (by omega))
  have hD5 := h.below hB5
  have G4 := hide' (H4.out _ _ hD5 hcs)
  have c8 := hcs.2.2.2.2.2.2.2.2
  clear hcs
  go_wp2_with fail
  refine G4.out.mono ?_
  rintro e w6 ⟨rfl, n6, rfl⟩
  have hcv := fun cap => run_convert_bytes_back (P := Tryz.prog) (w5.drewN n6) 123 9 5 ⟨W.heap.size, 8, none⟩ cap [50] Tryz.underlying123 Tryz.underlying5 Tryz.underlying9 (fun j hj => by match j, hj with | 0, _ => exact c8)
  simp only [List.length_singleton] at hcv
  go_wp2
  all_goals (try go_ret2)
  all_goals exact ⟨rfl, below_drewN hB5⟩
set_option maxHeartbeats 4000000 in
set_option maxRecDepth 100000 in
theorem nText_3 (a : Option Addr) (w : World) (h : Digits w) (hS : Seg w a 3 1) :
    Calls Tryz.prog 88 #[.slice a 1 1, .int .i64 10] w fun e w' => e = .returned (.tuple #[.string ⟨#[51]⟩, .int .i64 0]) ∧ Below w.heap.size w w' := by
  have H0 := hide' (trim_any a 1 1 3 w (Nat.le_refl _) (by omega) hS)
  rw [ln_3] at H0
  have H1 := hide' scaleOf2_10
  obtain ⟨N, hN⟩ : ∃ N : Nat, ln 1000000000 = N := ⟨_, rfl⟩
  rw [hN] at H1
  have hNl : N ≤ 2 := by rw [← hN]; exact ln_le_of_lt (by rw [BB2]; decide)
  have H2 := hide' (fun x y w' k1 k2 => Cmp_any x y 1 1 3 N N 1000000000 w' (Nat.le_refl _) (by omega) k1 (Nat.le_refl _) (by omega) k2)
  rw [show cmpI 3 1000000000 = -1 from by decide] at H2
  have H3 := hide' (fun p b x w' k1 k2 k3 k4 k5 k6 k7 => write_3 p b x w' k1 k2 k3 k4 k5 k6 k7)
  have H4 := hide' (fun b w' k1 k2 => noughts_3 b w' k1 k2)
  go_enter Tryz.func88, Tryz.ntmps88
  go_wp2_with fail
  refine (isBase_10 _).mono ?_
  rintro e w0 ⟨rfl, rfl⟩
  go_wp2_with fail
  refine H0.out.mono ?_
  rintro e w1 ⟨a1, rfl, rfl, ht⟩
  obtain rfl := ht.2 (by omega)
  go_wp2_with fail
  refine (H1.out _).mono ?_
  rintro e w2 ⟨a2, rfl, h2⟩
  have hc := below_alloc (w := w2) (.cells #[.int .i64 10, .int .i64 9, .slice none 0 0, .slice a2 N N] 111)
  have hB := h2.below.trans (hc.mono h2.below.size)
  have kS := hS.below hB (Nat.le_refl _)
  have kN := h2.seg.later hc
  have hD := h.below hB
  have q0 : (w2.alloc (.cells #[.int .i64 10, .int .i64 9, .slice none 0 0, .slice a2 N N] 111)).cell? ⟨w2.heap.size, 0, none⟩ = some (.int .i64 10) := by go_simp
  have q1 : (w2.alloc (.cells #[.int .i64 10, .int .i64 9, .slice none 0 0, .slice a2 N N] 111)).cell? ⟨w2.heap.size, 1, none⟩ = some (.int .i64 9) := by go_simp
  have q2 : (w2.alloc (.cells #[.int .i64 10, .int .i64 9, .slice none 0 0, .slice a2 N N] 111)).cell? ⟨w2.heap.size, 2, none⟩ = some (.slice none 0 0) := by go_simp
  have q3 : (w2.alloc (.cells #[.int .i64 10, .int .i64 9, .slice none 0 0, .slice a2 N N] 111)).cell? ⟨w2.heap.size, 3, none⟩ = some (.slice a2 N N) := by go_simp
  have hz : (w2.alloc (.cells #[.int .i64 10, .int .i64 9, .slice none 0 0, .slice a2 N N] 111)).heap.size = w2.heap.size + 1 := World.size_alloc _ _
  have hl2 := h2.below.size
  have hg : 3 < w0.heap.size := World.block_lt_of_cell? w0 ⟨3, 0, none⟩ h.1
  have G2 := hide' (H2.out _ _ _ kS kN)
  go_wp2_with fail
  generalize (w2.alloc (.cells #[.int .i64 10, .int .i64 9, .slice none 0 0, .slice a2 N N] 111)) = W at hB kS kN hD q0 q1 q2 q3 hz G2 ⊢
  refine wp_loop_rounds 1 ?_
  rw [rounds_succ]
  go_wp2_with fail
  refine G2.out.mono ?_
  rintro e w3 ⟨rfl, n3, rfl⟩
  go_wp2_with fail
  rw [mk9]
  simp only [Result.andThen]
  rw [Oper.upon_value]
  have b4 := below_alloc (w := W.drewN n3) (.cells #[.int .u8 0, .int .u8 0, .int .u8 0, .int .u8 0, .int .u8 0, .int .u8 0, .int .u8 0, .int .u8 0, .int .u8 0] 5)
  have r4 := row_new (W.drewN n3) #[.int .u8 0, .int .u8 0, .int .u8 0, .int .u8 0, .int .u8 0, .int .u8 0, .int .u8 0, .int .u8 0, .int .u8 0] 5
  have hs4 : (W.drewN n3).heap.size = W.heap.size := rfl
  simp only [hs4] at b4 r4 ⊢
  have cc : ∀ j, j < 9 → ((W.drewN n3).alloc (.cells #[.int .u8 0, .int .u8 0, .int .u8 0, .int .u8 0, .int .u8 0, .int .u8 0, .int .u8 0, .int .u8 0, .int .u8 0] 5)).cell? ⟨W.heap.size, j, none⟩ = some (.int .u8 0) := by
    intro j hj
    have := World.cell?_alloc_mark (W.drewN n3) #[.int .u8 0, .int .u8 0, .int .u8 0, .int .u8 0, .int .u8 0, .int .u8 0, .int .u8 0, .int .u8 0, .int .u8 0] 5 (0, 0) j
    simp only [hs4] at this
    rw [this]
    match j, hj with
    | 0, _ => rfl
    | 1, _ => rfl
    | 2, _ => rfl
    | 3, _ => rfl
    | 4, _ => rfl
    | 5, _ => rfl
    | 6, _ => rfl
    | 7, _ => rfl
    | 8, _ => rfl
  have hz4 : ((W.drewN n3).alloc (.cells #[.int .u8 0, .int .u8 0, .int .u8 0, .int .u8 0, .int .u8 0, .int .u8 0, .int .u8 0, .int .u8 0, .int .u8 0] 5)).heap.size = W.heap.size + 1 := World.size_alloc _ _
  have kS4 := (Seg.drewN (q := n3) kS).later b4
  have hD4 := (show Digits (W.drewN n3) from hD).below b4
  have p0 := below_cell b4 (show (W.drewN n3).cell? _ = _ from q0)
  have p1 := below_cell b4 (show (W.drewN n3).cell? _ = _ from q1)
  have p2 := below_cell b4 (show (W.drewN n3).cell? _ = _ from q2)
  have p3 := below_cell b4 (show (W.drewN n3).cell? _ = _ from q3)
  have G3 := hide' (H3.out w2.heap.size W.heap.size _ _ hD4 p0 r4 (by omega) (by omega) ⟨cc 0 (by omega), cc 1 (by omega), cc 2 (by omega), cc 3 (by omega), cc 4 (by omega), cc 5 (by omega), cc 6 (by omega), cc 7 (by omega), cc 8 (by omega)⟩ kS4)
  have hB4 := (below_drewN (q := n3) hB).trans (b4.mono hB.size)
  generalize ((W.drewN n3).alloc (.cells #[.int .u8 0, .int .u8 0, .int .u8 0, .int .u8 0, .int .u8 0, .int .u8 0, .int .u8 0, .int .u8 0, .int .u8 0] 5)) = W4 at hD4 p0 p1 p2 p3 r4 hz4 G3 hB4 ⊢
  clear cc b4 kS4 hs4 kN kS hD q0 q1 q2 q3 G2
  have hz1 := Nat.le_of_eq hz
  have hz2 := Nat.le_of_eq hz.symm
  have hz3 := Nat.le_of_eq hz4.symm
  clear hz hz4
  go_wp2_with fail
  refine G3.out.mono ?_
  rintro e w5 ⟨rfl, hwr, hcs⟩
  have hs2 := hB.size
  have hB5 := hB4.trans (hwr.below (B := w0.heap.size) (by omega) (by omega))
  have hD5 := h.below hB5
  have G4 := hide' (H4.out _ _ hD5 hcs)
  have c8 := hcs.2.2.2.2.2.2.2.2
  clear hcs
  go_wp2_with fail
  refine G4.out.mono ?_
  rintro e w6 ⟨rfl, n6, rfl⟩
  have hcv := fun cap => run_convert_bytes_back (P := Tryz.prog) (w5.drewN n6) 123 9 5 ⟨W.heap.size, 8, none⟩ cap [51] Tryz.underlying123 Tryz.underlying5 Tryz.underlying9 (fun j hj => by match j, hj with | 0, _ => exact c8)
  simp only [List.length_singleton] at hcv
  go_wp2
  all_goals (try go_ret2)
  all_goals exact ⟨rfl, below_drewN hB5⟩
end Go.Proofs.YtjbeagbkjmaeeaaGreatDoor
