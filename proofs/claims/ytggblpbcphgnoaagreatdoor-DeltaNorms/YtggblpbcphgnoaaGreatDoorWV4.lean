/-
  lives: '3' and '-2' are read.
-/
import Derived.Test.YtggblpbcphgnoaaGreatDoorWV2
import Derived.Test.YtggblpbcphgnoaaGreatDoorWQ2
import Derived.Test.YtggblpbcphgnoaaGreatDoorW5
namespace Go.Proofs.YtggblpbcphgnoaaGreatDoor
open Go.RowKit
set_option linter.unusedVariables false

set_option maxHeartbeats 1000000 in
theorem decodeLast_a (w : World) : Calls Tryz.prog 73 #[.string ⟨#[51, 45, 50]⟩] w fun e w' => e = .returned (.tuple #[.int .i32 50, .int .i64 1]) ∧ w' = w := by
  have h1 : (⟨#[51, 45, 50]⟩ : ByteArray).size = 3 := rfl
  have hx : wrap32 (((⟨#[51, 45, 50]⟩ : ByteArray)[2]'(by decide)).toNat : Int) = 50 := by decide +kernel
  go_enter Tryz.func73, Tryz.ntmps73
  go_wp2
  go_ret2
  exact ⟨by show Ending.returned (.tuple #[.int .i32 (wrap32 (((⟨#[51, 45, 50]⟩ : ByteArray)[2]'(by decide)).toNat : Int)), .int .i64 1]) = _; rw [hx], rfl⟩
set_option maxHeartbeats 1000000 in
theorem decodeLast_b (w : World) : Calls Tryz.prog 73 #[.string ⟨#[51, 45]⟩] w fun e w' => e = .returned (.tuple #[.int .i32 45, .int .i64 1]) ∧ w' = w := by
  have h1 : (⟨#[51, 45]⟩ : ByteArray).size = 2 := rfl
  have hx : wrap32 (((⟨#[51, 45]⟩ : ByteArray)[1]'(by decide)).toNat : Int) = 45 := by decide +kernel
  go_enter Tryz.func73, Tryz.ntmps73
  go_wp2
  go_ret2
  exact ⟨by show Ending.returned (.tuple #[.int .i32 (wrap32 (((⟨#[51, 45]⟩ : ByteArray)[1]'(by decide)).toNat : Int)), .int .i64 1]) = _; rw [hx], rfl⟩
set_option maxRecDepth 100000 in
theorem indexByte_la (w : World) : Calls Tryz.prog 118 #[.string ⟨#[43, 45]⟩, .int .u8 50] w fun e w' => e = .returned (.int .i64 (-1)) ∧ w' = w := by
  go_enter Tryz.func118, Tryz.ntmps118
  go_wp2
  rw [run_callFunc_extern Tryz.func139 (by kernel_rfl) (by kernel_rfl) (by kernel_rfl) (e := Extern.BytealgIndexByte.indexByte) (by kernel_rfl), Lib.run_indexByteString]
  simp only [Result.andThen]
  rw [Oper.upon_value]
  go_wp2
  go_ret
  exact ⟨rfl, rfl⟩
theorem sIndexByte_la (w : World) : Calls Tryz.prog 96 #[.string ⟨#[43, 45]⟩, .int .u8 50] w fun e w' => e = .returned (.int .i64 (-1)) ∧ w' = w := by
  have HI := hide' indexByte_la
  go_enter Tryz.func96, Tryz.ntmps96
  go_wp2_with fail
  refine (HI.out _).mono ?_
  rintro e w1 ⟨rfl, rfl⟩
  go_wp2
  go_ret
  exact ⟨rfl, rfl⟩
set_option maxHeartbeats 1000000 in
set_option maxRecDepth 100000 in
theorem indexRune_a (w : World) : Calls Tryz.prog 69 #[.string ⟨#[43, 45]⟩, .int .i32 50] w fun e w' => e = .returned (.int .i64 (-1)) ∧ w' = w := by
  have HI := hide' sIndexByte_la
  go_enter Tryz.func69, Tryz.ntmps69
  go_wp2_with fail
  refine (HI.out _).mono ?_
  rintro e w1 ⟨rfl, rfl⟩
  go_wp2
  go_ret
  exact ⟨rfl, rfl⟩
set_option maxRecDepth 100000 in
theorem indexByte_lb (w : World) : Calls Tryz.prog 118 #[.string ⟨#[43, 45]⟩, .int .u8 45] w fun e w' => e = .returned (.int .i64 1) ∧ w' = w := by
  go_enter Tryz.func118, Tryz.ntmps118
  go_wp2
  rw [run_callFunc_extern Tryz.func139 (by kernel_rfl) (by kernel_rfl) (by kernel_rfl) (e := Extern.BytealgIndexByte.indexByte) (by kernel_rfl), Lib.run_indexByteString]
  simp only [Result.andThen]
  rw [Oper.upon_value]
  go_wp2
  go_ret
  exact ⟨rfl, rfl⟩
theorem sIndexByte_lb (w : World) : Calls Tryz.prog 96 #[.string ⟨#[43, 45]⟩, .int .u8 45] w fun e w' => e = .returned (.int .i64 1) ∧ w' = w := by
  have HI := hide' indexByte_lb
  go_enter Tryz.func96, Tryz.ntmps96
  go_wp2_with fail
  refine (HI.out _).mono ?_
  rintro e w1 ⟨rfl, rfl⟩
  go_wp2
  go_ret
  exact ⟨rfl, rfl⟩
set_option maxHeartbeats 1000000 in
set_option maxRecDepth 100000 in
theorem indexRune_b (w : World) : Calls Tryz.prog 69 #[.string ⟨#[43, 45]⟩, .int .i32 45] w fun e w' => e = .returned (.int .i64 1) ∧ w' = w := by
  have HI := hide' sIndexByte_lb
  go_enter Tryz.func69, Tryz.ntmps69
  go_wp2_with fail
  refine (HI.out _).mono ?_
  rintro e w1 ⟨rfl, rfl⟩
  go_wp2
  go_ret
  exact ⟨rfl, rfl⟩
theorem useASCII_3 (w : World) : Calls Tryz.prog 70 #[.int .i64 3] w fun e w' => e = .returned (.bool false) ∧ w' = w := by
  go_enter Tryz.func70, Tryz.ntmps70
  go_wp2
  go_ret
  exact ⟨rfl, rfl⟩
set_option maxHeartbeats 2000000 in
set_option maxRecDepth 100000 in
theorem lastIndexAny_v (w : World) : Calls Tryz.prog 44 #[.string ⟨#[51, 45, 50]⟩, .string ⟨#[43, 45]⟩] w fun e w' => e = .returned (.int .i64 1) ∧ w' = w := by
  have h1 : (⟨#[51, 45, 50]⟩ : ByteArray).size = 3 := rfl
  have h2 : (⟨#[43, 45]⟩ : ByteArray).size = 2 := rfl
  have he : ((⟨#[43, 45]⟩ : ByteArray) == ByteArray.empty) = false := by decide
  have e1 : (⟨#[51, 45, 50]⟩ : ByteArray).extract 0 3 = ⟨#[51, 45, 50]⟩ := by decide +kernel
  have e2 : (⟨#[51, 45, 50]⟩ : ByteArray).extract 0 2 = ⟨#[51, 45]⟩ := by decide +kernel
  have D1 := hide' decodeLast_a
  have D2 := hide' decodeLast_b
  have I1 := hide' indexRune_a
  have I2 := hide' indexRune_b
  have U := hide' useASCII_3
  go_enter Tryz.func44, Tryz.ntmps44
  go_wp2_with fail
  refine (U.out _).mono ?_
  rintro e w1 ⟨rfl, rfl⟩
  go_wp2_with fail
  refine wp_loop_rounds 2 ?_
  rw [rounds_succ]
  go_wp2_with fail
  try simp only [e1]
  refine (D1.out _).mono ?_
  rintro e w2 ⟨rfl, rfl⟩
  go_wp2_with fail
  refine (I1.out _).mono ?_
  rintro e w3 ⟨rfl, rfl⟩
  go_wp2_with fail
  rw [rounds_succ]
  go_wp2_with fail
  try simp only [e2]
  refine (D2.out _).mono ?_
  rintro e w4 ⟨rfl, rfl⟩
  go_wp2_with fail
  refine (I2.out _).mono ?_
  rintro e w5 ⟨rfl, rfl⟩
  go_wp2
  go_ret
  exact ⟨rfl, rfl⟩

set_option maxHeartbeats 2000000 in
theorem dcut_v (w : World) : Calls Tryz.prog 27 #[.string ⟨#[51, 45, 50, 100]⟩] w fun e w' => e = .returned (.tuple #[.string ⟨#[51]⟩, .string ⟨#[45, 50]⟩]) ∧ Dr w w' := by
  have h1 : (⟨#[51, 45, 50]⟩ : ByteArray).size = 3 := rfl
  have e1 : (⟨#[51, 45, 50]⟩ : ByteArray).extract 0 1 = ⟨#[51]⟩ := by decide +kernel
  have e2 : (⟨#[51, 45, 50]⟩ : ByteArray).extract 1 3 = ⟨#[45, 50]⟩ := by decide +kernel
  have D1 := hide' cutSuffix_v
  have D2 := hide' lastIndexAny_v
  have D3 := hide' trimPrefix_m2
  go_enter Tryz.func27, Tryz.ntmps27
  go_wp2_with fail
  refine (D1.out _).mono ?_
  rintro e w1 ⟨rfl, rfl⟩
  go_wp2_with fail
  refine (D2.out _).mono ?_
  rintro e w2 ⟨rfl, rfl⟩
  go_wp2_with fail
  simp only [show max (1 : Int) 0 = 1 by decide]
  go_quiet ((go_at_call 45; exact Calls.quiet_of_same (D3.out _)))
  go_wp2
  go_ret2
  exact ⟨by first | rfl | simp only [e1], ⟨_, rfl⟩⟩
end Go.Proofs.YtggblpbcphgnoaaGreatDoor

namespace Go.Proofs.YtggblpbcphgnoaaGreatDoor
open Go.RowKit
set_option linter.unusedVariables false

theorem ln_2 : ln 2 = 1 := ln_of_top (by rw [BB_eq]; omega) (by rw [dg0]; omega)
theorem ln_3 : ln 3 = 1 := ln_of_top (by rw [BB_eq]; omega) (by rw [dg0]; omega)
theorem ln_1 : ln 1 = 1 := ln_one
set_option maxHeartbeats 1000000 in
theorem quotient_v2 (w : World) (h : Digits w) : Calls Tryz.prog 77 #[.string ⟨#[50]⟩, .string ⟨#[49]⟩] w fun e w' => ∃ p q, e = .returned (.tuple #[.slice p 1 1, .slice q 1 1, .int .i64 0]) ∧ New w w' p 2 1 ∧ New w w' q 1 1 := by
  obtain ⟨A2, hA2⟩ : ∃ A2 : Nat, 2 = A2 := ⟨_, rfl⟩
  obtain ⟨A4, hA4⟩ : ∃ A4 : Nat, 1 = A4 := ⟨_, rfl⟩
  obtain ⟨L, hL⟩ : ∃ L : Nat, 1 = L := ⟨_, rfl⟩
  have l4 : L ≤ 2 := by omega
  have P2 : Calls Tryz.prog 104 #[.string ⟨#[50]⟩, .int .i64 10] w fun e w' => ∃ a, e = .returned (.tuple #[.slice a L L, .int .i64 0]) ∧ New w w' a A2 L := by subst hA2 hL; have := Parse_2 w h; rw [ln_2] at this; exact this
  have P4 : ∀ w', Digits w' → Calls Tryz.prog 104 #[.string ⟨#[49]⟩, .int .i64 10] w' fun e w'' => ∃ a, e = .returned (.tuple #[.slice a L L, .int .i64 0]) ∧ New w' w'' a A4 L := fun w' h' => by subst hA4 hL; have := Parse_1 w' h'; rw [ln_1] at this; exact this
  have hb : (((bl A4 : Nat) : Int) == 0) = false := by rw [bl_beq, ← hA4]; rfl
  have Q2 := hide' P2
  have Q4 := hide' P4
  have e2 : ∀ w' q, New w w' q 2 1 ↔ New w w' q A2 L := fun w' q => by rw [← hA2, ← hL]
  have e4 : ∀ w' q, New w w' q 1 1 ↔ New w w' q A4 L := fun w' q => by rw [← hA4, ← hL]
  have e5 : ∀ p : Option Addr, Value.slice p 1 1 = .slice p L L := fun p => by rw [← hL]
  simp only [e2, e4, e5]
  clear P2 P4 hA2 hA4 e2 e4 e5 hL
  go_enter Tryz.func77, Tryz.ntmps77
  go_wp2_with fail
  refine Q2.out.mono ?_
  rintro e w1 ⟨a1, rfl, h1⟩
  go_wp2_with fail
  refine (Q4.out _ (h.below h1.below)).mono ?_
  rintro e w2 ⟨a2, rfl, h2⟩
  have g1 := h1.later h2.below
  have g2 := h2.back h1.below
  go_wp2_with fail
  refine (Bits_any a2 L L A4 _ (Nat.le_refl _) (by omega) h2.seg).mono ?_
  rintro e w3 ⟨rfl, rfl⟩
  go_wp2
  go_ret3
  exact ⟨a1, a2, rfl, g1, g2⟩

set_option maxHeartbeats 1000000 in
theorem parts_v2 (w : World) (h : Digits w) : Calls Tryz.prog 47 #[.string ⟨#[50]⟩] w fun e w' => ∃ p q, e = .returned (.tuple #[.slice p 1 1, .slice q 1 1, .int .i64 0]) ∧ New w w' p 2 1 ∧ New w w' q 1 1 := by
  have H1 := hide' cut_2s
  have H3 := hide' cut_2p
  have H2 := hide' quotient_v2
  go_enter Tryz.func47, Tryz.ntmps47
  go_wp2_with fail
  refine (H1.out _).mono ?_
  rintro e w1 ⟨rfl, rfl⟩
  go_wp2_with fail
  refine (H3.out _).mono ?_
  rintro e w2 ⟨rfl, rfl⟩
  go_wp2_with fail
  refine (H2.out _ h).mono ?_
  rintro e w3 ⟨p, q, rfl, h1, h2⟩
  go_wp2
  go_ret3
  exact ⟨p, q, rfl, h1, h2⟩
set_option maxHeartbeats 1000000 in
theorem quotient_v3 (w : World) (h : Digits w) : Calls Tryz.prog 77 #[.string ⟨#[51]⟩, .string ⟨#[49]⟩] w fun e w' => ∃ p q, e = .returned (.tuple #[.slice p 1 1, .slice q 1 1, .int .i64 0]) ∧ New w w' p 3 1 ∧ New w w' q 1 1 := by
  obtain ⟨A2, hA2⟩ : ∃ A2 : Nat, 3 = A2 := ⟨_, rfl⟩
  obtain ⟨A4, hA4⟩ : ∃ A4 : Nat, 1 = A4 := ⟨_, rfl⟩
  obtain ⟨L, hL⟩ : ∃ L : Nat, 1 = L := ⟨_, rfl⟩
  have l4 : L ≤ 2 := by omega
  have P2 : Calls Tryz.prog 104 #[.string ⟨#[51]⟩, .int .i64 10] w fun e w' => ∃ a, e = .returned (.tuple #[.slice a L L, .int .i64 0]) ∧ New w w' a A2 L := by subst hA2 hL; have := Parse_3 w h; rw [ln_3] at this; exact this
  have P4 : ∀ w', Digits w' → Calls Tryz.prog 104 #[.string ⟨#[49]⟩, .int .i64 10] w' fun e w'' => ∃ a, e = .returned (.tuple #[.slice a L L, .int .i64 0]) ∧ New w' w'' a A4 L := fun w' h' => by subst hA4 hL; have := Parse_1 w' h'; rw [ln_1] at this; exact this
  have hb : (((bl A4 : Nat) : Int) == 0) = false := by rw [bl_beq, ← hA4]; rfl
  have Q2 := hide' P2
  have Q4 := hide' P4
  have e2 : ∀ w' q, New w w' q 3 1 ↔ New w w' q A2 L := fun w' q => by rw [← hA2, ← hL]
  have e4 : ∀ w' q, New w w' q 1 1 ↔ New w w' q A4 L := fun w' q => by rw [← hA4, ← hL]
  have e5 : ∀ p : Option Addr, Value.slice p 1 1 = .slice p L L := fun p => by rw [← hL]
  simp only [e2, e4, e5]
  clear P2 P4 hA2 hA4 e2 e4 e5 hL
  go_enter Tryz.func77, Tryz.ntmps77
  go_wp2_with fail
  refine Q2.out.mono ?_
  rintro e w1 ⟨a1, rfl, h1⟩
  go_wp2_with fail
  refine (Q4.out _ (h.below h1.below)).mono ?_
  rintro e w2 ⟨a2, rfl, h2⟩
  have g1 := h1.later h2.below
  have g2 := h2.back h1.below
  go_wp2_with fail
  refine (Bits_any a2 L L A4 _ (Nat.le_refl _) (by omega) h2.seg).mono ?_
  rintro e w3 ⟨rfl, rfl⟩
  go_wp2
  go_ret3
  exact ⟨a1, a2, rfl, g1, g2⟩

set_option maxHeartbeats 1000000 in
theorem parts_v3 (w : World) (h : Digits w) : Calls Tryz.prog 47 #[.string ⟨#[51]⟩] w fun e w' => ∃ p q, e = .returned (.tuple #[.slice p 1 1, .slice q 1 1, .int .i64 0]) ∧ New w w' p 3 1 ∧ New w w' q 1 1 := by
  have H1 := hide' cut_3s
  have H3 := hide' cut_3p
  have H2 := hide' quotient_v3
  go_enter Tryz.func47, Tryz.ntmps47
  go_wp2_with fail
  refine (H1.out _).mono ?_
  rintro e w1 ⟨rfl, rfl⟩
  go_wp2_with fail
  refine (H3.out _).mono ?_
  rintro e w2 ⟨rfl, rfl⟩
  go_wp2_with fail
  refine (H2.out _ h).mono ?_
  rintro e w3 ⟨p, q, rfl, h1, h2⟩
  go_wp2
  go_ret3
  exact ⟨p, q, rfl, h1, h2⟩
theorem low_v3 : Low (sg false 3) ((1 : Nat) : Int) 3 1 := ⟨by decide, by omega, by decide, by decide⟩
set_option maxHeartbeats 1000000 in
set_option maxRecDepth 100000 in
theorem qParse_v3 (w : World) (h : Digits w) : Calls Tryz.prog 28 #[.string ⟨#[51]⟩] w fun e w' => ∃ p q, e = .returned (.tuple #[.agg #[.bool false, .slice p 1 1, .slice q 1 1], .int .i64 0]) ∧ New w w' p 3 1 ∧ New w w' q 1 1 := by
  have H0 := hide' cutPrefix_3
  have P2 : ∀ w' p q, Seg w' p 3 1 → Seg w' q 1 1 → Calls Tryz.prog 32 #[.agg #[.bool false, .slice p 1 1, .bool false, .slice q 1 1]] w' fun e w'' => ∃ p q, e = .returned (.agg #[.bool false, .slice p 1 1, .slice q 1 1]) ∧ New w' w'' p 3 1 ∧ New w' w'' q 1 1 := fun w' p q k1 k2 => by
    have := lowest_is false p 1 1 3 q 1 1 1 1 3 w' (Nat.le_refl _) (by omega) k1 (Nat.le_refl _) (by omega) k2 low_v3
    rw [show ng 3 = false from rfl, show am 3 = 3 from rfl, ln_1, ln_3] at this
    exact this
  have H1 := hide' parts_v3
  have H2 := hide' P2
  have HD := hide' h
  clear P2 h
  go_enter Tryz.func28, Tryz.ntmps28
  go_wp2_with fail
  obtain ⟨W, hW⟩ : ∃ W, (w.alloc (.cells #[.bool false, .slice none 0 0, .slice none 0 0] 27)) = W := ⟨_, rfl⟩
  have r00 : W.cell? ⟨w.heap.size, 0, none⟩ = some (.bool false) := by subst hW; go_simp
  have r01 : W.cell? ⟨w.heap.size, 1, none⟩ = some (.slice none 0 0) := by subst hW; go_simp
  have r02 : W.cell? ⟨w.heap.size, 2, none⟩ = some (.slice none 0 0) := by subst hW; go_simp
  have hB : Below w.heap.size w W := by subst hW; exact ((Below.refl _ _).alloc (by (try simp only [World.size_alloc]); omega) _)
  have hR0 : Row W (w.heap.size) := by
    have := row_new (w) #[.bool false, .slice none 0 0, .slice none 0 0] 27
    try simp only [World.size_alloc] at this
    subst hW; exact this
  have hz : W.heap.size = w.heap.size + 1 := by subst hW; simp only [World.size_alloc]
  rw [hW]
  clear hW
  have hBW : Below W.heap.size W W := Below.refl _ _
  refine (H0.out _).mono ?_
  rintro e w1 ⟨rfl, rfl⟩
  go_wp2_with fail
  refine (H1.out _ (HD.out.below (hB.trans (hBW.mono hB.size)))).mono ?_
  rintro e w41 ⟨p41, q41, rfl, hp41, hq41⟩
  have b41 := hp41.below
  replace hp41 := hp41.back hBW
  replace hq41 := hq41.back hBW
  replace hBW := hBW.trans (b41.mono hBW.size)
  replace r00 := below_cell b41 r00
  replace r01 := below_cell b41 r01
  replace r02 := below_cell b41 r02
  replace hR0 := below_row b41 hR0
  go_wp2_with fail
  refine (H2.out _ p41 q41 hp41.seg hq41.seg).mono ?_
  rintro e w42 ⟨p42, q42, rfl, hp42, hq42⟩
  have b42 := hp42.below
  replace hp42 := hp42.back hBW
  replace hq42 := hq42.back hBW
  replace hBW := hBW.trans (b42.mono hBW.size)
  replace r00 := below_cell b42 r00
  replace r01 := below_cell b42 r01
  replace r02 := below_cell b42 r02
  replace hR0 := below_row b42 hR0
  replace hp41 := hp41.later b42
  replace hq41 := hq41.later b42
  have fz0 := fun o => hR0.frozen o
  go_wp2
  all_goals refine bodyPost_ret (v := .tuple #[.agg #[.bool false, .slice p42 1 1, .slice q42 1 1], .int .i64 0]) (by rw [results_ct rfl]; go_simp) rfl ?_
  all_goals exact ⟨p42, q42, rfl, hp42.mid hB (((((Mid.refl _ _ _).set _ _ (by omega) (by omega) _).set _ _ (by omega) (by omega) _).set _ _ (by omega) (by omega) _)), hq42.mid hB (((((Mid.refl _ _ _).set _ _ (by omega) (by omega) _).set _ _ (by omega) (by omega) _).set _ _ (by omega) (by omega) _))⟩

theorem low_v2 : Low (sg true 2) ((1 : Nat) : Int) (-2) 1 := ⟨by decide, by omega, by decide, by decide⟩
set_option maxHeartbeats 1000000 in
set_option maxRecDepth 100000 in
theorem qParse_vm2 (w : World) (h : Digits w) : Calls Tryz.prog 28 #[.string ⟨#[45, 50]⟩] w fun e w' => ∃ p q, e = .returned (.tuple #[.agg #[.bool true, .slice p 1 1, .slice q 1 1], .int .i64 0]) ∧ New w w' p 2 1 ∧ New w w' q 1 1 := by
  have H0 := hide' cutPrefix_m2
  have P2 : ∀ w' p q, Seg w' p 2 1 → Seg w' q 1 1 → Calls Tryz.prog 32 #[.agg #[.bool true, .slice p 1 1, .bool false, .slice q 1 1]] w' fun e w'' => ∃ p q, e = .returned (.agg #[.bool true, .slice p 1 1, .slice q 1 1]) ∧ New w' w'' p 2 1 ∧ New w' w'' q 1 1 := fun w' p q k1 k2 => by
    have := lowest_is true p 1 1 2 q 1 1 1 1 (-2) w' (Nat.le_refl _) (by omega) k1 (Nat.le_refl _) (by omega) k2 low_v2
    rw [show ng (-2) = true from rfl, show am (-2) = 2 from rfl, ln_1, ln_2] at this
    exact this
  have H1 := hide' parts_v2
  have H2 := hide' P2
  have HD := hide' h
  clear P2 h
  go_enter Tryz.func28, Tryz.ntmps28
  go_wp2_with fail
  obtain ⟨W, hW⟩ : ∃ W, (w.alloc (.cells #[.bool false, .slice none 0 0, .slice none 0 0] 27)) = W := ⟨_, rfl⟩
  have r00 : W.cell? ⟨w.heap.size, 0, none⟩ = some (.bool false) := by subst hW; go_simp
  have r01 : W.cell? ⟨w.heap.size, 1, none⟩ = some (.slice none 0 0) := by subst hW; go_simp
  have r02 : W.cell? ⟨w.heap.size, 2, none⟩ = some (.slice none 0 0) := by subst hW; go_simp
  have hB : Below w.heap.size w W := by subst hW; exact ((Below.refl _ _).alloc (by (try simp only [World.size_alloc]); omega) _)
  have hR0 : Row W (w.heap.size) := by
    have := row_new (w) #[.bool false, .slice none 0 0, .slice none 0 0] 27
    try simp only [World.size_alloc] at this
    subst hW; exact this
  have hz : W.heap.size = w.heap.size + 1 := by subst hW; simp only [World.size_alloc]
  rw [hW]
  clear hW
  have hBW : Below W.heap.size W W := Below.refl _ _
  refine (H0.out _).mono ?_
  rintro e w1 ⟨rfl, rfl⟩
  go_wp2_with fail
  refine (H1.out _ (HD.out.below (hB.trans (hBW.mono hB.size)))).mono ?_
  rintro e w41 ⟨p41, q41, rfl, hp41, hq41⟩
  have b41 := hp41.below
  replace hp41 := hp41.back hBW
  replace hq41 := hq41.back hBW
  replace hBW := hBW.trans (b41.mono hBW.size)
  replace r00 := below_cell b41 r00
  replace r01 := below_cell b41 r01
  replace r02 := below_cell b41 r02
  replace hR0 := below_row b41 hR0
  go_wp2_with fail
  refine (H2.out _ p41 q41 hp41.seg hq41.seg).mono ?_
  rintro e w42 ⟨p42, q42, rfl, hp42, hq42⟩
  have b42 := hp42.below
  replace hp42 := hp42.back hBW
  replace hq42 := hq42.back hBW
  replace hBW := hBW.trans (b42.mono hBW.size)
  replace r00 := below_cell b42 r00
  replace r01 := below_cell b42 r01
  replace r02 := below_cell b42 r02
  replace hR0 := below_row b42 hR0
  replace hp41 := hp41.later b42
  replace hq41 := hq41.later b42
  have fz0 := fun o => hR0.frozen o
  go_wp2
  all_goals refine bodyPost_ret (v := .tuple #[.agg #[.bool true, .slice p42 1 1, .slice q42 1 1], .int .i64 0]) (by rw [results_ct rfl]; go_simp) rfl ?_
  all_goals exact ⟨p42, q42, rfl, hp42.mid hB (((((Mid.refl _ _ _).set _ _ (by omega) (by omega) _).set _ _ (by omega) (by omega) _).set _ _ (by omega) (by omega) _)), hq42.mid hB (((((Mid.refl _ _ _).set _ _ (by omega) (by omega) _).set _ _ (by omega) (by omega) _).set _ _ (by omega) (by omega) _))⟩

end Go.Proofs.YtggblpbcphgnoaaGreatDoor
