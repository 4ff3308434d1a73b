/-
  WholeShifts: shifts either way, and refused ones.
-/
import Derived.Test.YtjdilgkjgednjaaWS3
import Derived.Test.YtjdilgkjgednjaaWI6
import Derived.Test.YtjdilgkjgednjaaOpenI
namespace Go.Proofs.Ytjdilgkjgednjaa.wholeShifts
open Go.ChangeShapes Go.WideShapes Go.ChangeAt Go.RowKit Go.Proofs.Ytjdilgkjgednjaa
set_option linter.unusedVariables false

theorem same_none (w : World) : Calls Try.prog 9 #[.agg #[.bool false, .slice none 0 0], .agg #[.bool false, .slice none 0 0]] w fun e w' => e = .returned (.bool true) ∧ Below w.heap.size w w' := by
  have z : Seg w none 0 0 := ⟨by simp, fun h => absurd h (by omega)⟩
  have h := sameI_is 0 none none 0 0 w
  rw [show am 0 = 0 from rfl, ln_zero] at h
  exact h (by omega) z z
set_option maxHeartbeats 8000000 in
set_option maxRecDepth 100000 in
theorem lo (s0 : Bool) (a0 : Option Addr) (len0 cap0 X0 : Nat) (z : Int) (hz : z < -1048576) (w : World) (hS0 : Seg w a0 X0 len0) (hc0 : len0 ≤ cap0) (hb0 : len0 ≤ 35184372087808) : Calls Try.prog 3 #[.agg #[.bool s0, .slice a0 len0 cap0], .int .i64 z] w fun e w' => e = .returned (.bool true) ∧ Below w.heap.size w w' := by
  have P0 := hide' (fun w' h => wShift_no s0 a0 len0 cap0 X0 w' hc0 (by omega) h z (Or.inl hz))
  have P1 := hide' (fun w' h => vShift_lo s0 a0 len0 cap0 X0 w' (by omega) h z hz)
  go_enter Try.func3, Try.ntmps3
  go_wp2_with fail
  obtain ⟨W, hW⟩ : ∃ W, (w.alloc (.cells #[.bool s0, .slice a0 len0 cap0] 25)) = W := ⟨_, rfl⟩
  have q00 : W.cell? ⟨w.heap.size, 0, none⟩ = some (.bool s0) := by subst hW; go_simp
  have q01 : W.cell? ⟨w.heap.size, 1, none⟩ = some (.slice a0 len0 cap0) := by subst hW; go_simp
  have hB : Below w.heap.size w W := by subst hW; exact ((Below.refl _ _).alloc (by (try simp only [World.size_alloc]); omega) _)
  have hz : W.heap.size = w.heap.size + 1 := by subst hW; simp only [World.size_alloc]
  rw [hW]
  clear hW
  have hBW : Below W.heap.size W W := Below.refl _ _
  refine (P0.out _ (sb hS0 hB hBW)).mono ?_
  rintro e w3 ⟨rfl, b3⟩
  replace hBW := hBW.trans (b3.mono hBW.size)
  replace q00 := below_cell b3 q00
  replace q01 := below_cell b3 q01
  have l300 : ((w3.alloc (.cells #[.bool false, .slice none 0 0] 25))).cell? ⟨w3.heap.size, 0, none⟩ = some (.bool false) := by go_simp
  have l301 : ((w3.alloc (.cells #[.bool false, .slice none 0 0] 25))).cell? ⟨w3.heap.size, 1, none⟩ = some (.slice none 0 0) := by go_simp
  have cb3 : Below w3.heap.size w3 ((w3.alloc (.cells #[.bool false, .slice none 0 0] 25))) := ((Below.refl _ _).alloc (by (try simp only [World.size_alloc]); omega) _)
  replace hBW := hBW.trans (cb3.mono hBW.size)
  replace q00 := below_cell cb3 q00
  replace q01 := below_cell cb3 q01
  go_wp2_with fail
  generalize (w3.alloc (.cells #[.bool false, .slice none 0 0] 25)) = w3x at q00 q01 l300 l301 hBW cb3 ⊢
  clear cb3
  refine (P1.out _ (sb hS0 hB hBW)).mono ?_
  rintro e w4 ⟨rfl, b4⟩
  replace hBW := hBW.trans (b4.mono hBW.size)
  replace q00 := below_cell b4 q00
  replace q01 := below_cell b4 q01
  replace l300 := below_cell b4 l300
  replace l301 := below_cell b4 l301
  have l400 : ((w4.alloc (.cells #[.bool false, .slice none 0 0] 25))).cell? ⟨w4.heap.size, 0, none⟩ = some (.bool false) := by go_simp
  have l401 : ((w4.alloc (.cells #[.bool false, .slice none 0 0] 25))).cell? ⟨w4.heap.size, 1, none⟩ = some (.slice none 0 0) := by go_simp
  have cb4 : Below w4.heap.size w4 ((w4.alloc (.cells #[.bool false, .slice none 0 0] 25))) := ((Below.refl _ _).alloc (by (try simp only [World.size_alloc]); omega) _)
  replace hBW := hBW.trans (cb4.mono hBW.size)
  replace q00 := below_cell cb4 q00
  replace q01 := below_cell cb4 q01
  replace l300 := below_cell cb4 l300
  replace l301 := below_cell cb4 l301
  go_wp2_with fail
  generalize (w4.alloc (.cells #[.bool false, .slice none 0 0] 25)) = w4x at q00 q01 l300 l301 l400 l401 hBW cb4 ⊢
  clear cb4
  refine (same_none _).mono ?_
  rintro e w5 ⟨rfl, b5⟩
  replace hBW := hBW.trans (b5.mono hBW.size)
  replace q00 := below_cell b5 q00
  replace q01 := below_cell b5 q01
  replace l300 := below_cell b5 l300
  replace l301 := below_cell b5 l301
  replace l400 := below_cell b5 l400
  replace l401 := below_cell b5 l401
  go_wp2
  go_ret
  exact ⟨rfl, hB.trans (hBW.mono hB.size)⟩

set_option maxHeartbeats 8000000 in
set_option maxRecDepth 100000 in
theorem hi (s0 : Bool) (a0 : Option Addr) (len0 cap0 X0 : Nat) (z : Int) (hz : 1048576 < z) (w : World) (hS0 : Seg w a0 X0 len0) (hc0 : len0 ≤ cap0) (hb0 : len0 ≤ 35184372087808) : Calls Try.prog 3 #[.agg #[.bool s0, .slice a0 len0 cap0], .int .i64 z] w fun e w' => e = .returned (.bool true) ∧ Below w.heap.size w w' := by
  have P0 := hide' (fun w' h => wShift_no s0 a0 len0 cap0 X0 w' hc0 (by omega) h z (Or.inr hz))
  have P1 := hide' (fun w' h => vShift_hi s0 a0 len0 cap0 X0 w' (by omega) h z hz)
  go_enter Try.func3, Try.ntmps3
  go_wp2_with fail
  obtain ⟨W, hW⟩ : ∃ W, (w.alloc (.cells #[.bool s0, .slice a0 len0 cap0] 25)) = W := ⟨_, rfl⟩
  have q00 : W.cell? ⟨w.heap.size, 0, none⟩ = some (.bool s0) := by subst hW; go_simp
  have q01 : W.cell? ⟨w.heap.size, 1, none⟩ = some (.slice a0 len0 cap0) := by subst hW; go_simp
  have hB : Below w.heap.size w W := by subst hW; exact ((Below.refl _ _).alloc (by (try simp only [World.size_alloc]); omega) _)
  have hz : W.heap.size = w.heap.size + 1 := by subst hW; simp only [World.size_alloc]
  rw [hW]
  clear hW
  have hBW : Below W.heap.size W W := Below.refl _ _
  refine (P0.out _ (sb hS0 hB hBW)).mono ?_
  rintro e w3 ⟨rfl, b3⟩
  replace hBW := hBW.trans (b3.mono hBW.size)
  replace q00 := below_cell b3 q00
  replace q01 := below_cell b3 q01
  have l300 : ((w3.alloc (.cells #[.bool false, .slice none 0 0] 25))).cell? ⟨w3.heap.size, 0, none⟩ = some (.bool false) := by go_simp
  have l301 : ((w3.alloc (.cells #[.bool false, .slice none 0 0] 25))).cell? ⟨w3.heap.size, 1, none⟩ = some (.slice none 0 0) := by go_simp
  have cb3 : Below w3.heap.size w3 ((w3.alloc (.cells #[.bool false, .slice none 0 0] 25))) := ((Below.refl _ _).alloc (by (try simp only [World.size_alloc]); omega) _)
  replace hBW := hBW.trans (cb3.mono hBW.size)
  replace q00 := below_cell cb3 q00
  replace q01 := below_cell cb3 q01
  go_wp2_with fail
  generalize (w3.alloc (.cells #[.bool false, .slice none 0 0] 25)) = w3x at q00 q01 l300 l301 hBW cb3 ⊢
  clear cb3
  refine (P1.out _ (sb hS0 hB hBW)).mono ?_
  rintro e w4 ⟨rfl, b4⟩
  replace hBW := hBW.trans (b4.mono hBW.size)
  replace q00 := below_cell b4 q00
  replace q01 := below_cell b4 q01
  replace l300 := below_cell b4 l300
  replace l301 := below_cell b4 l301
  have l400 : ((w4.alloc (.cells #[.bool false, .slice none 0 0] 25))).cell? ⟨w4.heap.size, 0, none⟩ = some (.bool false) := by go_simp
  have l401 : ((w4.alloc (.cells #[.bool false, .slice none 0 0] 25))).cell? ⟨w4.heap.size, 1, none⟩ = some (.slice none 0 0) := by go_simp
  have cb4 : Below w4.heap.size w4 ((w4.alloc (.cells #[.bool false, .slice none 0 0] 25))) := ((Below.refl _ _).alloc (by (try simp only [World.size_alloc]); omega) _)
  replace hBW := hBW.trans (cb4.mono hBW.size)
  replace q00 := below_cell cb4 q00
  replace q01 := below_cell cb4 q01
  replace l300 := below_cell cb4 l300
  replace l301 := below_cell cb4 l301
  go_wp2_with fail
  generalize (w4.alloc (.cells #[.bool false, .slice none 0 0] 25)) = w4x at q00 q01 l300 l301 l400 l401 hBW cb4 ⊢
  clear cb4
  refine (same_none _).mono ?_
  rintro e w5 ⟨rfl, b5⟩
  replace hBW := hBW.trans (b5.mono hBW.size)
  replace q00 := below_cell b5 q00
  replace q01 := below_cell b5 q01
  replace l300 := below_cell b5 l300
  replace l301 := below_cell b5 l301
  replace l400 := below_cell b5 l400
  replace l401 := below_cell b5 l401
  go_wp2
  go_ret
  exact ⟨rfl, hB.trans (hBW.mono hB.size)⟩

set_option maxHeartbeats 8000000 in
set_option maxRecDepth 100000 in
theorem up (s0 : Bool) (a0 : Option Addr) (len0 cap0 X0 : Nat) (k : Nat) (hk : k ≤ 1048576) (w : World) (hS0 : Seg w a0 X0 len0) (hc0 : len0 ≤ cap0) (hb0 : len0 ≤ 35184372087808) : Calls Try.prog 3 #[.agg #[.bool s0, .slice a0 len0 cap0], .int .i64 (k : Int)] w fun e w' => e = .returned (.bool true) ∧ Below w.heap.size w w' := by
  obtain ⟨Z, hZ⟩ : ∃ Z, sg s0 (X0 * 2 ^ k) = Z := ⟨_, rfl⟩
  have lZ : ln (am Z) ≤ 35184372187808 := by rw [← hZ, am_sg]; have := ln_shl_le hS0.1 hk; omega
  have P0 := hide' (fun w' h => wShift_up s0 a0 len0 cap0 X0 w' hc0 (by omega) h k hk Z hZ)
  have P1 := hide' (fun w' h => vShift_up s0 a0 len0 cap0 X0 w' (by omega) h k hk Z hZ)
  clear hZ
  go_enter Try.func3, Try.ntmps3
  go_wp2_with fail
  obtain ⟨W, hW⟩ : ∃ W, (w.alloc (.cells #[.bool s0, .slice a0 len0 cap0] 25)) = W := ⟨_, rfl⟩
  have q00 : W.cell? ⟨w.heap.size, 0, none⟩ = some (.bool s0) := by subst hW; go_simp
  have q01 : W.cell? ⟨w.heap.size, 1, none⟩ = some (.slice a0 len0 cap0) := by subst hW; go_simp
  have hB : Below w.heap.size w W := by subst hW; exact ((Below.refl _ _).alloc (by (try simp only [World.size_alloc]); omega) _)
  have hz : W.heap.size = w.heap.size + 1 := by subst hW; simp only [World.size_alloc]
  rw [hW]
  clear hW
  have hBW : Below W.heap.size W W := Below.refl _ _
  refine (P0.out _ (sb hS0 hB hBW)).mono ?_
  rintro e w3 ⟨a3, rfl, h3⟩
  have b3 := h3.below
  replace h3 := h3.back hBW
  replace hBW := hBW.trans (b3.mono hBW.size)
  replace q00 := below_cell b3 q00
  replace q01 := below_cell b3 q01
  have l300 : ((w3.alloc (.cells #[.bool (ng Z), .slice a3 (ln (am Z)) (ln (am Z))] 25))).cell? ⟨w3.heap.size, 0, none⟩ = some (.bool (ng Z)) := by go_simp
  have l301 : ((w3.alloc (.cells #[.bool (ng Z), .slice a3 (ln (am Z)) (ln (am Z))] 25))).cell? ⟨w3.heap.size, 1, none⟩ = some (.slice a3 (ln (am Z)) (ln (am Z))) := by go_simp
  have cb3 : Below w3.heap.size w3 ((w3.alloc (.cells #[.bool (ng Z), .slice a3 (ln (am Z)) (ln (am Z))] 25))) := ((Below.refl _ _).alloc (by (try simp only [World.size_alloc]); omega) _)
  replace hBW := hBW.trans (cb3.mono hBW.size)
  replace q00 := below_cell cb3 q00
  replace q01 := below_cell cb3 q01
  replace h3 := h3.later cb3
  go_wp2_with fail
  generalize (w3.alloc (.cells #[.bool (ng Z), .slice a3 (ln (am Z)) (ln (am Z))] 25)) = w3x at q00 q01 l300 l301 h3 hBW cb3 ⊢
  clear cb3
  refine (P1.out _ (sb hS0 hB hBW)).mono ?_
  rintro e w4 ⟨a4, rfl, h4⟩
  have b4 := h4.below
  replace h4 := h4.back hBW
  replace hBW := hBW.trans (b4.mono hBW.size)
  replace q00 := below_cell b4 q00
  replace q01 := below_cell b4 q01
  replace l300 := below_cell b4 l300
  replace l301 := below_cell b4 l301
  replace h3 := h3.later b4
  have l400 : ((w4.alloc (.cells #[.bool (ng Z), .slice a4 (ln (am Z)) (ln (am Z))] 25))).cell? ⟨w4.heap.size, 0, none⟩ = some (.bool (ng Z)) := by go_simp
  have l401 : ((w4.alloc (.cells #[.bool (ng Z), .slice a4 (ln (am Z)) (ln (am Z))] 25))).cell? ⟨w4.heap.size, 1, none⟩ = some (.slice a4 (ln (am Z)) (ln (am Z))) := by go_simp
  have cb4 : Below w4.heap.size w4 ((w4.alloc (.cells #[.bool (ng Z), .slice a4 (ln (am Z)) (ln (am Z))] 25))) := ((Below.refl _ _).alloc (by (try simp only [World.size_alloc]); omega) _)
  replace hBW := hBW.trans (cb4.mono hBW.size)
  replace q00 := below_cell cb4 q00
  replace q01 := below_cell cb4 q01
  replace l300 := below_cell cb4 l300
  replace l301 := below_cell cb4 l301
  replace h3 := h3.later cb4
  replace h4 := h4.later cb4
  go_wp2_with fail
  generalize (w4.alloc (.cells #[.bool (ng Z), .slice a4 (ln (am Z)) (ln (am Z))] 25)) = w4x at q00 q01 l300 l301 l400 l401 h3 h4 hBW cb4 ⊢
  clear cb4
  refine (sameI_is Z a3 a4 _ _ _ (by omega) h3.seg h4.seg).mono ?_
  rintro e w5 ⟨rfl, b5⟩
  replace hBW := hBW.trans (b5.mono hBW.size)
  replace q00 := below_cell b5 q00
  replace q01 := below_cell b5 q01
  replace l300 := below_cell b5 l300
  replace l301 := below_cell b5 l301
  replace l400 := below_cell b5 l400
  replace l401 := below_cell b5 l401
  replace h3 := h3.later b5
  replace h4 := h4.later b5
  go_wp2
  go_ret
  exact ⟨rfl, hB.trans (hBW.mono hB.size)⟩

set_option maxHeartbeats 8000000 in
set_option maxRecDepth 100000 in
theorem dn (s0 : Bool) (a0 : Option Addr) (len0 cap0 X0 : Nat) (k : Nat) (h0 : 0 < k) (hk : k ≤ 1048576) (w : World) (hS0 : Seg w a0 X0 len0) (hc0 : len0 ≤ cap0) (hb0 : len0 ≤ 35184372087808) : Calls Try.prog 3 #[.agg #[.bool s0, .slice a0 len0 cap0], .int .i64 (-(k : Int))] w fun e w' => e = .returned (.bool true) ∧ Below w.heap.size w w' := by
  obtain ⟨Z, hZ⟩ : ∃ Z, sg s0 (dnA s0 X0 k) = Z := ⟨_, rfl⟩
  have lZ : ln (am Z) ≤ 35184372187808 := by rw [← hZ, am_sg]; have := ln_le_of_lt (Nat.lt_of_le_of_lt (dnA_le s0 X0 k) hS0.1); omega
  have P0 := hide' (fun w' h => wShift_dn s0 a0 len0 cap0 X0 w' hc0 (by omega) h k h0 hk Z hZ)
  have P1 := hide' (fun w' h => vShift_dn s0 a0 len0 cap0 X0 w' (by omega) h k h0 hk Z hZ)
  clear hZ
  go_enter Try.func3, Try.ntmps3
  go_wp2_with fail
  obtain ⟨W, hW⟩ : ∃ W, (w.alloc (.cells #[.bool s0, .slice a0 len0 cap0] 25)) = W := ⟨_, rfl⟩
  have q00 : W.cell? ⟨w.heap.size, 0, none⟩ = some (.bool s0) := by subst hW; go_simp
  have q01 : W.cell? ⟨w.heap.size, 1, none⟩ = some (.slice a0 len0 cap0) := by subst hW; go_simp
  have hB : Below w.heap.size w W := by subst hW; exact ((Below.refl _ _).alloc (by (try simp only [World.size_alloc]); omega) _)
  have hz : W.heap.size = w.heap.size + 1 := by subst hW; simp only [World.size_alloc]
  rw [hW]
  clear hW
  have hBW : Below W.heap.size W W := Below.refl _ _
  refine (P0.out _ (sb hS0 hB hBW)).mono ?_
  rintro e w3 ⟨a3, rfl, h3⟩
  have b3 := h3.below
  replace h3 := h3.back hBW
  replace hBW := hBW.trans (b3.mono hBW.size)
  replace q00 := below_cell b3 q00
  replace q01 := below_cell b3 q01
  have l300 : ((w3.alloc (.cells #[.bool (ng Z), .slice a3 (ln (am Z)) (ln (am Z))] 25))).cell? ⟨w3.heap.size, 0, none⟩ = some (.bool (ng Z)) := by go_simp
  have l301 : ((w3.alloc (.cells #[.bool (ng Z), .slice a3 (ln (am Z)) (ln (am Z))] 25))).cell? ⟨w3.heap.size, 1, none⟩ = some (.slice a3 (ln (am Z)) (ln (am Z))) := by go_simp
  have cb3 : Below w3.heap.size w3 ((w3.alloc (.cells #[.bool (ng Z), .slice a3 (ln (am Z)) (ln (am Z))] 25))) := ((Below.refl _ _).alloc (by (try simp only [World.size_alloc]); omega) _)
  replace hBW := hBW.trans (cb3.mono hBW.size)
  replace q00 := below_cell cb3 q00
  replace q01 := below_cell cb3 q01
  replace h3 := h3.later cb3
  go_wp2_with fail
  generalize (w3.alloc (.cells #[.bool (ng Z), .slice a3 (ln (am Z)) (ln (am Z))] 25)) = w3x at q00 q01 l300 l301 h3 hBW cb3 ⊢
  clear cb3
  refine (P1.out _ (sb hS0 hB hBW)).mono ?_
  rintro e w4 ⟨a4, rfl, h4⟩
  have b4 := h4.below
  replace h4 := h4.back hBW
  replace hBW := hBW.trans (b4.mono hBW.size)
  replace q00 := below_cell b4 q00
  replace q01 := below_cell b4 q01
  replace l300 := below_cell b4 l300
  replace l301 := below_cell b4 l301
  replace h3 := h3.later b4
  have l400 : ((w4.alloc (.cells #[.bool (ng Z), .slice a4 (ln (am Z)) (ln (am Z))] 25))).cell? ⟨w4.heap.size, 0, none⟩ = some (.bool (ng Z)) := by go_simp
  have l401 : ((w4.alloc (.cells #[.bool (ng Z), .slice a4 (ln (am Z)) (ln (am Z))] 25))).cell? ⟨w4.heap.size, 1, none⟩ = some (.slice a4 (ln (am Z)) (ln (am Z))) := by go_simp
  have cb4 : Below w4.heap.size w4 ((w4.alloc (.cells #[.bool (ng Z), .slice a4 (ln (am Z)) (ln (am Z))] 25))) := ((Below.refl _ _).alloc (by (try simp only [World.size_alloc]); omega) _)
  replace hBW := hBW.trans (cb4.mono hBW.size)
  replace q00 := below_cell cb4 q00
  replace q01 := below_cell cb4 q01
  replace l300 := below_cell cb4 l300
  replace l301 := below_cell cb4 l301
  replace h3 := h3.later cb4
  replace h4 := h4.later cb4
  go_wp2_with fail
  generalize (w4.alloc (.cells #[.bool (ng Z), .slice a4 (ln (am Z)) (ln (am Z))] 25)) = w4x at q00 q01 l300 l301 l400 l401 h3 h4 hBW cb4 ⊢
  clear cb4
  refine (sameI_is Z a3 a4 _ _ _ (by omega) h3.seg h4.seg).mono ?_
  rintro e w5 ⟨rfl, b5⟩
  replace hBW := hBW.trans (b5.mono hBW.size)
  replace q00 := below_cell b5 q00
  replace q01 := below_cell b5 q01
  replace l300 := below_cell b5 l300
  replace l301 := below_cell b5 l301
  replace l400 := below_cell b5 l400
  replace l401 := below_cell b5 l401
  replace h3 := h3.later b5
  replace h4 := h4.later b5
  go_wp2
  go_ret
  exact ⟨rfl, hB.trans (hBW.mono hB.size)⟩

theorem walk (s0 : Bool) (a0 : Option Addr) (len0 cap0 X0 : Nat) (z : Int) (w : World) (hS0 : Seg w a0 X0 len0) (hc0 : len0 ≤ cap0) (hb0 : len0 ≤ 35184372087808) (hz1 : -9223372036854775808 ≤ z) (hz2 : z ≤ 9223372036854775807) :
    Calls Try.prog 3 #[.agg #[.bool s0, .slice a0 len0 cap0], .int .i64 z] w fun e w' => e = .returned (.bool true) ∧ Below w.heap.size w w' := by
  by_cases h1 : z < -1048576
  · exact lo s0 a0 len0 cap0 X0 z h1 w hS0 hc0 hb0
  · by_cases h2 : 1048576 < z
    · exact hi s0 a0 len0 cap0 X0 z h2 w hS0 hc0 hb0
    · by_cases h3 : 0 ≤ z
      · obtain ⟨k, rfl⟩ : ∃ k : Nat, z = (k : Int) := ⟨z.toNat, by omega⟩
        exact up s0 a0 len0 cap0 X0 k (by omega) w hS0 hc0 hb0
      · obtain ⟨k, rfl⟩ : ∃ k : Nat, z = -(k : Int) := ⟨(-z).toNat, by omega⟩
        exact dn s0 a0 len0 cap0 X0 k (by omega) (by omega) w hS0 hc0 hb0

set_option maxRecDepth 100000 in
theorem contract (H : Type) (enc : TypeId × Value → H) (W : World) (base : Nat) (args : Array Value) (ds gs : List (DataW H)) (before : List MemPlace)
    (hval : ∀ (j : Nat) t v, Try.f3.params[j]? = some t → args[j]? = some v → Value.okWide Try.prog W .any base t v)
    (hW : DataW.Whole enc Try.prog Try.f3.params.toList Rows.wholeShiftsSpec.vars false W args.toList ds gs before)
    (hsz : (DataW.weightsEach Try.prog (Try.f3.params.toList ++ Rows.wholeShiftsSpec.plain.varTypes Try.prog) (ds ++ gs)).all (· ≤ reachBytes) = true) :
    Calls Try.prog 3 args W fun e W' => ∃ v, e = .returned v ∧ Rows.wholeShiftsSpec.post enc Try.prog Try.f3 false true false false W args v W' := by
  have hW' := hW
  obtain ⟨p, q, hA0, hV, rfl, hfz, hnd⟩ := hW
  have hA : DataW.TrodAll enc Try.prog W 0 (fun _ => true) true Try.f3.params.toList args.toList ds p := hA0
  rw [Try.params3] at hA hval hsz
  obtain ⟨v0, vs0, d0, ds0, p0, q0, hargs, rfl, rfl, h0, r0⟩ := trodAll_cons hA
  obtain ⟨v1, vs1, d1, ds1, p1, q1, rfl, rfl, rfl, h1, r1⟩ := trodAll_cons r0
  obtain ⟨rfl, rfl, rfl⟩ := trodAll_nil r1
  obtain rfl : args = #[v0, v1] := by cases args; simp_all
  obtain ⟨rfl, rfl⟩ := trodVars_none hV
  have lt0 : ∀ x ∈ p0, x.block < W.heap.size := by obtain ⟨m, hm⟩ := h0; exact DataW.trod_lt m _ _ _ hm
  obtain ⟨s0, a0, len0, cap0, X0, rfl, hS0, hc0, hb0, hu0⟩ := open_Int (hval 0 25 v0 rfl rfl) h0 (sized_at 0 hsz rfl rfl)
  obtain ⟨z1, rfl, rfl, rfl, w1⟩ := open_int Try.underlying3 (hval 1 3 v1 rfl rfl) h1
  have bz1 := bounds_i64 w1
  clear hA0
  simp only [List.append_nil] at hW'
  refine (walk s0 a0 len0 cap0 X0 z1 W hS0 hc0 hb0 (by omega) (by omega)).mono fun e W' ⟨he, bel⟩ => ?_
  subst he
  exact ⟨_, rfl, _, _, _, [], _, [], hW', trodAll_mk1 (shut_bool Try.underlying4 _), (trodAll_cons_mk (Below.trod laidOut (by kernel_rfl) (of_decide_eq_true (by kernel_rfl)) h0 bel lt0) (trodAll_cons_mk (shut_int Try.underlying3 w1) trodAll_mk0)), rfl, bel.frame _, fun h => by cases h⟩

set_option maxRecDepth 100000 in
theorem lifted (os : Os) (started : os.Started) (H : Type) (enc : TypeId × Value → H) :
    ReturnsInHanded {} Try.checked os 3 .any (Rows.wholeShiftsSpec.pre6 enc Try.prog Try.f3 Rows.wholeShiftsRow.domain false) (Rows.wholeShiftsSpec.post enc Try.prog Try.f3 false true false false) := by
  refine returnsInHanded_of_change_sized (C := Try.checked) own started (by kernel_rfl) Try.func3
    (ChangeSpec.witness6 (enc := enc) (C := Try.checked) false ⟨#[], #[.agg #[.bool false, .slice none 0 0], .int .i64 0], []⟩ 8 (by kernel_rfl) (by kernel_rfl) (by kernel_rfl) (by kernel_rfl)) ?_
  intro W base args ds gs before hval hW _ hsz _
  exact contract H enc W base args ds gs before hval hW hsz

theorem over : Rows.wholeShiftsRow.holds Try.pinned (OpenSpec.ofChange Rows.wholeShiftsSpec) :=
  OpenClaim.holds_of_wide 3 Try.f3 rfl rfl rfl rfl rfl rfl rfl ⟨rfl, rfl, rfl, rfl, rfl⟩ rfl rfl rfl rfl rfl (by kernel_rfl) Try.func3 (by kernel_rfl)
    (of_decide_eq_true (by kernel_rfl)) (by unfold Func.isWrapper; first | (rw [if_pos (by decide +kernel)]; kernel_rfl) | (rw [if_neg (by decide +kernel)]; exact ⟨rfl, rfl⟩))
    (fun os started H enc _ => lifted os started H enc)

end Go.Proofs.Ytjdilgkjgednjaa.wholeShifts
namespace Go.Proofs.Ytjdilgkjgednjaa
theorem wholeShifts_holds : Rows.WholeShiftsSaid := wholeShifts.over
#print axioms wholeShifts_holds
end Go.Proofs.Ytjdilgkjgednjaa
