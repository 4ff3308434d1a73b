/-
  The reference's three roundings as floats; same.
-/
import Derived.Test.YtjofldgaefjapaaWFA
namespace Go.Proofs.Ytjofldgaefjapaa
open Go.RowKit
set_option linter.unusedVariables false

set_option maxHeartbeats 4000000 in
set_option maxRecDepth 100000 in
theorem vnear_is (s0 : Bool) (a0 : Option Addr) (n0 c0 X0 : Nat) (b0 : Option Addr) (m0 d0 Y0 : Nat) (z T : Nat) (w : World) (hc0 : n0 ≤ c0) (hm0 : n0 ≤ 35184372087808) (hS0 : Seg w a0 X0 n0) (hd0 : m0 ≤ d0) (hk0 : m0 ≤ 35184372087808) (hT0 : Seg w b0 Y0 m0) (hz : z = 1074) (hT : T = 2 ^ z) :
    Calls Try.prog 8 #[Value.agg #[Value.bool s0, Value.slice a0 n0 c0, Value.slice b0 m0 d0]] w fun e w' => ∃ k, e = .returned (.float .f64 (nearB T s0 X0 Y0 k)) ∧ Cut T (rN X0 Y0) (rd Y0) k ∧ Below w.heap.size w w' := by
  have HC := hide' (fun w' k1 k2 => vnearB_is s0 a0 n0 c0 X0 b0 m0 d0 Y0 z T w' hc0 hm0 k1 hd0 hk0 k2 hz hT)
  have hfr := from_run
  clear hz hT
  go_enter Try.func8, Try.ntmps8
  go_wp2_with fail
  have q00 : ((w.alloc (.cells #[.bool s0, .slice a0 n0 c0, .slice b0 m0 d0] 27))).cell? ⟨w.heap.size, 0, none⟩ = some (.bool s0) := by go_simp
  have q01 : ((w.alloc (.cells #[.bool s0, .slice a0 n0 c0, .slice b0 m0 d0] 27))).cell? ⟨w.heap.size, 1, none⟩ = some (.slice a0 n0 c0) := by go_simp
  have q02 : ((w.alloc (.cells #[.bool s0, .slice a0 n0 c0, .slice b0 m0 d0] 27))).cell? ⟨w.heap.size, 2, none⟩ = some (.slice b0 m0 d0) := by go_simp
  have hB : Below w.heap.size w ((w.alloc (.cells #[.bool s0, .slice a0 n0 c0, .slice b0 m0 d0] 27))) := ((Below.refl _ _).alloc (by (try simp only [World.size_alloc]); omega) _)
  have hz : ((w.alloc (.cells #[.bool s0, .slice a0 n0 c0, .slice b0 m0 d0] 27))).heap.size = w.heap.size + 1 := by simp only [World.size_alloc]
  generalize (w.alloc (.cells #[.bool s0, .slice a0 n0 c0, .slice b0 m0 d0] 27)) = W at q00 q01 q02 hB hz ⊢
  have hBW : Below W.heap.size W W := Below.refl _ _
  go_wp2_with fail
  refine (HC.out _ (sb hS0 hB hBW) (sb hT0 hB hBW)).mono ?_
  rintro e w1 ⟨k, rfl, hCut, bb1⟩
  have b1 := bb1
  replace hBW := hBW.trans (b1.mono hBW.size)
  replace q00 := below_cell b1 q00
  replace q01 := below_cell b1 q01
  replace q02 := below_cell b1 q02
  have HK := hide' hCut
  clear hCut
  have HA : Hid (∃ j, Ending.returned (.float .f64 (nearB T s0 X0 Y0 k)) = .returned (.float .f64 (nearB T s0 X0 Y0 j)) ∧ Cut T (rN X0 Y0) (rd Y0) j) := ⟨k, rfl, HK.out⟩
  generalize nearB T s0 X0 Y0 k = G at HA ⊢
  go_wp2
  go_ret
  obtain ⟨k9, hk9, hc9⟩ := HA.out
  exact ⟨k9, hk9, hc9, hB.trans (hBW.mono hB.size)⟩
set_option maxHeartbeats 4000000 in
set_option maxRecDepth 100000 in
theorem vdown_is (s0 : Bool) (a0 : Option Addr) (n0 c0 X0 : Nat) (b0 : Option Addr) (m0 d0 Y0 : Nat) (z T : Nat) (w : World) (hc0 : n0 ≤ c0) (hm0 : n0 ≤ 35184372087808) (hS0 : Seg w a0 X0 n0) (hd0 : m0 ≤ d0) (hk0 : m0 ≤ 35184372087808) (hT0 : Seg w b0 Y0 m0) (hz : z = 1074) (hT : T = 2 ^ z) :
    Calls Try.prog 10 #[Value.agg #[Value.bool s0, Value.slice a0 n0 c0, Value.slice b0 m0 d0]] w fun e w' => ∃ k, e = .returned (.float .f64 (downB T s0 X0 Y0 k)) ∧ Cut T (rN X0 Y0) (rd Y0) k ∧ Below w.heap.size w w' := by
  have HC := hide' (fun w' k1 k2 => vdownB_is s0 a0 n0 c0 X0 b0 m0 d0 Y0 z T w' hc0 hm0 k1 hd0 hk0 k2 hz hT)
  have hfr := from_run
  clear hz hT
  go_enter Try.func10, Try.ntmps10
  go_wp2_with fail
  have q00 : ((w.alloc (.cells #[.bool s0, .slice a0 n0 c0, .slice b0 m0 d0] 27))).cell? ⟨w.heap.size, 0, none⟩ = some (.bool s0) := by go_simp
  have q01 : ((w.alloc (.cells #[.bool s0, .slice a0 n0 c0, .slice b0 m0 d0] 27))).cell? ⟨w.heap.size, 1, none⟩ = some (.slice a0 n0 c0) := by go_simp
  have q02 : ((w.alloc (.cells #[.bool s0, .slice a0 n0 c0, .slice b0 m0 d0] 27))).cell? ⟨w.heap.size, 2, none⟩ = some (.slice b0 m0 d0) := by go_simp
  have hB : Below w.heap.size w ((w.alloc (.cells #[.bool s0, .slice a0 n0 c0, .slice b0 m0 d0] 27))) := ((Below.refl _ _).alloc (by (try simp only [World.size_alloc]); omega) _)
  have hz : ((w.alloc (.cells #[.bool s0, .slice a0 n0 c0, .slice b0 m0 d0] 27))).heap.size = w.heap.size + 1 := by simp only [World.size_alloc]
  generalize (w.alloc (.cells #[.bool s0, .slice a0 n0 c0, .slice b0 m0 d0] 27)) = W at q00 q01 q02 hB hz ⊢
  have hBW : Below W.heap.size W W := Below.refl _ _
  go_wp2_with fail
  refine (HC.out _ (sb hS0 hB hBW) (sb hT0 hB hBW)).mono ?_
  rintro e w1 ⟨k, rfl, hCut, bb1⟩
  have b1 := bb1
  replace hBW := hBW.trans (b1.mono hBW.size)
  replace q00 := below_cell b1 q00
  replace q01 := below_cell b1 q01
  replace q02 := below_cell b1 q02
  have HK := hide' hCut
  clear hCut
  have HA : Hid (∃ j, Ending.returned (.float .f64 (downB T s0 X0 Y0 k)) = .returned (.float .f64 (downB T s0 X0 Y0 j)) ∧ Cut T (rN X0 Y0) (rd Y0) j) := ⟨k, rfl, HK.out⟩
  generalize downB T s0 X0 Y0 k = G at HA ⊢
  go_wp2
  go_ret
  obtain ⟨k9, hk9, hc9⟩ := HA.out
  exact ⟨k9, hk9, hc9, hB.trans (hBW.mono hB.size)⟩
set_option maxHeartbeats 4000000 in
set_option maxRecDepth 100000 in
theorem vup_is (s0 : Bool) (a0 : Option Addr) (n0 c0 X0 : Nat) (b0 : Option Addr) (m0 d0 Y0 : Nat) (z T : Nat) (w : World) (hc0 : n0 ≤ c0) (hm0 : n0 ≤ 35184372087808) (hS0 : Seg w a0 X0 n0) (hd0 : m0 ≤ d0) (hk0 : m0 ≤ 35184372087808) (hT0 : Seg w b0 Y0 m0) (hz : z = 1074) (hT : T = 2 ^ z) :
    Calls Try.prog 12 #[Value.agg #[Value.bool s0, Value.slice a0 n0 c0, Value.slice b0 m0 d0]] w fun e w' => ∃ k, e = .returned (.float .f64 (upB T s0 X0 Y0 k)) ∧ Cut T (rN X0 Y0) (rd Y0) k ∧ Below w.heap.size w w' := by
  have HC := hide' (fun w' k1 k2 => vupB_is s0 a0 n0 c0 X0 b0 m0 d0 Y0 z T w' hc0 hm0 k1 hd0 hk0 k2 hz hT)
  have hfr := from_run
  clear hz hT
  go_enter Try.func12, Try.ntmps12
  go_wp2_with fail
  have q00 : ((w.alloc (.cells #[.bool s0, .slice a0 n0 c0, .slice b0 m0 d0] 27))).cell? ⟨w.heap.size, 0, none⟩ = some (.bool s0) := by go_simp
  have q01 : ((w.alloc (.cells #[.bool s0, .slice a0 n0 c0, .slice b0 m0 d0] 27))).cell? ⟨w.heap.size, 1, none⟩ = some (.slice a0 n0 c0) := by go_simp
  have q02 : ((w.alloc (.cells #[.bool s0, .slice a0 n0 c0, .slice b0 m0 d0] 27))).cell? ⟨w.heap.size, 2, none⟩ = some (.slice b0 m0 d0) := by go_simp
  have hB : Below w.heap.size w ((w.alloc (.cells #[.bool s0, .slice a0 n0 c0, .slice b0 m0 d0] 27))) := ((Below.refl _ _).alloc (by (try simp only [World.size_alloc]); omega) _)
  have hz : ((w.alloc (.cells #[.bool s0, .slice a0 n0 c0, .slice b0 m0 d0] 27))).heap.size = w.heap.size + 1 := by simp only [World.size_alloc]
  generalize (w.alloc (.cells #[.bool s0, .slice a0 n0 c0, .slice b0 m0 d0] 27)) = W at q00 q01 q02 hB hz ⊢
  have hBW : Below W.heap.size W W := Below.refl _ _
  go_wp2_with fail
  refine (HC.out _ (sb hS0 hB hBW) (sb hT0 hB hBW)).mono ?_
  rintro e w1 ⟨k, rfl, hCut, bb1⟩
  have b1 := bb1
  replace hBW := hBW.trans (b1.mono hBW.size)
  replace q00 := below_cell b1 q00
  replace q01 := below_cell b1 q01
  replace q02 := below_cell b1 q02
  have HK := hide' hCut
  clear hCut
  have HA : Hid (∃ j, Ending.returned (.float .f64 (upB T s0 X0 Y0 k)) = .returned (.float .f64 (upB T s0 X0 Y0 j)) ∧ Cut T (rN X0 Y0) (rd Y0) j) := ⟨k, rfl, HK.out⟩
  generalize upB T s0 X0 Y0 k = G at HA ⊢
  go_wp2
  go_ret
  obtain ⟨k9, hk9, hc9⟩ := HA.out
  exact ⟨k9, hk9, hc9, hB.trans (hBW.mono hB.size)⟩
theorem fsame_is (b c : Nat) (w : World) :
    Calls Try.prog 6 #[.float .f64 b, .float .f64 c] w fun e w' => e = .returned (.bool (decide (b = c))) ∧ Below w.heap.size w w' := by
  have h1 := bits_run
  have h2 : ((b : Int) == (c : Int)) = decide (b = c) := by
    by_cases h : b = c
    · rw [decide_eq_true h, h, beq_iff_eq]
    · rw [decide_eq_false h, beq_eq_false_iff_ne]; omega
  go_enter Try.func6, Try.ntmps6
  go_wp2
  go_ret
  exact ⟨rfl, Below.refl _ _⟩
theorem fsame_self (b : Nat) (w : World) :
    Calls Try.prog 6 #[.float .f64 b, .float .f64 b] w fun e w' => e = .returned (.bool true) ∧ Below w.heap.size w w' := by
  have := fsame_is b b w
  rwa [decide_eq_true rfl] at this
end Go.Proofs.Ytjofldgaefjapaa
