/-
  delta.cut, its three ways.
-/
import Derived.Test.YtjbeagbkjmaeeaaGreatDoorWX2
import Derived.Test.YtjbeagbkjmaeeaaGreatDoorWE3
import Derived.Shelf.Strings.Prefix
namespace Go.Proofs.YtjbeagbkjmaeeaaGreatDoor
open Go.RowKit
set_option linter.unusedVariables false

theorem assocB (a b c : ByteArray) : a ++ b ++ c = a ++ (b ++ c) := by
  refine ba_ext (by simp only [ByteArray.size_append]; omega) fun j hj => ?_
  simp only [ByteArray.size_append] at hj
  have s1 : (a ++ b).size = a.size + b.size := ByteArray.size_append
  have s2 : (b ++ c).size = b.size + c.size := ByteArray.size_append
  rw [byt_of (by simp only [ByteArray.size_append]; omega), byt_of (by simp only [ByteArray.size_append]; omega)]
  congr 1
  by_cases h1 : j < a.size
  · rw [ByteArray.getElem_append_left (by rw [s1]; omega), ByteArray.getElem_append_left h1, ByteArray.getElem_append_left h1]
  · by_cases h2 : j < a.size + b.size
    · rw [ByteArray.getElem_append_left (by rw [s1]; omega), ByteArray.getElem_append_right (by omega), ByteArray.getElem_append_right (by omega), ByteArray.getElem_append_left (by omega)]
    · rw [ByteArray.getElem_append_right (by rw [s1]; omega), ByteArray.getElem_append_right (by omega), ByteArray.getElem_append_right (by omega)]
      congr 1
      rw [s1]; omega
/-- a fraction's text, of its parts' -/
def tq (u d : ByteArray) (V : Nat) : ByteArray := if V = 1 then u else u ++ ⟨#[47]⟩ ++ d
theorem tq_size (u d : ByteArray) (V : Nat) : (tq u d V).size ≤ u.size + d.size + 1 := by
  have e1 : (⟨#[47]⟩ : ByteArray).size = 1 := rfl
  unfold tq
  split
  · omega
  · simp only [ByteArray.size_append, e1]; omega
/-- a number below 0: a sign ahead of its opposite's text -/
theorem tq_neg {Z : Int} {u v d : ByteArray} {V : Nat} (hn : ng Z = true) (hu : isTz (ng Z) (am Z) u) (hv : isTz (ng (-Z)) (am (-Z)) v) : tq u d V = ⟨#[45]⟩ ++ tq v d V := by
  have h0 : am Z ≠ 0 := by unfold ng at hn; rw [decide_eq_true_eq] at hn; unfold am; omega
  have hn2 : ng (-Z) = false := by unfold ng at hn ⊢; rw [decide_eq_true_eq] at hn; rw [decide_eq_false_iff_not]; omega
  obtain ⟨t, ht, e⟩ := hu
  obtain ⟨t2, ht2, e2⟩ := hv
  rw [if_pos ⟨hn, h0⟩] at e
  rw [if_neg (fun h => by rw [hn2] at h; cases h.1)] at e2
  rw [am_neg] at ht2
  have e3 := ht.uniq (by omega) ht2
  subst e3
  rw [e, e2]
  unfold tq
  split
  · rfl
  · rw [assocB, assocB, assocB]
set_option maxHeartbeats 4000000 in
set_option maxRecDepth 100000 in
theorem qText_is (s0 : Bool) (a0 : Option Addr) (n0 c0 X0 : Nat) (b0 : Option Addr) (m0 d0 Y0 : Nat) (Z : Int) (V : Nat) (u d : ByteArray) (w : World) (hc0 : n0 ≤ c0) (hm0 : n0 ≤ 134217728) (hS0 : Seg w a0 X0 n0) (hd0 : m0 ≤ d0) (hk0 : m0 ≤ 134217728) (hT0 : Seg w b0 Y0 m0) (hL : Low (rn s0 X0 Y0) (rd Y0 : Nat) Z V) (hu : isTz (ng Z) (am Z) u) (hd : isTx 10 V d) (h : Digs w) :
    Calls Tryz.prog 24 #[Value.agg #[Value.bool s0, Value.slice a0 n0 c0, Value.slice b0 m0 d0]] w fun e w' => e = .returned (.string (tq u d V)) ∧ Below w.heap.size w w' := by
  by_cases h1 : V = 1
  · have e : tq u d V = u := if_pos h1
    rw [e]
    exact qText_one s0 a0 n0 c0 X0 b0 m0 d0 Y0 Z V u d w hc0 hm0 hS0 hd0 hk0 hT0 hL hu hd h h1
  · have e : tq u d V = u ++ ⟨#[47]⟩ ++ d := if_neg h1
    rw [e]
    exact qText_more s0 a0 n0 c0 X0 b0 m0 d0 Y0 Z V u d w hc0 hm0 hS0 hd0 hk0 hT0 hL hu hd h h1

set_option maxHeartbeats 4000000 in
set_option maxRecDepth 100000 in
theorem vqText_is (s0 : Bool) (a0 : Option Addr) (n0 c0 X0 : Nat) (b0 : Option Addr) (m0 d0 Y0 : Nat) (Z : Int) (V : Nat) (u d : ByteArray) (w : World) (hc0 : n0 ≤ c0) (hm0 : n0 ≤ 134217728) (hS0 : Seg w a0 X0 n0) (hd0 : m0 ≤ d0) (hk0 : m0 ≤ 134217728) (hT0 : Seg w b0 Y0 m0) (hL : Low (rn s0 X0 Y0) (rd Y0 : Nat) Z V) (hu : isTz (ng Z) (am Z) u) (hd : isTx 10 V d) :
    Calls Tryz.prog 30 #[Value.agg #[Value.bool s0, Value.slice a0 n0 c0, Value.slice b0 m0 d0]] w fun e w' => e = .returned (.string (tq u d V)) ∧ Below w.heap.size w w' := by
  by_cases h1 : V = 1
  · have e : tq u d V = u := if_pos h1
    rw [e]
    exact vqText_one s0 a0 n0 c0 X0 b0 m0 d0 Y0 Z V u d w hc0 hm0 hS0 hd0 hk0 hT0 hL hu hd h1
  · have e : tq u d V = u ++ ⟨#[47]⟩ ++ d := if_neg h1
    rw [e, assocB]
    exact vqText_more s0 a0 n0 c0 X0 b0 m0 d0 Y0 Z V u d w hc0 hm0 hS0 hd0 hk0 hT0 hL hu hd h1

set_option maxHeartbeats 4000000 in
set_option maxRecDepth 100000 in
theorem ddText_z (s0 : Bool) (a0 : Option Addr) (n0 c0 X0 : Nat) (b0 : Option Addr) (m0 d0 Y0 : Nat) (s1 : Bool) (a1 : Option Addr) (n1 c1 X1 : Nat) (b1 : Option Addr) (m1 d1 Y1 : Nat) (ZA : Int) (VA : Nat) (uA dA : ByteArray) (ZB : Int) (VB : Nat) (uB dB : ByteArray) (w : World) (hc0 : n0 ≤ c0) (hm0 : n0 ≤ 67108864) (hS0 : Seg w a0 X0 n0) (hd0 : m0 ≤ d0) (hk0 : m0 ≤ 67108864) (hT0 : Seg w b0 Y0 m0) (hc1 : n1 ≤ c1) (hm1 : n1 ≤ 67108864) (hS1 : Seg w a1 X1 n1) (hd1 : m1 ≤ d1) (hk1 : m1 ≤ 67108864) (hT1 : Seg w b1 Y1 m1) (hLA : Low (rn s0 X0 Y0) (rd Y0 : Nat) ZA VA) (huA : isTz (ng ZA) (am ZA) uA) (hdA : isTx 10 VA dA) (hLB : Low (rn s1 X1 Y1) (rd Y1 : Nat) ZB VB) (huB : isTz (ng ZB) (am ZB) uB) (hdB : isTx 10 VB dB) (hC : sgn (rn s1 X1 Y1) = 0) (h : Digs w) :
    Calls Tryz.prog 11 #[Value.agg #[Value.bool s0, Value.slice a0 n0 c0, Value.slice b0 m0 d0, Value.bool s1, Value.slice a1 n1 c1, Value.slice b1 m1 d1]] w fun e w' => e = .returned (.string (tq uA dA VA)) ∧ Below w.heap.size w w' := by
  obtain ⟨lZ, lV⟩ := low_ln hS0.1 hT0.1 hLA
  obtain ⟨lW, lX⟩ := low_ln hS1.1 hT1.1 hLB
  have z1 := huA.size_le (ln_lt (am ZA))
  have z2 := hdA.size_le (by omega) (ln_lt VA)
  have z3 := huB.size_le (ln_lt (am ZB))
  have z4 := hdB.size_le (by omega) (ln_lt VB)
  have zA := tq_size uA dA VA
  have zB := tq_size uB dB VB
  have T0' := fun w' k1 k2 j => qText_is s0 a0 n0 c0 X0 b0 m0 d0 Y0 ZA VA uA dA w' hc0 (by omega) k1 hd0 (by omega) k2 hLA huA hdA j
  have S1 := hide' (fun w' k1 k2 => qSign_is s1 a1 n1 c1 X1 b1 m1 d1 Y1 0 w' hc1 (by omega) k1 hd1 (by omega) k2 hC)
  obtain ⟨UA, hUA⟩ : ∃ U, tq uA dA VA = U := ⟨_, rfl⟩
  obtain ⟨UB, hUB⟩ : ∃ U, tq uB dB VB = U := ⟨_, rfl⟩
  rw [hUA] at T0' zA ⊢
  have k43 : (⟨#[43]⟩ : ByteArray).size = 1 := rfl
  have k100 : (⟨#[100]⟩ : ByteArray).size = 1 := rfl
  have k45 : (⟨#[45]⟩ : ByteArray).size = 1 := rfl
  have T0 := hide' T0'
  have HH := hide' h
  clear T0' hLA huA hdA hLB huB hdB hC h z1 z2 z3 z4
  go_enter Tryz.func11, Tryz.ntmps11
  go_wp2_with fail
  obtain ⟨W, hW⟩ : ∃ W, (w.alloc (.cells #[.bool s0, .slice a0 n0 c0, .slice b0 m0 d0, .bool s1, .slice a1 n1 c1, .slice b1 m1 d1] 29)) = W := ⟨_, rfl⟩
  have q00 : W.cell? ⟨w.heap.size, 0, none⟩ = some (.bool s0) := by subst hW; go_simp
  have q01 : W.cell? ⟨w.heap.size, 1, none⟩ = some (.slice a0 n0 c0) := by subst hW; go_simp
  have q02 : W.cell? ⟨w.heap.size, 2, none⟩ = some (.slice b0 m0 d0) := by subst hW; go_simp
  have q03 : W.cell? ⟨w.heap.size, 3, none⟩ = some (.bool s1) := by subst hW; go_simp
  have q04 : W.cell? ⟨w.heap.size, 4, none⟩ = some (.slice a1 n1 c1) := by subst hW; go_simp
  have q05 : W.cell? ⟨w.heap.size, 5, none⟩ = some (.slice b1 m1 d1) := by subst hW; go_simp
  have hB : Below w.heap.size w W := by subst hW; exact ((Below.refl _ _).alloc (by (try simp only [World.size_alloc]); omega) _)
  have hz : W.heap.size = w.heap.size + 1 := by subst hW; simp only [World.size_alloc]
  rw [hW]
  clear hW
  have hBW : Below W.heap.size W W := Below.refl _ _
  refine (T0.out _ (sb hS0 hB hBW) (sb hT0 hB hBW) (HH.out.below (hB.trans (hBW.mono hB.size)))).mono ?_
  rintro e w41 ⟨rfl, b41⟩
  replace hBW := hBW.trans (b41.mono hBW.size)
  replace q00 := below_cell b41 q00
  replace q01 := below_cell b41 q01
  replace q02 := below_cell b41 q02
  replace q03 := below_cell b41 q03
  replace q04 := below_cell b41 q04
  replace q05 := below_cell b41 q05
  go_wp2_with fail
  refine (S1.out _ (sb hS1 hB hBW) (sb hT1 hB hBW)).mono ?_
  rintro e w42 ⟨rfl, b42⟩
  replace hBW := hBW.trans (b42.mono hBW.size)
  replace q00 := below_cell b42 q00
  replace q01 := below_cell b42 q01
  replace q02 := below_cell b42 q02
  replace q03 := below_cell b42 q03
  replace q04 := below_cell b42 q04
  replace q05 := below_cell b42 q05
  go_wp2
  go_ret
  exact ⟨rfl, (hB.trans (hBW.mono hB.size))⟩

set_option maxHeartbeats 4000000 in
set_option maxRecDepth 100000 in
theorem ddText_p (s0 : Bool) (a0 : Option Addr) (n0 c0 X0 : Nat) (b0 : Option Addr) (m0 d0 Y0 : Nat) (s1 : Bool) (a1 : Option Addr) (n1 c1 X1 : Nat) (b1 : Option Addr) (m1 d1 Y1 : Nat) (ZA : Int) (VA : Nat) (uA dA : ByteArray) (ZB : Int) (VB : Nat) (uB dB : ByteArray) (w : World) (hc0 : n0 ≤ c0) (hm0 : n0 ≤ 67108864) (hS0 : Seg w a0 X0 n0) (hd0 : m0 ≤ d0) (hk0 : m0 ≤ 67108864) (hT0 : Seg w b0 Y0 m0) (hc1 : n1 ≤ c1) (hm1 : n1 ≤ 67108864) (hS1 : Seg w a1 X1 n1) (hd1 : m1 ≤ d1) (hk1 : m1 ≤ 67108864) (hT1 : Seg w b1 Y1 m1) (hLA : Low (rn s0 X0 Y0) (rd Y0 : Nat) ZA VA) (huA : isTz (ng ZA) (am ZA) uA) (hdA : isTx 10 VA dA) (hLB : Low (rn s1 X1 Y1) (rd Y1 : Nat) ZB VB) (huB : isTz (ng ZB) (am ZB) uB) (hdB : isTx 10 VB dB) (hC : sgn (rn s1 X1 Y1) = 1) (h : Digs w) :
    Calls Tryz.prog 11 #[Value.agg #[Value.bool s0, Value.slice a0 n0 c0, Value.slice b0 m0 d0, Value.bool s1, Value.slice a1 n1 c1, Value.slice b1 m1 d1]] w fun e w' => e = .returned (.string (tq uA dA VA ++ ((⟨#[43]⟩ : ByteArray) ++ tq uB dB VB ++ ⟨#[100]⟩))) ∧ Below w.heap.size w w' := by
  obtain ⟨lZ, lV⟩ := low_ln hS0.1 hT0.1 hLA
  obtain ⟨lW, lX⟩ := low_ln hS1.1 hT1.1 hLB
  have z1 := huA.size_le (ln_lt (am ZA))
  have z2 := hdA.size_le (by omega) (ln_lt VA)
  have z3 := huB.size_le (ln_lt (am ZB))
  have z4 := hdB.size_le (by omega) (ln_lt VB)
  have zA := tq_size uA dA VA
  have zB := tq_size uB dB VB
  have T0' := fun w' k1 k2 j => qText_is s0 a0 n0 c0 X0 b0 m0 d0 Y0 ZA VA uA dA w' hc0 (by omega) k1 hd0 (by omega) k2 hLA huA hdA j
  have S1 := hide' (fun w' k1 k2 => qSign_is s1 a1 n1 c1 X1 b1 m1 d1 Y1 1 w' hc1 (by omega) k1 hd1 (by omega) k2 hC)
  have T1' := fun w' k1 k2 j => qText_is s1 a1 n1 c1 X1 b1 m1 d1 Y1 ZB VB uB dB w' hc1 (by omega) k1 hd1 (by omega) k2 hLB huB hdB j
  obtain ⟨UA, hUA⟩ : ∃ U, tq uA dA VA = U := ⟨_, rfl⟩
  obtain ⟨UB, hUB⟩ : ∃ U, tq uB dB VB = U := ⟨_, rfl⟩
  rw [hUA] at T0' zA ⊢
  rw [hUB] at T1' zB ⊢
  have y0 : ¬ (9223372036854775807 < 1 + UB.size) := by omega
  have yy0 : 1 + UB.size ≤ 9223372036854775807 := by omega
  have y1 : ¬ (9223372036854775807 < 1 + UB.size + 1) := by omega
  have yy1 : 1 + UB.size + 1 ≤ 9223372036854775807 := by omega
  have y2 : ¬ (9223372036854775807 < UA.size + (1 + UB.size + 1)) := by omega
  have yy2 : UA.size + (1 + UB.size + 1) ≤ 9223372036854775807 := by omega
  have k43 : (⟨#[43]⟩ : ByteArray).size = 1 := rfl
  have k100 : (⟨#[100]⟩ : ByteArray).size = 1 := rfl
  have k45 : (⟨#[45]⟩ : ByteArray).size = 1 := rfl
  have T0 := hide' T0'
  have T1 := hide' T1'
  have HH := hide' h
  clear T0' hLA huA hdA hLB huB hdB hC h T1' z1 z2 z3 z4
  go_enter Tryz.func11, Tryz.ntmps11
  go_wp2_with fail
  obtain ⟨W, hW⟩ : ∃ W, (w.alloc (.cells #[.bool s0, .slice a0 n0 c0, .slice b0 m0 d0, .bool s1, .slice a1 n1 c1, .slice b1 m1 d1] 29)) = W := ⟨_, rfl⟩
  have q00 : W.cell? ⟨w.heap.size, 0, none⟩ = some (.bool s0) := by subst hW; go_simp
  have q01 : W.cell? ⟨w.heap.size, 1, none⟩ = some (.slice a0 n0 c0) := by subst hW; go_simp
  have q02 : W.cell? ⟨w.heap.size, 2, none⟩ = some (.slice b0 m0 d0) := by subst hW; go_simp
  have q03 : W.cell? ⟨w.heap.size, 3, none⟩ = some (.bool s1) := by subst hW; go_simp
  have q04 : W.cell? ⟨w.heap.size, 4, none⟩ = some (.slice a1 n1 c1) := by subst hW; go_simp
  have q05 : W.cell? ⟨w.heap.size, 5, none⟩ = some (.slice b1 m1 d1) := by subst hW; go_simp
  have hB : Below w.heap.size w W := by subst hW; exact ((Below.refl _ _).alloc (by (try simp only [World.size_alloc]); omega) _)
  have hz : W.heap.size = w.heap.size + 1 := by subst hW; simp only [World.size_alloc]
  rw [hW]
  clear hW
  have hBW : Below W.heap.size W W := Below.refl _ _
  refine (T0.out _ (sb hS0 hB hBW) (sb hT0 hB hBW) (HH.out.below (hB.trans (hBW.mono hB.size)))).mono ?_
  rintro e w41 ⟨rfl, b41⟩
  replace hBW := hBW.trans (b41.mono hBW.size)
  replace q00 := below_cell b41 q00
  replace q01 := below_cell b41 q01
  replace q02 := below_cell b41 q02
  replace q03 := below_cell b41 q03
  replace q04 := below_cell b41 q04
  replace q05 := below_cell b41 q05
  go_wp2_with fail
  refine (S1.out _ (sb hS1 hB hBW) (sb hT1 hB hBW)).mono ?_
  rintro e w42 ⟨rfl, b42⟩
  replace hBW := hBW.trans (b42.mono hBW.size)
  replace q00 := below_cell b42 q00
  replace q01 := below_cell b42 q01
  replace q02 := below_cell b42 q02
  replace q03 := below_cell b42 q03
  replace q04 := below_cell b42 q04
  replace q05 := below_cell b42 q05
  go_wp2_with fail
  refine (T1.out _ (sb hS1 hB hBW) (sb hT1 hB hBW) (HH.out.below (hB.trans (hBW.mono hB.size)))).mono ?_
  rintro e w43 ⟨rfl, b43⟩
  replace hBW := hBW.trans (b43.mono hBW.size)
  replace q00 := below_cell b43 q00
  replace q01 := below_cell b43 q01
  replace q02 := below_cell b43 q02
  replace q03 := below_cell b43 q03
  replace q04 := below_cell b43 q04
  replace q05 := below_cell b43 q05
  go_wp2
  go_ret
  exact ⟨rfl, (hB.trans (hBW.mono hB.size))⟩

set_option maxHeartbeats 4000000 in
set_option maxRecDepth 100000 in
theorem ddText_n (s0 : Bool) (a0 : Option Addr) (n0 c0 X0 : Nat) (b0 : Option Addr) (m0 d0 Y0 : Nat) (s1 : Bool) (a1 : Option Addr) (n1 c1 X1 : Nat) (b1 : Option Addr) (m1 d1 Y1 : Nat) (ZA : Int) (VA : Nat) (uA dA : ByteArray) (ZB : Int) (VB : Nat) (uB dB : ByteArray) (w : World) (hc0 : n0 ≤ c0) (hm0 : n0 ≤ 67108864) (hS0 : Seg w a0 X0 n0) (hd0 : m0 ≤ d0) (hk0 : m0 ≤ 67108864) (hT0 : Seg w b0 Y0 m0) (hc1 : n1 ≤ c1) (hm1 : n1 ≤ 67108864) (hS1 : Seg w a1 X1 n1) (hd1 : m1 ≤ d1) (hk1 : m1 ≤ 67108864) (hT1 : Seg w b1 Y1 m1) (hLA : Low (rn s0 X0 Y0) (rd Y0 : Nat) ZA VA) (huA : isTz (ng ZA) (am ZA) uA) (hdA : isTx 10 VA dA) (hLB : Low (rn s1 X1 Y1) (rd Y1 : Nat) ZB VB) (huB : isTz (ng ZB) (am ZB) uB) (hdB : isTx 10 VB dB) (hC : sgn (rn s1 X1 Y1) = (-1)) (h : Digs w) :
    Calls Tryz.prog 11 #[Value.agg #[Value.bool s0, Value.slice a0 n0 c0, Value.slice b0 m0 d0, Value.bool s1, Value.slice a1 n1 c1, Value.slice b1 m1 d1]] w fun e w' => e = .returned (.string (tq uA dA VA ++ (tq uB dB VB ++ ⟨#[100]⟩))) ∧ Below w.heap.size w w' := by
  obtain ⟨lZ, lV⟩ := low_ln hS0.1 hT0.1 hLA
  obtain ⟨lW, lX⟩ := low_ln hS1.1 hT1.1 hLB
  have z1 := huA.size_le (ln_lt (am ZA))
  have z2 := hdA.size_le (by omega) (ln_lt VA)
  have z3 := huB.size_le (ln_lt (am ZB))
  have z4 := hdB.size_le (by omega) (ln_lt VB)
  have zA := tq_size uA dA VA
  have zB := tq_size uB dB VB
  have T0' := fun w' k1 k2 j => qText_is s0 a0 n0 c0 X0 b0 m0 d0 Y0 ZA VA uA dA w' hc0 (by omega) k1 hd0 (by omega) k2 hLA huA hdA j
  have S1 := hide' (fun w' k1 k2 => qSign_is s1 a1 n1 c1 X1 b1 m1 d1 Y1 (-1) w' hc1 (by omega) k1 hd1 (by omega) k2 hC)
  have T1' := fun w' k1 k2 j => qText_is s1 a1 n1 c1 X1 b1 m1 d1 Y1 ZB VB uB dB w' hc1 (by omega) k1 hd1 (by omega) k2 hLB huB hdB j
  obtain ⟨UA, hUA⟩ : ∃ U, tq uA dA VA = U := ⟨_, rfl⟩
  obtain ⟨UB, hUB⟩ : ∃ U, tq uB dB VB = U := ⟨_, rfl⟩
  rw [hUA] at T0' zA ⊢
  rw [hUB] at T1' zB ⊢
  have y0 : ¬ (9223372036854775807 < UB.size + 1) := by omega
  have yy0 : UB.size + 1 ≤ 9223372036854775807 := by omega
  have y1 : ¬ (9223372036854775807 < UA.size + (UB.size + 1)) := by omega
  have yy1 : UA.size + (UB.size + 1) ≤ 9223372036854775807 := by omega
  have k43 : (⟨#[43]⟩ : ByteArray).size = 1 := rfl
  have k100 : (⟨#[100]⟩ : ByteArray).size = 1 := rfl
  have k45 : (⟨#[45]⟩ : ByteArray).size = 1 := rfl
  have T0 := hide' T0'
  have T1 := hide' T1'
  have HH := hide' h
  clear T0' hLA huA hdA hLB huB hdB hC h T1' z1 z2 z3 z4
  go_enter Tryz.func11, Tryz.ntmps11
  go_wp2_with fail
  obtain ⟨W, hW⟩ : ∃ W, (w.alloc (.cells #[.bool s0, .slice a0 n0 c0, .slice b0 m0 d0, .bool s1, .slice a1 n1 c1, .slice b1 m1 d1] 29)) = W := ⟨_, rfl⟩
  have q00 : W.cell? ⟨w.heap.size, 0, none⟩ = some (.bool s0) := by subst hW; go_simp
  have q01 : W.cell? ⟨w.heap.size, 1, none⟩ = some (.slice a0 n0 c0) := by subst hW; go_simp
  have q02 : W.cell? ⟨w.heap.size, 2, none⟩ = some (.slice b0 m0 d0) := by subst hW; go_simp
  have q03 : W.cell? ⟨w.heap.size, 3, none⟩ = some (.bool s1) := by subst hW; go_simp
  have q04 : W.cell? ⟨w.heap.size, 4, none⟩ = some (.slice a1 n1 c1) := by subst hW; go_simp
  have q05 : W.cell? ⟨w.heap.size, 5, none⟩ = some (.slice b1 m1 d1) := by subst hW; go_simp
  have hB : Below w.heap.size w W := by subst hW; exact ((Below.refl _ _).alloc (by (try simp only [World.size_alloc]); omega) _)
  have hz : W.heap.size = w.heap.size + 1 := by subst hW; simp only [World.size_alloc]
  rw [hW]
  clear hW
  have hBW : Below W.heap.size W W := Below.refl _ _
  refine (T0.out _ (sb hS0 hB hBW) (sb hT0 hB hBW) (HH.out.below (hB.trans (hBW.mono hB.size)))).mono ?_
  rintro e w41 ⟨rfl, b41⟩
  replace hBW := hBW.trans (b41.mono hBW.size)
  replace q00 := below_cell b41 q00
  replace q01 := below_cell b41 q01
  replace q02 := below_cell b41 q02
  replace q03 := below_cell b41 q03
  replace q04 := below_cell b41 q04
  replace q05 := below_cell b41 q05
  go_wp2_with fail
  refine (S1.out _ (sb hS1 hB hBW) (sb hT1 hB hBW)).mono ?_
  rintro e w42 ⟨rfl, b42⟩
  replace hBW := hBW.trans (b42.mono hBW.size)
  replace q00 := below_cell b42 q00
  replace q01 := below_cell b42 q01
  replace q02 := below_cell b42 q02
  replace q03 := below_cell b42 q03
  replace q04 := below_cell b42 q04
  replace q05 := below_cell b42 q05
  go_wp2_with fail
  refine (T1.out _ (sb hS1 hB hBW) (sb hT1 hB hBW) (HH.out.below (hB.trans (hBW.mono hB.size)))).mono ?_
  rintro e w43 ⟨rfl, b43⟩
  replace hBW := hBW.trans (b43.mono hBW.size)
  replace q00 := below_cell b43 q00
  replace q01 := below_cell b43 q01
  replace q02 := below_cell b43 q02
  replace q03 := below_cell b43 q03
  replace q04 := below_cell b43 q04
  replace q05 := below_cell b43 q05
  go_wp2
  go_ret
  exact ⟨rfl, (hB.trans (hBW.mono hB.size))⟩

set_option maxHeartbeats 4000000 in
set_option maxRecDepth 100000 in
theorem vdText_z (s0 : Bool) (a0 : Option Addr) (n0 c0 X0 : Nat) (b0 : Option Addr) (m0 d0 Y0 : Nat) (s1 : Bool) (a1 : Option Addr) (n1 c1 X1 : Nat) (b1 : Option Addr) (m1 d1 Y1 : Nat) (ZA : Int) (VA : Nat) (uA dA : ByteArray) (ZB : Int) (VB : Nat) (uB dB : ByteArray) (w : World) (hc0 : n0 ≤ c0) (hm0 : n0 ≤ 67108864) (hS0 : Seg w a0 X0 n0) (hd0 : m0 ≤ d0) (hk0 : m0 ≤ 67108864) (hT0 : Seg w b0 Y0 m0) (hc1 : n1 ≤ c1) (hm1 : n1 ≤ 67108864) (hS1 : Seg w a1 X1 n1) (hd1 : m1 ≤ d1) (hk1 : m1 ≤ 67108864) (hT1 : Seg w b1 Y1 m1) (hLA : Low (rn s0 X0 Y0) (rd Y0 : Nat) ZA VA) (huA : isTz (ng ZA) (am ZA) uA) (hdA : isTx 10 VA dA) (hLB : Low (rn s1 X1 Y1) (rd Y1 : Nat) ZB VB) (huB : isTz (ng ZB) (am ZB) uB) (hdB : isTx 10 VB dB) (hC : sgn (rn s1 X1 Y1) = 0) :
    Calls Tryz.prog 13 #[Value.agg #[Value.bool s0, Value.slice a0 n0 c0, Value.slice b0 m0 d0, Value.bool s1, Value.slice a1 n1 c1, Value.slice b1 m1 d1]] w fun e w' => e = .returned (.string (tq uA dA VA)) ∧ Below w.heap.size w w' := by
  obtain ⟨lZ, lV⟩ := low_ln hS0.1 hT0.1 hLA
  obtain ⟨lW, lX⟩ := low_ln hS1.1 hT1.1 hLB
  have z1 := huA.size_le (ln_lt (am ZA))
  have z2 := hdA.size_le (by omega) (ln_lt VA)
  have z3 := huB.size_le (ln_lt (am ZB))
  have z4 := hdB.size_le (by omega) (ln_lt VB)
  have zA := tq_size uA dA VA
  have zB := tq_size uB dB VB
  have T0' := fun w' k1 k2 => vqText_is s0 a0 n0 c0 X0 b0 m0 d0 Y0 ZA VA uA dA w' hc0 (by omega) k1 hd0 (by omega) k2 hLA huA hdA
  have S1 := hide' (fun w' k1 k2 => vqSign_is s1 a1 n1 c1 X1 b1 m1 d1 Y1 0 w' hc1 (by omega) k1 hd1 (by omega) k2 hC)
  obtain ⟨UA, hUA⟩ : ∃ U, tq uA dA VA = U := ⟨_, rfl⟩
  obtain ⟨UB, hUB⟩ : ∃ U, tq uB dB VB = U := ⟨_, rfl⟩
  rw [hUA] at T0' zA ⊢
  have k43 : (⟨#[43]⟩ : ByteArray).size = 1 := rfl
  have k100 : (⟨#[100]⟩ : ByteArray).size = 1 := rfl
  have k45 : (⟨#[45]⟩ : ByteArray).size = 1 := rfl
  have T0 := hide' T0'
  clear T0' hLA huA hdA hLB huB hdB hC z1 z2 z3 z4
  go_enter Tryz.func13, Tryz.ntmps13
  go_wp2_with fail
  obtain ⟨W, hW⟩ : ∃ W, (w.alloc (.cells #[.bool s0, .slice a0 n0 c0, .slice b0 m0 d0, .bool s1, .slice a1 n1 c1, .slice b1 m1 d1] 29)) = W := ⟨_, rfl⟩
  have q00 : W.cell? ⟨w.heap.size, 0, none⟩ = some (.bool s0) := by subst hW; go_simp
  have q01 : W.cell? ⟨w.heap.size, 1, none⟩ = some (.slice a0 n0 c0) := by subst hW; go_simp
  have q02 : W.cell? ⟨w.heap.size, 2, none⟩ = some (.slice b0 m0 d0) := by subst hW; go_simp
  have q03 : W.cell? ⟨w.heap.size, 3, none⟩ = some (.bool s1) := by subst hW; go_simp
  have q04 : W.cell? ⟨w.heap.size, 4, none⟩ = some (.slice a1 n1 c1) := by subst hW; go_simp
  have q05 : W.cell? ⟨w.heap.size, 5, none⟩ = some (.slice b1 m1 d1) := by subst hW; go_simp
  have hB : Below w.heap.size w W := by subst hW; exact ((Below.refl _ _).alloc (by (try simp only [World.size_alloc]); omega) _)
  have hz : W.heap.size = w.heap.size + 1 := by subst hW; simp only [World.size_alloc]
  rw [hW]
  clear hW
  have hBW : Below W.heap.size W W := Below.refl _ _
  refine (T0.out _ (sb hS0 hB hBW) (sb hT0 hB hBW)).mono ?_
  rintro e w41 ⟨rfl, b41⟩
  replace hBW := hBW.trans (b41.mono hBW.size)
  replace q00 := below_cell b41 q00
  replace q01 := below_cell b41 q01
  replace q02 := below_cell b41 q02
  replace q03 := below_cell b41 q03
  replace q04 := below_cell b41 q04
  replace q05 := below_cell b41 q05
  go_wp2_with fail
  refine (S1.out _ (sb hS1 hB hBW) (sb hT1 hB hBW)).mono ?_
  rintro e w42 ⟨rfl, b42⟩
  replace hBW := hBW.trans (b42.mono hBW.size)
  replace q00 := below_cell b42 q00
  replace q01 := below_cell b42 q01
  replace q02 := below_cell b42 q02
  replace q03 := below_cell b42 q03
  replace q04 := below_cell b42 q04
  replace q05 := below_cell b42 q05
  go_wp2
  go_ret
  exact ⟨rfl, (hB.trans (hBW.mono hB.size))⟩

set_option maxHeartbeats 4000000 in
set_option maxRecDepth 100000 in
theorem vdText_p (s0 : Bool) (a0 : Option Addr) (n0 c0 X0 : Nat) (b0 : Option Addr) (m0 d0 Y0 : Nat) (s1 : Bool) (a1 : Option Addr) (n1 c1 X1 : Nat) (b1 : Option Addr) (m1 d1 Y1 : Nat) (ZA : Int) (VA : Nat) (uA dA : ByteArray) (ZB : Int) (VB : Nat) (uB dB : ByteArray) (w : World) (hc0 : n0 ≤ c0) (hm0 : n0 ≤ 67108864) (hS0 : Seg w a0 X0 n0) (hd0 : m0 ≤ d0) (hk0 : m0 ≤ 67108864) (hT0 : Seg w b0 Y0 m0) (hc1 : n1 ≤ c1) (hm1 : n1 ≤ 67108864) (hS1 : Seg w a1 X1 n1) (hd1 : m1 ≤ d1) (hk1 : m1 ≤ 67108864) (hT1 : Seg w b1 Y1 m1) (hLA : Low (rn s0 X0 Y0) (rd Y0 : Nat) ZA VA) (huA : isTz (ng ZA) (am ZA) uA) (hdA : isTx 10 VA dA) (hLB : Low (rn s1 X1 Y1) (rd Y1 : Nat) ZB VB) (huB : isTz (ng ZB) (am ZB) uB) (hdB : isTx 10 VB dB) (hC : sgn (rn s1 X1 Y1) = 1) :
    Calls Tryz.prog 13 #[Value.agg #[Value.bool s0, Value.slice a0 n0 c0, Value.slice b0 m0 d0, Value.bool s1, Value.slice a1 n1 c1, Value.slice b1 m1 d1]] w fun e w' => e = .returned (.string (tq uA dA VA ++ ((⟨#[43]⟩ : ByteArray) ++ tq uB dB VB ++ ⟨#[100]⟩))) ∧ Below w.heap.size w w' := by
  obtain ⟨lZ, lV⟩ := low_ln hS0.1 hT0.1 hLA
  obtain ⟨lW, lX⟩ := low_ln hS1.1 hT1.1 hLB
  have z1 := huA.size_le (ln_lt (am ZA))
  have z2 := hdA.size_le (by omega) (ln_lt VA)
  have z3 := huB.size_le (ln_lt (am ZB))
  have z4 := hdB.size_le (by omega) (ln_lt VB)
  have zA := tq_size uA dA VA
  have zB := tq_size uB dB VB
  have T0' := fun w' k1 k2 => vqText_is s0 a0 n0 c0 X0 b0 m0 d0 Y0 ZA VA uA dA w' hc0 (by omega) k1 hd0 (by omega) k2 hLA huA hdA
  have S1 := hide' (fun w' k1 k2 => vqSign_is s1 a1 n1 c1 X1 b1 m1 d1 Y1 1 w' hc1 (by omega) k1 hd1 (by omega) k2 hC)
  have T1' := fun w' k1 k2 => vqText_is s1 a1 n1 c1 X1 b1 m1 d1 Y1 ZB VB uB dB w' hc1 (by omega) k1 hd1 (by omega) k2 hLB huB hdB
  obtain ⟨UA, hUA⟩ : ∃ U, tq uA dA VA = U := ⟨_, rfl⟩
  obtain ⟨UB, hUB⟩ : ∃ U, tq uB dB VB = U := ⟨_, rfl⟩
  rw [hUA] at T0' zA ⊢
  rw [hUB] at T1' zB ⊢
  have y0 : ¬ (9223372036854775807 < 1 + UB.size) := by omega
  have yy0 : 1 + UB.size ≤ 9223372036854775807 := by omega
  have y1 : ¬ (9223372036854775807 < 1 + UB.size + 1) := by omega
  have yy1 : 1 + UB.size + 1 ≤ 9223372036854775807 := by omega
  have y2 : ¬ (9223372036854775807 < UA.size + (1 + UB.size + 1)) := by omega
  have yy2 : UA.size + (1 + UB.size + 1) ≤ 9223372036854775807 := by omega
  have k43 : (⟨#[43]⟩ : ByteArray).size = 1 := rfl
  have k100 : (⟨#[100]⟩ : ByteArray).size = 1 := rfl
  have k45 : (⟨#[45]⟩ : ByteArray).size = 1 := rfl
  have T0 := hide' T0'
  have T1 := hide' T1'
  clear T0' hLA huA hdA hLB huB hdB hC T1' z1 z2 z3 z4
  go_enter Tryz.func13, Tryz.ntmps13
  go_wp2_with fail
  obtain ⟨W, hW⟩ : ∃ W, (w.alloc (.cells #[.bool s0, .slice a0 n0 c0, .slice b0 m0 d0, .bool s1, .slice a1 n1 c1, .slice b1 m1 d1] 29)) = W := ⟨_, rfl⟩
  have q00 : W.cell? ⟨w.heap.size, 0, none⟩ = some (.bool s0) := by subst hW; go_simp
  have q01 : W.cell? ⟨w.heap.size, 1, none⟩ = some (.slice a0 n0 c0) := by subst hW; go_simp
  have q02 : W.cell? ⟨w.heap.size, 2, none⟩ = some (.slice b0 m0 d0) := by subst hW; go_simp
  have q03 : W.cell? ⟨w.heap.size, 3, none⟩ = some (.bool s1) := by subst hW; go_simp
  have q04 : W.cell? ⟨w.heap.size, 4, none⟩ = some (.slice a1 n1 c1) := by subst hW; go_simp
  have q05 : W.cell? ⟨w.heap.size, 5, none⟩ = some (.slice b1 m1 d1) := by subst hW; go_simp
  have hB : Below w.heap.size w W := by subst hW; exact ((Below.refl _ _).alloc (by (try simp only [World.size_alloc]); omega) _)
  have hz : W.heap.size = w.heap.size + 1 := by subst hW; simp only [World.size_alloc]
  rw [hW]
  clear hW
  have hBW : Below W.heap.size W W := Below.refl _ _
  refine (T0.out _ (sb hS0 hB hBW) (sb hT0 hB hBW)).mono ?_
  rintro e w41 ⟨rfl, b41⟩
  replace hBW := hBW.trans (b41.mono hBW.size)
  replace q00 := below_cell b41 q00
  replace q01 := below_cell b41 q01
  replace q02 := below_cell b41 q02
  replace q03 := below_cell b41 q03
  replace q04 := below_cell b41 q04
  replace q05 := below_cell b41 q05
  go_wp2_with fail
  refine (S1.out _ (sb hS1 hB hBW) (sb hT1 hB hBW)).mono ?_
  rintro e w42 ⟨rfl, b42⟩
  replace hBW := hBW.trans (b42.mono hBW.size)
  replace q00 := below_cell b42 q00
  replace q01 := below_cell b42 q01
  replace q02 := below_cell b42 q02
  replace q03 := below_cell b42 q03
  replace q04 := below_cell b42 q04
  replace q05 := below_cell b42 q05
  go_wp2_with fail
  refine (T1.out _ (sb hS1 hB hBW) (sb hT1 hB hBW)).mono ?_
  rintro e w43 ⟨rfl, b43⟩
  replace hBW := hBW.trans (b43.mono hBW.size)
  replace q00 := below_cell b43 q00
  replace q01 := below_cell b43 q01
  replace q02 := below_cell b43 q02
  replace q03 := below_cell b43 q03
  replace q04 := below_cell b43 q04
  replace q05 := below_cell b43 q05
  go_wp2
  go_ret
  exact ⟨rfl, (hB.trans (hBW.mono hB.size))⟩

set_option maxHeartbeats 4000000 in
set_option maxRecDepth 100000 in
theorem vdText_n (s0 : Bool) (a0 : Option Addr) (n0 c0 X0 : Nat) (b0 : Option Addr) (m0 d0 Y0 : Nat) (s1 : Bool) (a1 : Option Addr) (n1 c1 X1 : Nat) (b1 : Option Addr) (m1 d1 Y1 : Nat) (ZA : Int) (VA : Nat) (uA dA : ByteArray) (ZB : Int) (VB : Nat) (uB dB : ByteArray) (w : World) (hc0 : n0 ≤ c0) (hm0 : n0 ≤ 67108864) (hS0 : Seg w a0 X0 n0) (hd0 : m0 ≤ d0) (hk0 : m0 ≤ 67108864) (hT0 : Seg w b0 Y0 m0) (hc1 : n1 ≤ c1) (hm1 : n1 ≤ 67108864) (hS1 : Seg w a1 X1 n1) (hd1 : m1 ≤ d1) (hk1 : m1 ≤ 67108864) (hT1 : Seg w b1 Y1 m1) (hLA : Low (rn s0 X0 Y0) (rd Y0 : Nat) ZA VA) (huA : isTz (ng ZA) (am ZA) uA) (hdA : isTx 10 VA dA) (hLB : Low (rn s1 X1 Y1) (rd Y1 : Nat) ZB VB) (huB : isTz (ng ZB) (am ZB) uB) (hdB : isTx 10 VB dB) (hC : sgn (rn s1 X1 Y1) = (-1)) :
    Calls Tryz.prog 13 #[Value.agg #[Value.bool s0, Value.slice a0 n0 c0, Value.slice b0 m0 d0, Value.bool s1, Value.slice a1 n1 c1, Value.slice b1 m1 d1]] w fun e w' => e = .returned (.string (tq uA dA VA ++ (tq uB dB VB ++ ⟨#[100]⟩))) ∧ Below w.heap.size w w' := by
  obtain ⟨lZ, lV⟩ := low_ln hS0.1 hT0.1 hLA
  obtain ⟨lW, lX⟩ := low_ln hS1.1 hT1.1 hLB
  have z1 := huA.size_le (ln_lt (am ZA))
  have z2 := hdA.size_le (by omega) (ln_lt VA)
  have z3 := huB.size_le (ln_lt (am ZB))
  have z4 := hdB.size_le (by omega) (ln_lt VB)
  have zA := tq_size uA dA VA
  have zB := tq_size uB dB VB
  have T0' := fun w' k1 k2 => vqText_is s0 a0 n0 c0 X0 b0 m0 d0 Y0 ZA VA uA dA w' hc0 (by omega) k1 hd0 (by omega) k2 hLA huA hdA
  have S1 := hide' (fun w' k1 k2 => vqSign_is s1 a1 n1 c1 X1 b1 m1 d1 Y1 (-1) w' hc1 (by omega) k1 hd1 (by omega) k2 hC)
  have hng : ng ZB = true := by have h1 := hLB.sgn (by have := rd_pos Y1; omega); rw [hC] at h1; unfold ng; rw [decide_eq_true_eq]; rcases Int.lt_trichotomy ZB 0 with h | h | h; exact h; (rw [h] at h1; exact absurd h1 (by decide)); (rw [sgn_pos h] at h1; exact absurd h1 (by decide))
  obtain ⟨N, hN⟩ : ∃ N, -ZB = N := ⟨_, rfl⟩
  obtain ⟨uN, huN⟩ := isTz_ex (ng N) (am N)
  have hUU := tq_neg (d := dB) (V := VB) hng huB (by rw [hN]; exact huN)
  have hL2 : Low (-(rn s1 X1 Y1)) ((rd Y1 : Nat) : Int) N VB := by rw [← hN]; exact hLB.neg
  have aN : am N = am ZB := by rw [← hN, am_neg]
  have hL3 : Low N (VB : Int) N VB := Low.self hLB.pos (by rw [aN]; exact hLB.cop)
  have hL4 := hL3.nf hLB.pos
  have z5 := huN.size_le (ln_lt (am N))
  rw [aN] at z5
  have zN := tq_size uN dB VB
  have lN : ln (am N) ≤ 67108864 := by rw [aN]; omega
  have N1 := hide' (fun w' k1 k2 => vqNeg_is s1 a1 n1 c1 X1 b1 m1 d1 Y1 N VB w' hc1 (by omega) k1 hd1 (by omega) k2 hL2)
  have T1' := fun w' p q k1 k2 => vqText_is (ng N) p (ln (am N)) (ln (am N)) (am N) q (ln VB) (ln VB) VB N VB uN dB w' (Nat.le_refl _) (by omega) k1 (Nat.le_refl _) (by omega) k2 hL4 huN hdB
  obtain ⟨UA, hUA⟩ : ∃ U, tq uA dA VA = U := ⟨_, rfl⟩
  obtain ⟨UN, hUN⟩ : ∃ U, tq uN dB VB = U := ⟨_, rfl⟩
  rw [hUU]
  rw [hUA] at T0' zA ⊢
  rw [hUN] at T1' zN ⊢
  have y0 : ¬ (9223372036854775807 < 1 + UN.size) := by omega
  have yy0 : 1 + UN.size ≤ 9223372036854775807 := by omega
  have y1 : ¬ (9223372036854775807 < 1 + UN.size + 1) := by omega
  have yy1 : 1 + UN.size + 1 ≤ 9223372036854775807 := by omega
  have y2 : ¬ (9223372036854775807 < UA.size + (1 + UN.size + 1)) := by omega
  have yy2 : UA.size + (1 + UN.size + 1) ≤ 9223372036854775807 := by omega
  have k43 : (⟨#[43]⟩ : ByteArray).size = 1 := rfl
  have k100 : (⟨#[100]⟩ : ByteArray).size = 1 := rfl
  have k45 : (⟨#[45]⟩ : ByteArray).size = 1 := rfl
  have T0 := hide' T0'
  have T1 := hide' T1'
  clear T0' hLA huA hdA hLB huB hdB hC T1' z1 z2 z3 z4 hng hN huN hUU hL2 aN hL3 hL4 z5
  go_enter Tryz.func13, Tryz.ntmps13
  go_wp2_with fail
  obtain ⟨W, hW⟩ : ∃ W, (w.alloc (.cells #[.bool s0, .slice a0 n0 c0, .slice b0 m0 d0, .bool s1, .slice a1 n1 c1, .slice b1 m1 d1] 29)) = W := ⟨_, rfl⟩
  have q00 : W.cell? ⟨w.heap.size, 0, none⟩ = some (.bool s0) := by subst hW; go_simp
  have q01 : W.cell? ⟨w.heap.size, 1, none⟩ = some (.slice a0 n0 c0) := by subst hW; go_simp
  have q02 : W.cell? ⟨w.heap.size, 2, none⟩ = some (.slice b0 m0 d0) := by subst hW; go_simp
  have q03 : W.cell? ⟨w.heap.size, 3, none⟩ = some (.bool s1) := by subst hW; go_simp
  have q04 : W.cell? ⟨w.heap.size, 4, none⟩ = some (.slice a1 n1 c1) := by subst hW; go_simp
  have q05 : W.cell? ⟨w.heap.size, 5, none⟩ = some (.slice b1 m1 d1) := by subst hW; go_simp
  have hB : Below w.heap.size w W := by subst hW; exact ((Below.refl _ _).alloc (by (try simp only [World.size_alloc]); omega) _)
  have hz : W.heap.size = w.heap.size + 1 := by subst hW; simp only [World.size_alloc]
  rw [hW]
  clear hW
  have hBW : Below W.heap.size W W := Below.refl _ _
  refine (T0.out _ (sb hS0 hB hBW) (sb hT0 hB hBW)).mono ?_
  rintro e w41 ⟨rfl, b41⟩
  replace hBW := hBW.trans (b41.mono hBW.size)
  replace q00 := below_cell b41 q00
  replace q01 := below_cell b41 q01
  replace q02 := below_cell b41 q02
  replace q03 := below_cell b41 q03
  replace q04 := below_cell b41 q04
  replace q05 := below_cell b41 q05
  go_wp2_with fail
  refine (S1.out _ (sb hS1 hB hBW) (sb hT1 hB hBW)).mono ?_
  rintro e w42 ⟨rfl, b42⟩
  replace hBW := hBW.trans (b42.mono hBW.size)
  replace q00 := below_cell b42 q00
  replace q01 := below_cell b42 q01
  replace q02 := below_cell b42 q02
  replace q03 := below_cell b42 q03
  replace q04 := below_cell b42 q04
  replace q05 := below_cell b42 q05
  go_wp2_with fail
  refine (N1.out _ (sb hS1 hB hBW) (sb hT1 hB hBW)).mono ?_
  rintro e w43 ⟨p43, q43, rfl, hp43, hq43⟩
  have b43 := hp43.below
  replace hp43 := hp43.back hBW
  replace hq43 := hq43.back hBW
  replace hBW := hBW.trans (b43.mono hBW.size)
  replace q00 := below_cell b43 q00
  replace q01 := below_cell b43 q01
  replace q02 := below_cell b43 q02
  replace q03 := below_cell b43 q03
  replace q04 := below_cell b43 q04
  replace q05 := below_cell b43 q05
  go_wp2_with fail
  refine (T1.out _ _ _ hp43.seg hq43.seg).mono ?_
  rintro e w44 ⟨rfl, b44⟩
  replace hBW := hBW.trans (b44.mono hBW.size)
  replace q00 := below_cell b44 q00
  replace q01 := below_cell b44 q01
  replace q02 := below_cell b44 q02
  replace q03 := below_cell b44 q03
  replace q04 := below_cell b44 q04
  replace q05 := below_cell b44 q05
  replace hp43 := hp43.later b44
  replace hq43 := hq43.later b44
  go_wp2
  go_ret
  exact ⟨rfl, (hB.trans (hBW.mono hB.size))⟩

end Go.Proofs.YtjbeagbkjmaeeaaGreatDoor

namespace Go.Proofs
open Go.Shelf
def Tryz.lays207_ren : Go.Shelf.Ren := ⟨fun | 207 => 68 | n => n, fun | 9 => 9 | 4 => 4 | 3 => 3 | n => n, fun | n => n⟩
theorem Tryz.lays207 : Go.Proofs.Lays.n207 Tryz.prog Tryz.lays207_ren := {
  mixed := by kernel_rfl
  f207 := Tryz.func68.trans (congrArg some (by kernel_rfl))
  t3 := Tryz.underlying3
  a3 := Tryz.isAgg3
  z3 := Tryz.sizeOf3
  v3 := Tryz.zeroValue3
  t4 := Tryz.underlying4
  a4 := Tryz.isAgg4
  z4 := Tryz.sizeOf4
  v4 := Tryz.zeroValue4
  t9 := Tryz.underlying9
  a9 := Tryz.isAgg9
  z9 := Tryz.sizeOf9
  v9 := Tryz.zeroValue9 }
def Tryz.lays101_ren : Go.Shelf.Ren := ⟨fun | 101 => 20 | 208 => 42 | 206 => 75 | n => n, fun | 9 => 9 | 4 => 4 | 3 => 3 | n => n, fun | n => n⟩
theorem Tryz.lays101 : Go.Proofs.Lays.n101 Tryz.prog Tryz.lays101_ren := {
  mixed := by kernel_rfl
  f101 := Tryz.func20.trans (congrArg some (by kernel_rfl))
  f206 := Tryz.func75.trans (congrArg some (by kernel_rfl))
  f208 := Tryz.func42.trans (congrArg some (by kernel_rfl))
  t3 := Tryz.underlying3
  a3 := Tryz.isAgg3
  z3 := Tryz.sizeOf3
  v3 := Tryz.zeroValue3
  t4 := Tryz.underlying4
  a4 := Tryz.isAgg4
  z4 := Tryz.sizeOf4
  v4 := Tryz.zeroValue4
  t9 := Tryz.underlying9
  a9 := Tryz.isAgg9
  z9 := Tryz.sizeOf9
  v9 := Tryz.zeroValue9 }
end Go.Proofs
namespace Go.Proofs.YtjbeagbkjmaeeaaGreatDoor
open Go.RowKit
set_option linter.unusedVariables false
theorem app_list (a b : ByteArray) : (a ++ b).data.toList = a.data.toList ++ b.data.toList := by rw [ByteArray.data_append, Array.toList_append]
theorem byt_left {a b : ByteArray} {j : Nat} (h : j < a.size) : byt (a ++ b) j = byt a j := by
  rw [byt_of (by rw [ByteArray.size_append]; omega), byt_of h, ByteArray.getElem_append_left h]
theorem byt_right {a b : ByteArray} {j : Nat} (h : j < b.size) : byt (a ++ b) (a.size + j) = byt b j := by
  rw [byt_of (by rw [ByteArray.size_append]; omega), byt_of h, ByteArray.getElem_append_right (by omega)]
  congr 2
  omega
theorem ex_left (a b : ByteArray) : (a ++ b).extract 0 a.size = a := by
  refine ba_ext (by rw [ByteArray.size_extract, ByteArray.size_append]; omega) fun j hj => ?_
  have hj2 : j < a.size := by rw [ByteArray.size_extract, ByteArray.size_append] at hj; omega
  rw [byt_ex (by rw [ByteArray.size_append]; omega) hj2, byt_left hj2]
theorem ex_right (a b : ByteArray) : (a ++ b).extract a.size (a.size + b.size) = b := by
  refine ba_ext (by rw [ByteArray.size_extract, ByteArray.size_append]; omega) fun j hj => ?_
  have hs : ((a ++ b).extract a.size (a.size + b.size)).size = b.size := by rw [ByteArray.size_extract, ByteArray.size_append]; omega
  rw [hs] at hj
  rw [byt_of (by rw [hs]; exact hj), ByteArray.getElem_extract, ← byt_of (by rw [ByteArray.size_append]; omega), byt_right hj]
theorem hasSuf_is (s : ByteArray) (b : Bool) (hb : Lib.hasSuffix s.data.toList ((⟨#[100]⟩ : ByteArray).data.toList) = b) (hs : s.size ≤ 140737488355328) (w : World) :
    Calls Tryz.prog 68 #[.string s, .string ⟨#[100]⟩] w fun e w' => e = .returned (.bool b) ∧ w' = w := by
  rw [← hb]; exact Any.stringslite_HasSuffix Tryz.lays207 s ⟨#[100]⟩ w (by omega)
theorem suf_yes (s : ByteArray) : Lib.hasSuffix (s ++ ⟨#[100]⟩).data.toList ((⟨#[100]⟩ : ByteArray).data.toList) = true := by
  rw [app_list]; unfold Lib.hasSuffix
  rw [List.isSuffixOf_iff_suffix]
  exact ⟨_, rfl⟩
theorem suf_no {s : ByteArray} (h0 : 0 < s.size) (h : byt s (s.size - 1) ≠ 100) : Lib.hasSuffix s.data.toList ((⟨#[100]⟩ : ByteArray).data.toList) = false := by
  cases hc : Lib.hasSuffix s.data.toList ((⟨#[100]⟩ : ByteArray).data.toList) with
  | false => rfl
  | true =>
    exfalso
    unfold Lib.hasSuffix at hc
    rw [List.isSuffixOf_iff_suffix] at hc
    obtain ⟨t, ht⟩ := hc
    have e : s = (⟨t.toArray⟩ : ByteArray) ++ ⟨#[100]⟩ := by
      cases s with
      | mk d =>
        apply ByteArray.ext
        rw [ByteArray.data_append]
        apply Array.toList_inj.1
        rw [Array.toList_append]
        exact ht.symm
    rw [e] at h
    have e1 : ((⟨t.toArray⟩ : ByteArray) ++ (⟨#[100]⟩ : ByteArray)).size - 1 = (⟨t.toArray⟩ : ByteArray).size + 0 := by
      rw [ByteArray.size_append, show (⟨#[100]⟩ : ByteArray).size = 1 from rfl]; omega
    rw [e1, byt_right (by decide)] at h
    exact h (by decide)
set_option maxHeartbeats 1000000 in
theorem cutSuf_yes (s : ByteArray) (hs : s.size < 140737488355328) (w : World) :
    Calls Tryz.prog 18 #[.string (s ++ ⟨#[100]⟩), .string ⟨#[100]⟩] w fun e w' => e = .returned (.tuple #[.string s, .bool true]) ∧ w' = w := by
  have e0 : (⟨#[100]⟩ : ByteArray).size = 1 := rfl
  have ez : (s ++ (⟨#[100]⟩ : ByteArray)).size = s.size + 1 := by rw [ByteArray.size_append, e0]
  have H := hide' (fun w => hasSuf_is (s ++ ⟨#[100]⟩) true (suf_yes s) (by rw [ez]; omega) w)
  have ex := ex_left s ⟨#[100]⟩
  obtain ⟨S, hS⟩ : ∃ S, s ++ (⟨#[100]⟩ : ByteArray) = S := ⟨_, rfl⟩
  rw [hS] at ez H ex ⊢
  have wr : IntKind.i64.wrap ((S.size : Int) - 1) = (s.size : Int) := by rw [IntKind.wrap_i64]; omega
  have H2 : ∀ w, Calls Tryz.prog 36 #[.string S, .string ⟨#[100]⟩] w fun e w' => e = .returned (.tuple #[.string s, .bool true]) ∧ w' = w := fun w => by
    clear hS
    go_enter Tryz.func36, Tryz.ntmps36
    go_wp2_with fail
    refine (H.out _).mono ?_
    rintro e w1 ⟨rfl, rfl⟩
    go_wp2
    go_ret2
    exact ⟨by first | rfl | simp only [ex], rfl⟩
  have H3 := hide' H2
  clear H2 H ex ez hS wr
  go_enter Tryz.func18, Tryz.ntmps18
  go_wp2_with fail
  refine (H3.out _).mono ?_
  rintro e w1 ⟨rfl, rfl⟩
  go_wp2
  go_ret2
  exact ⟨rfl, rfl⟩
set_option maxHeartbeats 1000000 in
theorem cutSuf_no (s : ByteArray) (hs : s.size ≤ 140737488355328) (h0 : 0 < s.size) (h : byt s (s.size - 1) ≠ 100) (w : World) :
    Calls Tryz.prog 18 #[.string s, .string ⟨#[100]⟩] w fun e w' => e = .returned (.tuple #[.string s, .bool false]) ∧ w' = w := by
  have H := hide' (fun w => hasSuf_is s false (suf_no h0 h) hs w)
  clear h h0
  have H2 : ∀ w, Calls Tryz.prog 36 #[.string s, .string ⟨#[100]⟩] w fun e w' => e = .returned (.tuple #[.string s, .bool false]) ∧ w' = w := fun w => by
    go_enter Tryz.func36, Tryz.ntmps36
    go_wp2_with fail
    refine (H.out _).mono ?_
    rintro e w1 ⟨rfl, rfl⟩
    go_wp2
    go_ret2
    exact ⟨rfl, rfl⟩
  have H3 := hide' H2
  clear H2 H
  go_enter Tryz.func18, Tryz.ntmps18
  go_wp2_with fail
  refine (H3.out _).mono ?_
  rintro e w1 ⟨rfl, rfl⟩
  go_wp2
  go_ret2
  exact ⟨rfl, rfl⟩
theorem trim_plus (u : ByteArray) (w : World) : Calls Tryz.prog 20 #[.string (⟨#[43]⟩ ++ u), .string ⟨#[43]⟩] w fun e w' => e = .returned (.string u) ∧ w' = w := by
  have := Any.strings_TrimPrefix Tryz.lays101 (⟨#[43]⟩ ++ u) ⟨#[43]⟩ w
  have e : (⟨(Lib.trimPrefix ((⟨#[43]⟩ : ByteArray) ++ u).data.toList ((⟨#[43]⟩ : ByteArray).data.toList)).toArray⟩ : ByteArray) = u := by
    rw [app_list]; unfold Lib.trimPrefix Lib.hasPrefix
    rw [if_pos (List.isPrefixOf_iff_prefix.2 ⟨_, rfl⟩), List.drop_left]
  rw [e] at this
  exact this
theorem trim_minus (u : ByteArray) (w : World) : Calls Tryz.prog 20 #[.string (⟨#[45]⟩ ++ u), .string ⟨#[43]⟩] w fun e w' => e = .returned (.string (⟨#[45]⟩ ++ u)) ∧ w' = w := by
  have := Any.strings_TrimPrefix Tryz.lays101 (⟨#[45]⟩ ++ u) ⟨#[43]⟩ w
  have e : (⟨(Lib.trimPrefix ((⟨#[45]⟩ : ByteArray) ++ u).data.toList ((⟨#[43]⟩ : ByteArray).data.toList)).toArray⟩ : ByteArray) = ⟨#[45]⟩ ++ u := by
    rw [app_list]; unfold Lib.trimPrefix Lib.hasPrefix
    rw [if_neg (fun h => by
      rw [List.isPrefixOf_iff_prefix] at h
      obtain ⟨t, ht⟩ := h
      have e1 : ((⟨#[43]⟩ : ByteArray).data.toList) = [43] := rfl
      have e2 : ((⟨#[45]⟩ : ByteArray).data.toList) = [45] := rfl
      rw [e1, e2] at ht
      simp at ht), ← app_list]
  rw [e] at this
  exact this
end Go.Proofs.YtjbeagbkjmaeeaaGreatDoor

namespace Go.Proofs.YtjbeagbkjmaeeaaGreatDoor
open Go.RowKit
set_option linter.unusedVariables false
set_option maxHeartbeats 2000000 in
set_option maxRecDepth 100000 in
theorem cut_z (s : ByteArray) (hs : s.size ≤ 140737488355328) (h0 : 0 < s.size) (h : byt s (s.size - 1) ≠ 100) (w : World) :
    Calls Tryz.prog 9 #[.string s] w fun e w' => e = .returned (.tuple #[.string s, .string ⟨#[48]⟩]) ∧ Below w.heap.size w w' := by
  have C1 := hide' (fun w => cutSuf_no s hs h0 h w)
  clear h h0
  go_enter Tryz.func9, Tryz.ntmps9
  go_wp2_with fail
  refine (C1.out _).mono ?_
  rintro e w1 ⟨rfl, hw⟩
  rw [hw]
  clear hw
  go_wp2
  go_ret2
  exact ⟨rfl, Below.refl _ _⟩
set_option maxHeartbeats 2000000 in
set_option maxRecDepth 100000 in
theorem cut_p (a u : ByteArray) (ha : 1 ≤ a.size) (hs : a.size + u.size + 2 ≤ 140737488355328) (hu : ∀ j, j < u.size → byt u j ≠ 43 ∧ byt u j ≠ 45 ∧ byt u j < 128) (w : World) :
    Calls Tryz.prog 9 #[.string (a ++ (⟨#[43]⟩ ++ u ++ ⟨#[100]⟩))] w fun e w' => e = .returned (.tuple #[.string a, .string u]) ∧ Below w.heap.size w w' := by
  have e1 : (⟨#[43]⟩ : ByteArray).size = 1 := rfl
  obtain ⟨B, hB⟩ : ∃ B, a ++ (⟨#[43]⟩ ++ u) = B := ⟨_, rfl⟩
  have hsz : B.size = a.size + (1 + u.size) := by rw [← hB, ByteArray.size_append, ByteArray.size_append, e1]
  have hS : a ++ (⟨#[43]⟩ ++ u ++ ⟨#[100]⟩) = B ++ ⟨#[100]⟩ := by rw [← hB, assocB a]
  have x1 : B.extract 0 a.size = a := by rw [← hB]; exact ex_left _ _
  have x2 : B.extract a.size B.size = ⟨#[43]⟩ ++ u := by
    have h := ex_right a (⟨#[43]⟩ ++ u)
    rw [hB, ByteArray.size_append, e1, ← hsz] at h
    exact h
  have hat : byt B a.size = 43 := by
    have h := byt_right (a := a) (b := (⟨#[43]⟩ : ByteArray) ++ u) (j := 0) (by rw [ByteArray.size_append, e1]; omega)
    rw [hB, Nat.add_zero, byt_left (by rw [e1]; omega)] at h
    rw [h]; decide
  have hb : ∀ j, a.size < j → j < B.size → byt B j ≠ 43 ∧ byt B j ≠ 45 ∧ byt B j < 128 := fun j h1 h2 => by
    obtain ⟨t, rfl⟩ : ∃ t, j = a.size + (1 + t) := ⟨j - a.size - 1, by omega⟩
    have h := byt_right (a := a) (b := (⟨#[43]⟩ : ByteArray) ++ u) (j := 1 + t) (by rw [ByteArray.size_append, e1]; omega)
    have h3 := byt_right (a := (⟨#[43]⟩ : ByteArray)) (b := u) (j := t) (by omega)
    rw [e1] at h3
    rw [hB, h3] at h
    rw [h]
    exact hu t (by omega)
  have C1 := hide' (fun w => cutSuf_yes B (by omega) w)
  have L1 := hide' (fun w => lastAny_is B a.size (by omega) (by omega) (by omega) (by first | exact Or.inl hat | exact Or.inr hat) hb w)
  have T1' : ∀ w, Calls Tryz.prog 20 #[.string (B.extract a.size B.size), .string ⟨#[43]⟩] w fun e w' => e = .returned (.string u) ∧ w' = w := fun w => by rw [x2]; exact trim_plus u w
  have T1 := hide' T1'
  have mx : max ((a.size : Nat) : Int) 0 = (a.size : Nat) := by omega
  have lz : ((a.size : Nat) : Int) ≤ (B.size : Int) := by omega
  have l0 : ¬ (((a.size : Nat) : Int) < 0) := by omega
  rw [hS]
  obtain ⟨X, hX⟩ : ∃ X, B ++ (⟨#[100]⟩ : ByteArray) = X := ⟨_, rfl⟩
  rw [hX] at C1 ⊢
  clear hS hX hB hat hb hu T1' x2 hsz
  go_enter Tryz.func9, Tryz.ntmps9
  go_wp2_with fail
  refine (C1.out _).mono ?_
  rintro e w1 ⟨rfl, hw⟩
  rw [hw]
  clear hw
  go_wp2_with fail
  refine (L1.out _).mono ?_
  rintro e w2 ⟨rfl, b2⟩
  go_wp2_with fail
  try simp only [mx]
  go_quiet ((go_at_call 20; exact Calls.quiet_of_same (T1.out _)))
  go_wp2
  go_ret2
  exact ⟨by first | rfl | simp only [x1], b2.trans (Dr.below (w := w2) ⟨_, rfl⟩ w.heap.size)⟩
set_option maxHeartbeats 2000000 in
set_option maxRecDepth 100000 in
theorem cut_n (a u : ByteArray) (ha : 1 ≤ a.size) (hs : a.size + u.size + 2 ≤ 140737488355328) (hu : ∀ j, j < u.size → byt u j ≠ 43 ∧ byt u j ≠ 45 ∧ byt u j < 128) (w : World) :
    Calls Tryz.prog 9 #[.string (a ++ (⟨#[45]⟩ ++ u ++ ⟨#[100]⟩))] w fun e w' => e = .returned (.tuple #[.string a, .string (⟨#[45]⟩ ++ u)]) ∧ Below w.heap.size w w' := by
  have e1 : (⟨#[45]⟩ : ByteArray).size = 1 := rfl
  obtain ⟨B, hB⟩ : ∃ B, a ++ (⟨#[45]⟩ ++ u) = B := ⟨_, rfl⟩
  have hsz : B.size = a.size + (1 + u.size) := by rw [← hB, ByteArray.size_append, ByteArray.size_append, e1]
  have hS : a ++ (⟨#[45]⟩ ++ u ++ ⟨#[100]⟩) = B ++ ⟨#[100]⟩ := by rw [← hB, assocB a]
  have x1 : B.extract 0 a.size = a := by rw [← hB]; exact ex_left _ _
  have x2 : B.extract a.size B.size = ⟨#[45]⟩ ++ u := by
    have h := ex_right a (⟨#[45]⟩ ++ u)
    rw [hB, ByteArray.size_append, e1, ← hsz] at h
    exact h
  have hat : byt B a.size = 45 := by
    have h := byt_right (a := a) (b := (⟨#[45]⟩ : ByteArray) ++ u) (j := 0) (by rw [ByteArray.size_append, e1]; omega)
    rw [hB, Nat.add_zero, byt_left (by rw [e1]; omega)] at h
    rw [h]; decide
  have hb : ∀ j, a.size < j → j < B.size → byt B j ≠ 43 ∧ byt B j ≠ 45 ∧ byt B j < 128 := fun j h1 h2 => by
    obtain ⟨t, rfl⟩ : ∃ t, j = a.size + (1 + t) := ⟨j - a.size - 1, by omega⟩
    have h := byt_right (a := a) (b := (⟨#[45]⟩ : ByteArray) ++ u) (j := 1 + t) (by rw [ByteArray.size_append, e1]; omega)
    have h3 := byt_right (a := (⟨#[45]⟩ : ByteArray)) (b := u) (j := t) (by omega)
    rw [e1] at h3
    rw [hB, h3] at h
    rw [h]
    exact hu t (by omega)
  have C1 := hide' (fun w => cutSuf_yes B (by omega) w)
  have L1 := hide' (fun w => lastAny_is B a.size (by omega) (by omega) (by omega) (by first | exact Or.inl hat | exact Or.inr hat) hb w)
  have T1' : ∀ w, Calls Tryz.prog 20 #[.string (B.extract a.size B.size), .string ⟨#[43]⟩] w fun e w' => e = .returned (.string (⟨#[45]⟩ ++ u)) ∧ w' = w := fun w => by rw [x2]; exact trim_minus u w
  have T1 := hide' T1'
  have mx : max ((a.size : Nat) : Int) 0 = (a.size : Nat) := by omega
  have lz : ((a.size : Nat) : Int) ≤ (B.size : Int) := by omega
  have l0 : ¬ (((a.size : Nat) : Int) < 0) := by omega
  rw [hS]
  obtain ⟨X, hX⟩ : ∃ X, B ++ (⟨#[100]⟩ : ByteArray) = X := ⟨_, rfl⟩
  rw [hX] at C1 ⊢
  clear hS hX hB hat hb hu T1' x2 hsz
  go_enter Tryz.func9, Tryz.ntmps9
  go_wp2_with fail
  refine (C1.out _).mono ?_
  rintro e w1 ⟨rfl, hw⟩
  rw [hw]
  clear hw
  go_wp2_with fail
  refine (L1.out _).mono ?_
  rintro e w2 ⟨rfl, b2⟩
  go_wp2_with fail
  try simp only [mx]
  go_quiet ((go_at_call 20; exact Calls.quiet_of_same (T1.out _)))
  go_wp2
  go_ret2
  exact ⟨by first | rfl | simp only [x1], b2.trans (Dr.below (w := w2) ⟨_, rfl⟩ w.heap.size)⟩
end Go.Proofs.YtjbeagbkjmaeeaaGreatDoor
