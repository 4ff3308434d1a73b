/-
  Layer 5: Text, of both sides.
-/
import Derived.Test.YtkfdgpidhghhdaaGreatDoorWX2
namespace Go.Proofs.YtkfdgpidhghhdaaGreatDoor
open Go.RowKit
set_option linter.unusedVariables false

theorem assocB (a b c : ByteArray) : a ++ b ++ c = a ++ (b ++ c) := by
  refine ba_ext (by simp only [ByteArray.size_append]; omega) fun j hj => ?_
  simp only [ByteArray.size_append] at hj
  have s1 : (a ++ b).size = a.size + b.size := ByteArray.size_append
  have s2 : (b ++ c).size = b.size + c.size := ByteArray.size_append
  rw [byt_of (by simp only [ByteArray.size_append]; omega), byt_of (by simp only [ByteArray.size_append]; omega)]
  congr 1
  by_cases h1 : j < a.size
  · rw [ByteArray.getElem_append_left (by rw [s1]; omega), ByteArray.getElem_append_left h1, ByteArray.getElem_append_left h1]
  · by_cases h2 : j < a.size + b.size
    · rw [ByteArray.getElem_append_left (by rw [s1]; omega), ByteArray.getElem_append_right (by omega), ByteArray.getElem_append_right (by omega), ByteArray.getElem_append_left (by omega)]
    · rw [ByteArray.getElem_append_right (by rw [s1]; omega), ByteArray.getElem_append_right (by omega), ByteArray.getElem_append_right (by omega)]
      congr 1
      rw [s1]; omega
/-- a fraction's text, of its parts' -/
def tq (u d : ByteArray) (V : Nat) : ByteArray := if V = 1 then u else u ++ ⟨#[47]⟩ ++ d
theorem tq_size (u d : ByteArray) (V : Nat) : (tq u d V).size ≤ u.size + d.size + 1 := by
  have e1 : (⟨#[47]⟩ : ByteArray).size = 1 := rfl
  unfold tq
  split
  · omega
  · simp only [ByteArray.size_append, e1]; omega
/-- a number below 0: a sign ahead of its opposite's text -/
theorem tq_neg {Z : Int} {u v d : ByteArray} {V : Nat} (hn : ng Z = true) (hu : isTz (ng Z) (am Z) u) (hv : isTz (ng (-Z)) (am (-Z)) v) : tq u d V = ⟨#[45]⟩ ++ tq v d V := by
  have h0 : am Z ≠ 0 := by unfold ng at hn; rw [decide_eq_true_eq] at hn; unfold am; omega
  have hn2 : ng (-Z) = false := by unfold ng at hn ⊢; rw [decide_eq_true_eq] at hn; rw [decide_eq_false_iff_not]; omega
  obtain ⟨t, ht, e⟩ := hu
  obtain ⟨t2, ht2, e2⟩ := hv
  rw [if_pos ⟨hn, h0⟩] at e
  rw [if_neg (fun h => by rw [hn2] at h; cases h.1)] at e2
  rw [am_neg] at ht2
  have e3 := ht.uniq (by omega) ht2
  subst e3
  rw [e, e2]
  unfold tq
  split
  · rfl
  · rw [assocB, assocB, assocB]
set_option maxHeartbeats 4000000 in
set_option maxRecDepth 100000 in
theorem qText_is (s0 : Bool) (a0 : Option Addr) (n0 c0 X0 : Nat) (b0 : Option Addr) (m0 d0 Y0 : Nat) (Z : Int) (V : Nat) (u d : ByteArray) (w : World) (hc0 : n0 ≤ c0) (hm0 : n0 ≤ 134217728) (hS0 : Seg w a0 X0 n0) (hd0 : m0 ≤ d0) (hk0 : m0 ≤ 134217728) (hT0 : Seg w b0 Y0 m0) (hL : Low (rn s0 X0 Y0) (rd Y0 : Nat) Z V) (hu : isTz (ng Z) (am Z) u) (hd : isTx 10 V d) (h : Digs w) :
    Calls Tryz.prog 13 #[Value.agg #[Value.bool s0, Value.slice a0 n0 c0, Value.slice b0 m0 d0]] w fun e w' => e = .returned (.string (tq u d V)) ∧ Below w.heap.size w w' := by
  by_cases h1 : V = 1
  · have e : tq u d V = u := if_pos h1
    rw [e]
    exact qText_one s0 a0 n0 c0 X0 b0 m0 d0 Y0 Z V u d w hc0 hm0 hS0 hd0 hk0 hT0 hL hu hd h h1
  · have e : tq u d V = u ++ ⟨#[47]⟩ ++ d := if_neg h1
    rw [e]
    exact qText_more s0 a0 n0 c0 X0 b0 m0 d0 Y0 Z V u d w hc0 hm0 hS0 hd0 hk0 hT0 hL hu hd h h1

set_option maxHeartbeats 4000000 in
set_option maxRecDepth 100000 in
theorem ddText_z (s0 : Bool) (a0 : Option Addr) (n0 c0 X0 : Nat) (b0 : Option Addr) (m0 d0 Y0 : Nat) (s1 : Bool) (a1 : Option Addr) (n1 c1 X1 : Nat) (b1 : Option Addr) (m1 d1 Y1 : Nat) (ZA : Int) (VA : Nat) (uA dA : ByteArray) (ZB : Int) (VB : Nat) (uB dB : ByteArray) (w : World) (hc0 : n0 ≤ c0) (hm0 : n0 ≤ 67108864) (hS0 : Seg w a0 X0 n0) (hd0 : m0 ≤ d0) (hk0 : m0 ≤ 67108864) (hT0 : Seg w b0 Y0 m0) (hc1 : n1 ≤ c1) (hm1 : n1 ≤ 67108864) (hS1 : Seg w a1 X1 n1) (hd1 : m1 ≤ d1) (hk1 : m1 ≤ 67108864) (hT1 : Seg w b1 Y1 m1) (hLA : Low (rn s0 X0 Y0) (rd Y0 : Nat) ZA VA) (huA : isTz (ng ZA) (am ZA) uA) (hdA : isTx 10 VA dA) (hLB : Low (rn s1 X1 Y1) (rd Y1 : Nat) ZB VB) (huB : isTz (ng ZB) (am ZB) uB) (hdB : isTx 10 VB dB) (hC : sgn (rn s1 X1 Y1) = 0) (h : Digs w) :
    Calls Tryz.prog 6 #[Value.agg #[Value.bool s0, Value.slice a0 n0 c0, Value.slice b0 m0 d0, Value.bool s1, Value.slice a1 n1 c1, Value.slice b1 m1 d1]] w fun e w' => e = .returned (.string (tq uA dA VA)) ∧ Below w.heap.size w w' := by
  obtain ⟨lZ, lV⟩ := low_ln hS0.1 hT0.1 hLA
  obtain ⟨lW, lX⟩ := low_ln hS1.1 hT1.1 hLB
  have z1 := huA.size_le (ln_lt (am ZA))
  have z2 := hdA.size_le (by omega) (ln_lt VA)
  have z3 := huB.size_le (ln_lt (am ZB))
  have z4 := hdB.size_le (by omega) (ln_lt VB)
  have zA := tq_size uA dA VA
  have zB := tq_size uB dB VB
  have T0' := fun w' k1 k2 j => qText_is s0 a0 n0 c0 X0 b0 m0 d0 Y0 ZA VA uA dA w' hc0 (by omega) k1 hd0 (by omega) k2 hLA huA hdA j
  have S1 := hide' (fun w' k1 k2 => qSign_is s1 a1 n1 c1 X1 b1 m1 d1 Y1 0 w' hc1 (by omega) k1 hd1 (by omega) k2 hC)
  obtain ⟨UA, hUA⟩ : ∃ U, tq uA dA VA = U := ⟨_, rfl⟩
  obtain ⟨UB, hUB⟩ : ∃ U, tq uB dB VB = U := ⟨_, rfl⟩
  rw [hUA] at T0' zA ⊢
  have k43 : (⟨#[43]⟩ : ByteArray).size = 1 := rfl
  have k100 : (⟨#[100]⟩ : ByteArray).size = 1 := rfl
  have k45 : (⟨#[45]⟩ : ByteArray).size = 1 := rfl
  have T0 := hide' T0'
  have HH := hide' h
  clear T0' hLA huA hdA hLB huB hdB hC h z1 z2 z3 z4
  go_enter Tryz.func6, Tryz.ntmps6
  go_wp2_with fail
  obtain ⟨W, hW⟩ : ∃ W, (w.alloc (.cells #[.bool s0, .slice a0 n0 c0, .slice b0 m0 d0, .bool s1, .slice a1 n1 c1, .slice b1 m1 d1] 29)) = W := ⟨_, rfl⟩
  have q00 : W.cell? ⟨w.heap.size, 0, none⟩ = some (.bool s0) := by subst hW; go_simp
  have q01 : W.cell? ⟨w.heap.size, 1, none⟩ = some (.slice a0 n0 c0) := by subst hW; go_simp
  have q02 : W.cell? ⟨w.heap.size, 2, none⟩ = some (.slice b0 m0 d0) := by subst hW; go_simp
  have q03 : W.cell? ⟨w.heap.size, 3, none⟩ = some (.bool s1) := by subst hW; go_simp
  have q04 : W.cell? ⟨w.heap.size, 4, none⟩ = some (.slice a1 n1 c1) := by subst hW; go_simp
  have q05 : W.cell? ⟨w.heap.size, 5, none⟩ = some (.slice b1 m1 d1) := by subst hW; go_simp
  have hB : Below w.heap.size w W := by subst hW; exact ((Below.refl _ _).alloc (by (try simp only [World.size_alloc]); omega) _)
  have hz : W.heap.size = w.heap.size + 1 := by subst hW; simp only [World.size_alloc]
  rw [hW]
  clear hW
  have hBW : Below W.heap.size W W := Below.refl _ _
  refine (T0.out _ (sb hS0 hB hBW) (sb hT0 hB hBW) (HH.out.below (hB.trans (hBW.mono hB.size)))).mono ?_
  rintro e w41 ⟨rfl, b41⟩
  replace hBW := hBW.trans (b41.mono hBW.size)
  replace q00 := below_cell b41 q00
  replace q01 := below_cell b41 q01
  replace q02 := below_cell b41 q02
  replace q03 := below_cell b41 q03
  replace q04 := below_cell b41 q04
  replace q05 := below_cell b41 q05
  go_wp2_with fail
  refine (S1.out _ (sb hS1 hB hBW) (sb hT1 hB hBW)).mono ?_
  rintro e w42 ⟨rfl, b42⟩
  replace hBW := hBW.trans (b42.mono hBW.size)
  replace q00 := below_cell b42 q00
  replace q01 := below_cell b42 q01
  replace q02 := below_cell b42 q02
  replace q03 := below_cell b42 q03
  replace q04 := below_cell b42 q04
  replace q05 := below_cell b42 q05
  go_wp2
  go_ret
  exact ⟨rfl, (hB.trans (hBW.mono hB.size))⟩

set_option maxHeartbeats 4000000 in
set_option maxRecDepth 100000 in
theorem ddText_p (s0 : Bool) (a0 : Option Addr) (n0 c0 X0 : Nat) (b0 : Option Addr) (m0 d0 Y0 : Nat) (s1 : Bool) (a1 : Option Addr) (n1 c1 X1 : Nat) (b1 : Option Addr) (m1 d1 Y1 : Nat) (ZA : Int) (VA : Nat) (uA dA : ByteArray) (ZB : Int) (VB : Nat) (uB dB : ByteArray) (w : World) (hc0 : n0 ≤ c0) (hm0 : n0 ≤ 67108864) (hS0 : Seg w a0 X0 n0) (hd0 : m0 ≤ d0) (hk0 : m0 ≤ 67108864) (hT0 : Seg w b0 Y0 m0) (hc1 : n1 ≤ c1) (hm1 : n1 ≤ 67108864) (hS1 : Seg w a1 X1 n1) (hd1 : m1 ≤ d1) (hk1 : m1 ≤ 67108864) (hT1 : Seg w b1 Y1 m1) (hLA : Low (rn s0 X0 Y0) (rd Y0 : Nat) ZA VA) (huA : isTz (ng ZA) (am ZA) uA) (hdA : isTx 10 VA dA) (hLB : Low (rn s1 X1 Y1) (rd Y1 : Nat) ZB VB) (huB : isTz (ng ZB) (am ZB) uB) (hdB : isTx 10 VB dB) (hC : sgn (rn s1 X1 Y1) = 1) (h : Digs w) :
    Calls Tryz.prog 6 #[Value.agg #[Value.bool s0, Value.slice a0 n0 c0, Value.slice b0 m0 d0, Value.bool s1, Value.slice a1 n1 c1, Value.slice b1 m1 d1]] w fun e w' => e = .returned (.string (tq uA dA VA ++ ((⟨#[43]⟩ : ByteArray) ++ tq uB dB VB ++ ⟨#[100]⟩))) ∧ Below w.heap.size w w' := by
  obtain ⟨lZ, lV⟩ := low_ln hS0.1 hT0.1 hLA
  obtain ⟨lW, lX⟩ := low_ln hS1.1 hT1.1 hLB
  have z1 := huA.size_le (ln_lt (am ZA))
  have z2 := hdA.size_le (by omega) (ln_lt VA)
  have z3 := huB.size_le (ln_lt (am ZB))
  have z4 := hdB.size_le (by omega) (ln_lt VB)
  have zA := tq_size uA dA VA
  have zB := tq_size uB dB VB
  have T0' := fun w' k1 k2 j => qText_is s0 a0 n0 c0 X0 b0 m0 d0 Y0 ZA VA uA dA w' hc0 (by omega) k1 hd0 (by omega) k2 hLA huA hdA j
  have S1 := hide' (fun w' k1 k2 => qSign_is s1 a1 n1 c1 X1 b1 m1 d1 Y1 1 w' hc1 (by omega) k1 hd1 (by omega) k2 hC)
  have T1' := fun w' k1 k2 j => qText_is s1 a1 n1 c1 X1 b1 m1 d1 Y1 ZB VB uB dB w' hc1 (by omega) k1 hd1 (by omega) k2 hLB huB hdB j
  obtain ⟨UA, hUA⟩ : ∃ U, tq uA dA VA = U := ⟨_, rfl⟩
  obtain ⟨UB, hUB⟩ : ∃ U, tq uB dB VB = U := ⟨_, rfl⟩
  rw [hUA] at T0' zA ⊢
  rw [hUB] at T1' zB ⊢
  have y0 : ¬ (9223372036854775807 < 1 + UB.size) := by omega
  have yy0 : 1 + UB.size ≤ 9223372036854775807 := by omega
  have y1 : ¬ (9223372036854775807 < 1 + UB.size + 1) := by omega
  have yy1 : 1 + UB.size + 1 ≤ 9223372036854775807 := by omega
  have y2 : ¬ (9223372036854775807 < UA.size + (1 + UB.size + 1)) := by omega
  have yy2 : UA.size + (1 + UB.size + 1) ≤ 9223372036854775807 := by omega
  have k43 : (⟨#[43]⟩ : ByteArray).size = 1 := rfl
  have k100 : (⟨#[100]⟩ : ByteArray).size = 1 := rfl
  have k45 : (⟨#[45]⟩ : ByteArray).size = 1 := rfl
  have T0 := hide' T0'
  have T1 := hide' T1'
  have HH := hide' h
  clear T0' hLA huA hdA hLB huB hdB hC h T1' z1 z2 z3 z4
  go_enter Tryz.func6, Tryz.ntmps6
  go_wp2_with fail
  obtain ⟨W, hW⟩ : ∃ W, (w.alloc (.cells #[.bool s0, .slice a0 n0 c0, .slice b0 m0 d0, .bool s1, .slice a1 n1 c1, .slice b1 m1 d1] 29)) = W := ⟨_, rfl⟩
  have q00 : W.cell? ⟨w.heap.size, 0, none⟩ = some (.bool s0) := by subst hW; go_simp
  have q01 : W.cell? ⟨w.heap.size, 1, none⟩ = some (.slice a0 n0 c0) := by subst hW; go_simp
  have q02 : W.cell? ⟨w.heap.size, 2, none⟩ = some (.slice b0 m0 d0) := by subst hW; go_simp
  have q03 : W.cell? ⟨w.heap.size, 3, none⟩ = some (.bool s1) := by subst hW; go_simp
  have q04 : W.cell? ⟨w.heap.size, 4, none⟩ = some (.slice a1 n1 c1) := by subst hW; go_simp
  have q05 : W.cell? ⟨w.heap.size, 5, none⟩ = some (.slice b1 m1 d1) := by subst hW; go_simp
  have hB : Below w.heap.size w W := by subst hW; exact ((Below.refl _ _).alloc (by (try simp only [World.size_alloc]); omega) _)
  have hz : W.heap.size = w.heap.size + 1 := by subst hW; simp only [World.size_alloc]
  rw [hW]
  clear hW
  have hBW : Below W.heap.size W W := Below.refl _ _
  refine (T0.out _ (sb hS0 hB hBW) (sb hT0 hB hBW) (HH.out.below (hB.trans (hBW.mono hB.size)))).mono ?_
  rintro e w41 ⟨rfl, b41⟩
  replace hBW := hBW.trans (b41.mono hBW.size)
  replace q00 := below_cell b41 q00
  replace q01 := below_cell b41 q01
  replace q02 := below_cell b41 q02
  replace q03 := below_cell b41 q03
  replace q04 := below_cell b41 q04
  replace q05 := below_cell b41 q05
  go_wp2_with fail
  refine (S1.out _ (sb hS1 hB hBW) (sb hT1 hB hBW)).mono ?_
  rintro e w42 ⟨rfl, b42⟩
  replace hBW := hBW.trans (b42.mono hBW.size)
  replace q00 := below_cell b42 q00
  replace q01 := below_cell b42 q01
  replace q02 := below_cell b42 q02
  replace q03 := below_cell b42 q03
  replace q04 := below_cell b42 q04
  replace q05 := below_cell b42 q05
  go_wp2_with fail
  refine (T1.out _ (sb hS1 hB hBW) (sb hT1 hB hBW) (HH.out.below (hB.trans (hBW.mono hB.size)))).mono ?_
  rintro e w43 ⟨rfl, b43⟩
  replace hBW := hBW.trans (b43.mono hBW.size)
  replace q00 := below_cell b43 q00
  replace q01 := below_cell b43 q01
  replace q02 := below_cell b43 q02
  replace q03 := below_cell b43 q03
  replace q04 := below_cell b43 q04
  replace q05 := below_cell b43 q05
  go_wp2
  go_ret
  exact ⟨rfl, (hB.trans (hBW.mono hB.size))⟩

set_option maxHeartbeats 4000000 in
set_option maxRecDepth 100000 in
theorem ddText_n (s0 : Bool) (a0 : Option Addr) (n0 c0 X0 : Nat) (b0 : Option Addr) (m0 d0 Y0 : Nat) (s1 : Bool) (a1 : Option Addr) (n1 c1 X1 : Nat) (b1 : Option Addr) (m1 d1 Y1 : Nat) (ZA : Int) (VA : Nat) (uA dA : ByteArray) (ZB : Int) (VB : Nat) (uB dB : ByteArray) (w : World) (hc0 : n0 ≤ c0) (hm0 : n0 ≤ 67108864) (hS0 : Seg w a0 X0 n0) (hd0 : m0 ≤ d0) (hk0 : m0 ≤ 67108864) (hT0 : Seg w b0 Y0 m0) (hc1 : n1 ≤ c1) (hm1 : n1 ≤ 67108864) (hS1 : Seg w a1 X1 n1) (hd1 : m1 ≤ d1) (hk1 : m1 ≤ 67108864) (hT1 : Seg w b1 Y1 m1) (hLA : Low (rn s0 X0 Y0) (rd Y0 : Nat) ZA VA) (huA : isTz (ng ZA) (am ZA) uA) (hdA : isTx 10 VA dA) (hLB : Low (rn s1 X1 Y1) (rd Y1 : Nat) ZB VB) (huB : isTz (ng ZB) (am ZB) uB) (hdB : isTx 10 VB dB) (hC : sgn (rn s1 X1 Y1) = (-1)) (h : Digs w) :
    Calls Tryz.prog 6 #[Value.agg #[Value.bool s0, Value.slice a0 n0 c0, Value.slice b0 m0 d0, Value.bool s1, Value.slice a1 n1 c1, Value.slice b1 m1 d1]] w fun e w' => e = .returned (.string (tq uA dA VA ++ (tq uB dB VB ++ ⟨#[100]⟩))) ∧ Below w.heap.size w w' := by
  obtain ⟨lZ, lV⟩ := low_ln hS0.1 hT0.1 hLA
  obtain ⟨lW, lX⟩ := low_ln hS1.1 hT1.1 hLB
  have z1 := huA.size_le (ln_lt (am ZA))
  have z2 := hdA.size_le (by omega) (ln_lt VA)
  have z3 := huB.size_le (ln_lt (am ZB))
  have z4 := hdB.size_le (by omega) (ln_lt VB)
  have zA := tq_size uA dA VA
  have zB := tq_size uB dB VB
  have T0' := fun w' k1 k2 j => qText_is s0 a0 n0 c0 X0 b0 m0 d0 Y0 ZA VA uA dA w' hc0 (by omega) k1 hd0 (by omega) k2 hLA huA hdA j
  have S1 := hide' (fun w' k1 k2 => qSign_is s1 a1 n1 c1 X1 b1 m1 d1 Y1 (-1) w' hc1 (by omega) k1 hd1 (by omega) k2 hC)
  have T1' := fun w' k1 k2 j => qText_is s1 a1 n1 c1 X1 b1 m1 d1 Y1 ZB VB uB dB w' hc1 (by omega) k1 hd1 (by omega) k2 hLB huB hdB j
  obtain ⟨UA, hUA⟩ : ∃ U, tq uA dA VA = U := ⟨_, rfl⟩
  obtain ⟨UB, hUB⟩ : ∃ U, tq uB dB VB = U := ⟨_, rfl⟩
  rw [hUA] at T0' zA ⊢
  rw [hUB] at T1' zB ⊢
  have y0 : ¬ (9223372036854775807 < UB.size + 1) := by omega
  have yy0 : UB.size + 1 ≤ 9223372036854775807 := by omega
  have y1 : ¬ (9223372036854775807 < UA.size + (UB.size + 1)) := by omega
  have yy1 : UA.size + (UB.size + 1) ≤ 9223372036854775807 := by omega
  have k43 : (⟨#[43]⟩ : ByteArray).size = 1 := rfl
  have k100 : (⟨#[100]⟩ : ByteArray).size = 1 := rfl
  have k45 : (⟨#[45]⟩ : ByteArray).size = 1 := rfl
  have T0 := hide' T0'
  have T1 := hide' T1'
  have HH := hide' h
  clear T0' hLA huA hdA hLB huB hdB hC h T1' z1 z2 z3 z4
  go_enter Tryz.func6, Tryz.ntmps6
  go_wp2_with fail
  obtain ⟨W, hW⟩ : ∃ W, (w.alloc (.cells #[.bool s0, .slice a0 n0 c0, .slice b0 m0 d0, .bool s1, .slice a1 n1 c1, .slice b1 m1 d1] 29)) = W := ⟨_, rfl⟩
  have q00 : W.cell? ⟨w.heap.size, 0, none⟩ = some (.bool s0) := by subst hW; go_simp
  have q01 : W.cell? ⟨w.heap.size, 1, none⟩ = some (.slice a0 n0 c0) := by subst hW; go_simp
  have q02 : W.cell? ⟨w.heap.size, 2, none⟩ = some (.slice b0 m0 d0) := by subst hW; go_simp
  have q03 : W.cell? ⟨w.heap.size, 3, none⟩ = some (.bool s1) := by subst hW; go_simp
  have q04 : W.cell? ⟨w.heap.size, 4, none⟩ = some (.slice a1 n1 c1) := by subst hW; go_simp
  have q05 : W.cell? ⟨w.heap.size, 5, none⟩ = some (.slice b1 m1 d1) := by subst hW; go_simp
  have hB : Below w.heap.size w W := by subst hW; exact ((Below.refl _ _).alloc (by (try simp only [World.size_alloc]); omega) _)
  have hz : W.heap.size = w.heap.size + 1 := by subst hW; simp only [World.size_alloc]
  rw [hW]
  clear hW
  have hBW : Below W.heap.size W W := Below.refl _ _
  refine (T0.out _ (sb hS0 hB hBW) (sb hT0 hB hBW) (HH.out.below (hB.trans (hBW.mono hB.size)))).mono ?_
  rintro e w41 ⟨rfl, b41⟩
  replace hBW := hBW.trans (b41.mono hBW.size)
  replace q00 := below_cell b41 q00
  replace q01 := below_cell b41 q01
  replace q02 := below_cell b41 q02
  replace q03 := below_cell b41 q03
  replace q04 := below_cell b41 q04
  replace q05 := below_cell b41 q05
  go_wp2_with fail
  refine (S1.out _ (sb hS1 hB hBW) (sb hT1 hB hBW)).mono ?_
  rintro e w42 ⟨rfl, b42⟩
  replace hBW := hBW.trans (b42.mono hBW.size)
  replace q00 := below_cell b42 q00
  replace q01 := below_cell b42 q01
  replace q02 := below_cell b42 q02
  replace q03 := below_cell b42 q03
  replace q04 := below_cell b42 q04
  replace q05 := below_cell b42 q05
  go_wp2_with fail
  refine (T1.out _ (sb hS1 hB hBW) (sb hT1 hB hBW) (HH.out.below (hB.trans (hBW.mono hB.size)))).mono ?_
  rintro e w43 ⟨rfl, b43⟩
  replace hBW := hBW.trans (b43.mono hBW.size)
  replace q00 := below_cell b43 q00
  replace q01 := below_cell b43 q01
  replace q02 := below_cell b43 q02
  replace q03 := below_cell b43 q03
  replace q04 := below_cell b43 q04
  replace q05 := below_cell b43 q05
  go_wp2
  go_ret
  exact ⟨rfl, (hB.trans (hBW.mono hB.size))⟩

end Go.Proofs.YtkfdgpidhghhdaaGreatDoor
