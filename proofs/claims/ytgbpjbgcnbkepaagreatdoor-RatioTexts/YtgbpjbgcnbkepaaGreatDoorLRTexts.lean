/-
  RatioTexts: Text and Script.
-/
import Derived.Test.YtgbpjbgcnbkepaaGreatDoorWX3
import Derived.Test.YtgbpjbgcnbkepaaGreatDoorWQA
import Derived.Test.YtgbpjbgcnbkepaaGreatDoorWH3
import Derived.Test.YtgbpjbgcnbkepaaGreatDoorOpenQ
import Derived.Test.YtgbpjbgcnbkepaaGreatDoorCards
import Derived.Test.YtgbpjbgcnbkepaaGreatDoorTie
import Derived.Deep.DeepHandedRow
import Derived.Lib.LaidTab
namespace Go.Proofs.YtgbpjbgcnbkepaaGreatDoor.ratioTexts
open Go.ChangeShapes Go.WideShapes Go.ChangeAt Go.RowKit Go.Proofs.YtgbpjbgcnbkepaaGreatDoor
set_option linter.unusedVariables false

theorem five {w : World} (h : Digs w) : Digits w := ⟨h 0 (by omega), h 1 (by omega), h 2 (by omega), h 3 (by omega), h 4 (by omega)⟩
theorem assoc (a b c : ByteArray) : a ++ b ++ c = a ++ (b ++ c) := by
  refine ba_ext (by simp only [ByteArray.size_append]; omega) fun j hj => ?_
  simp only [ByteArray.size_append] at hj
  have s1 : (a ++ b).size = a.size + b.size := ByteArray.size_append
  have s2 : (b ++ c).size = b.size + c.size := ByteArray.size_append
  rw [byt_of (by simp only [ByteArray.size_append]; omega), byt_of (by simp only [ByteArray.size_append]; omega)]
  congr 1
  by_cases h1 : j < a.size
  · rw [ByteArray.getElem_append_left (by rw [s1]; omega), ByteArray.getElem_append_left h1, ByteArray.getElem_append_left h1]
  · by_cases h2 : j < a.size + b.size
    · rw [ByteArray.getElem_append_left (by rw [s1]; omega), ByteArray.getElem_append_right (by omega), ByteArray.getElem_append_right (by omega), ByteArray.getElem_append_left (by omega)]
    · rw [ByteArray.getElem_append_right (by rw [s1]; omega), ByteArray.getElem_append_right (by omega), ByteArray.getElem_append_right (by omega)]
      congr 1
      rw [s1]; omega
set_option maxHeartbeats 4000000 in
set_option maxRecDepth 100000 in
theorem within_in (s0 : Bool) (a0 : Option Addr) (n0 c0 X0 : Nat) (b0 : Option Addr) (m0 d0 Y0 : Nat)  (w : World) (hc0 : n0 ≤ c0) (hm0 : n0 ≤ 35184372087808) (hS0 : Seg w a0 X0 n0) (hd0 : m0 ≤ d0) (hk0 : m0 ≤ 35184372087808) (hT0 : Seg w b0 Y0 m0) (h1 : n0 < 67108864) (h2 : m0 < 67108864) :
    Calls Tryz.prog 5 #[Value.agg #[Value.bool s0, Value.slice a0 n0 c0, Value.slice b0 m0 d0]] w fun e w' => e = .returned (Value.agg #[Value.bool s0, Value.slice a0 n0 c0, Value.slice b0 m0 d0]) ∧ Below w.heap.size w w' := by
  have e1 : ¬ ((67108864 : Int) ≤ (n0 : Int)) := by omega
  have e2 : ¬ ((67108864 : Int) ≤ (m0 : Int)) := by omega
  have e3 : decide ((67108864 : Int) ≤ (n0 : Int)) = false := by rw [decide_eq_false_iff_not]; omega
  have e4 : ((n0 : Int) < 67108864) := by omega
  have e5 : ((m0 : Int) < 67108864) := by omega
  go_enter Tryz.func5, Tryz.ntmps5
  go_wp2_with fail
  refine bodyPost_ret (v := .agg #[.bool s0, .slice a0 n0 c0, .slice b0 m0 d0]) (by rw [results_cell rfl]; go_simp) rfl ?_
  exact ⟨rfl, ((Below.refl _ _).alloc (Nat.le_refl _) _).alloc (by rw [World.size_alloc]; omega) _⟩

set_option maxHeartbeats 4000000 in
set_option maxRecDepth 100000 in
theorem within_out1 (s0 : Bool) (a0 : Option Addr) (n0 c0 X0 : Nat) (b0 : Option Addr) (m0 d0 Y0 : Nat)  (w : World) (hc0 : n0 ≤ c0) (hm0 : n0 ≤ 35184372087808) (hS0 : Seg w a0 X0 n0) (hd0 : m0 ≤ d0) (hk0 : m0 ≤ 35184372087808) (hT0 : Seg w b0 Y0 m0) (h1 : 67108864 ≤ n0) :
    Calls Tryz.prog 5 #[Value.agg #[Value.bool s0, Value.slice a0 n0 c0, Value.slice b0 m0 d0]] w fun e w' => e = .returned (Value.agg #[Value.bool false, Value.slice none 0 0, Value.slice none 0 0]) ∧ Below w.heap.size w w' := by
  have e1 : ((67108864 : Int) ≤ (n0 : Int)) := by omega
  have e4 : ¬ ((n0 : Int) < 67108864) := by omega
  go_enter Tryz.func5, Tryz.ntmps5
  go_wp2_with fail
  obtain ⟨W, hW⟩ : ∃ W, ((w.alloc (.cells #[.bool s0, .slice a0 n0 c0, .slice b0 m0 d0] 27)).alloc (.cells #[.bool false, .slice none 0 0, .slice none 0 0] 27)) = W := ⟨_, rfl⟩
  have q00 : W.cell? ⟨w.heap.size, 0, none⟩ = some (.bool s0) := by subst hW; go_simp
  have q01 : W.cell? ⟨w.heap.size, 1, none⟩ = some (.slice a0 n0 c0) := by subst hW; go_simp
  have q02 : W.cell? ⟨w.heap.size, 2, none⟩ = some (.slice b0 m0 d0) := by subst hW; go_simp
  have r00 : W.cell? ⟨w.heap.size + 1, 0, none⟩ = some (.bool false) := by subst hW; go_simp
  have r01 : W.cell? ⟨w.heap.size + 1, 1, none⟩ = some (.slice none 0 0) := by subst hW; go_simp
  have r02 : W.cell? ⟨w.heap.size + 1, 2, none⟩ = some (.slice none 0 0) := by subst hW; go_simp
  have hB : Below w.heap.size w W := by subst hW; exact (((Below.refl _ _).alloc (by (try simp only [World.size_alloc]); omega) _).alloc (by (try simp only [World.size_alloc]); omega) _)
  have hR0 : Row W (w.heap.size + 1) := by
    have := row_new ((w.alloc (.cells #[.bool s0, .slice a0 n0 c0, .slice b0 m0 d0] 27))) #[.bool false, .slice none 0 0, .slice none 0 0] 27
    try simp only [World.size_alloc] at this
    subst hW; exact this
  have hz : W.heap.size = w.heap.size + 1 + 1 := by subst hW; simp only [World.size_alloc]
  rw [hW]
  clear hW
  have hBW : Below W.heap.size W W := Below.refl _ _
  have fz0 := fun o => hR0.frozen o
  go_wp2
  all_goals refine bodyPost_ret (v := .agg #[.bool false, .slice none 0 0, .slice none 0 0]) (by rw [results_cell rfl]; go_simp) rfl ?_
  all_goals exact ⟨rfl, by first | exact hB.trans (hBW.mono hB.size) | exact ((bset (bset (bset (hB.trans (hBW.mono hB.size)) (by omega)) (by omega)) (by omega)))⟩

set_option maxHeartbeats 4000000 in
set_option maxRecDepth 100000 in
theorem within_out2 (s0 : Bool) (a0 : Option Addr) (n0 c0 X0 : Nat) (b0 : Option Addr) (m0 d0 Y0 : Nat)  (w : World) (hc0 : n0 ≤ c0) (hm0 : n0 ≤ 35184372087808) (hS0 : Seg w a0 X0 n0) (hd0 : m0 ≤ d0) (hk0 : m0 ≤ 35184372087808) (hT0 : Seg w b0 Y0 m0) (h1 : n0 < 67108864) (h2 : 67108864 ≤ m0) :
    Calls Tryz.prog 5 #[Value.agg #[Value.bool s0, Value.slice a0 n0 c0, Value.slice b0 m0 d0]] w fun e w' => e = .returned (Value.agg #[Value.bool false, Value.slice none 0 0, Value.slice none 0 0]) ∧ Below w.heap.size w w' := by
  have e1 : ¬ ((67108864 : Int) ≤ (n0 : Int)) := by omega
  have e2 : ((67108864 : Int) ≤ (m0 : Int)) := by omega
  have e3 : decide ((67108864 : Int) ≤ (n0 : Int)) = false := by rw [decide_eq_false_iff_not]; omega
  have e4 : ((n0 : Int) < 67108864) := by omega
  have e5 : ¬ ((m0 : Int) < 67108864) := by omega
  go_enter Tryz.func5, Tryz.ntmps5
  go_wp2_with fail
  obtain ⟨W, hW⟩ : ∃ W, ((w.alloc (.cells #[.bool s0, .slice a0 n0 c0, .slice b0 m0 d0] 27)).alloc (.cells #[.bool false, .slice none 0 0, .slice none 0 0] 27)) = W := ⟨_, rfl⟩
  have q00 : W.cell? ⟨w.heap.size, 0, none⟩ = some (.bool s0) := by subst hW; go_simp
  have q01 : W.cell? ⟨w.heap.size, 1, none⟩ = some (.slice a0 n0 c0) := by subst hW; go_simp
  have q02 : W.cell? ⟨w.heap.size, 2, none⟩ = some (.slice b0 m0 d0) := by subst hW; go_simp
  have r00 : W.cell? ⟨w.heap.size + 1, 0, none⟩ = some (.bool false) := by subst hW; go_simp
  have r01 : W.cell? ⟨w.heap.size + 1, 1, none⟩ = some (.slice none 0 0) := by subst hW; go_simp
  have r02 : W.cell? ⟨w.heap.size + 1, 2, none⟩ = some (.slice none 0 0) := by subst hW; go_simp
  have hB : Below w.heap.size w W := by subst hW; exact (((Below.refl _ _).alloc (by (try simp only [World.size_alloc]); omega) _).alloc (by (try simp only [World.size_alloc]); omega) _)
  have hR0 : Row W (w.heap.size + 1) := by
    have := row_new ((w.alloc (.cells #[.bool s0, .slice a0 n0 c0, .slice b0 m0 d0] 27))) #[.bool false, .slice none 0 0, .slice none 0 0] 27
    try simp only [World.size_alloc] at this
    subst hW; exact this
  have hz : W.heap.size = w.heap.size + 1 + 1 := by subst hW; simp only [World.size_alloc]
  rw [hW]
  clear hW
  have hBW : Below W.heap.size W W := Below.refl _ _
  have fz0 := fun o => hR0.frozen o
  go_wp2
  all_goals refine bodyPost_ret (v := .agg #[.bool false, .slice none 0 0, .slice none 0 0]) (by rw [results_cell rfl]; go_simp) rfl ?_
  all_goals exact ⟨rfl, by first | exact hB.trans (hBW.mono hB.size) | exact ((bset (bset (bset (hB.trans (hBW.mono hB.size)) (by omega)) (by omega)) (by omega)))⟩

set_option maxHeartbeats 4000000 in
set_option maxRecDepth 100000 in
theorem walk_in (s0 : Bool) (a0 : Option Addr) (n0 c0 X0 : Nat) (b0 : Option Addr) (m0 d0 Y0 : Nat)  (w : World) (hc0 : n0 ≤ c0) (hm0 : n0 ≤ 35184372087808) (hS0 : Seg w a0 X0 n0) (hd0 : m0 ≤ d0) (hk0 : m0 ≤ 35184372087808) (hT0 : Seg w b0 Y0 m0) (hDg : Digs w) (h1 : n0 < 67108864) (h2 : m0 < 67108864) :
    Calls Tryz.prog 3 #[Value.agg #[Value.bool s0, Value.slice a0 n0 c0, Value.slice b0 m0 d0]] w fun e w' => e = .returned (.bool true) ∧ Below w.heap.size w w' := by
  have W1 := hide' (fun w' (k1 : Seg w' a0 X0 n0) (k2 : Seg w' b0 Y0 m0) => within_in s0 a0 n0 c0 X0 b0 m0 d0 Y0 w' hc0 hm0 k1 hd0 hk0 k2 h1 h2)
  obtain ⟨Z, V, hL⟩ := low_ex (rn s0 X0 Y0) (rd Y0 : Nat) (rd_ne Y0)
  obtain ⟨u, hu⟩ := isTz_ex (ng Z) (am Z)
  obtain ⟨x, hx⟩ := isTx_ex (b := 10) (by omega) (by omega) (am Z)
  obtain ⟨d, hd⟩ := isTx_ex (b := 10) (by omega) (by omega) V
  obtain ⟨U, hU⟩ : ∃ U, (if V = 1 then u else u ++ ⟨#[47]⟩ ++ d) = U := ⟨_, rfl⟩
  obtain ⟨S, hSc⟩ : ∃ S, (if ng Z = true then ⟨#[40, 45, 32]⟩ ++ scr x d V ++ ⟨#[41]⟩ else scr x d V) = S := ⟨_, rfl⟩
  have T1 : ∀ w' p q, Digs w' → Seg w' p X0 n0 → Seg w' q Y0 m0 → Calls Tryz.prog 7 #[.agg #[.bool s0, .slice p n0 n0, .slice q m0 m0]] w' fun e w'' => e = .returned (.string U) ∧ Below w'.heap.size w' w'' := by
    intro w' p q hD k1 k2
    by_cases h : V = 1
    · rw [if_pos h] at hU; subst hU
      exact qText_one s0 p n0 n0 X0 q m0 m0 Y0 Z V u d w' (Nat.le_refl _) (by omega) k1 (Nat.le_refl _) (by omega) k2 hL hu hd hD h
    · rw [if_neg h] at hU; subst hU
      exact qText_more s0 p n0 n0 X0 q m0 m0 Y0 Z V u d w' (Nat.le_refl _) (by omega) k1 (Nat.le_refl _) (by omega) k2 hL hu hd hD h
  have T2 : ∀ w', Seg w' a0 X0 n0 → Seg w' b0 Y0 m0 → Calls Tryz.prog 9 #[.agg #[.bool s0, .slice a0 n0 c0, .slice b0 m0 d0]] w' fun e w'' => e = .returned (.string U) ∧ Below w'.heap.size w' w'' := by
    intro w' k1 k2
    by_cases h : V = 1
    · rw [if_pos h] at hU; subst hU
      exact vqText_one s0 a0 n0 c0 X0 b0 m0 d0 Y0 Z V u d w' hc0 (by omega) k1 hd0 (by omega) k2 hL hu hd h
    · rw [if_neg h, assoc] at hU; subst hU
      exact vqText_more s0 a0 n0 c0 X0 b0 m0 d0 Y0 Z V u d w' hc0 (by omega) k1 hd0 (by omega) k2 hL hu hd h
  have T3 : ∀ w' p q, Digs w' → Seg w' p X0 n0 → Seg w' q Y0 m0 → Calls Tryz.prog 10 #[.agg #[.bool s0, .slice p n0 n0, .slice q m0 m0]] w' fun e w'' => e = .returned (.string S) ∧ Below w'.heap.size w' w'' := by
    intro w' p q hD k1 k2
    by_cases h : ng Z = true
    · rw [if_pos h] at hSc; subst hSc
      exact qScript_neg s0 p n0 n0 X0 q m0 m0 Y0 Z V x d w' (Nat.le_refl _) (by omega) k1 (Nat.le_refl _) (by omega) k2 hL h hx hd hD
    · rw [if_neg h] at hSc; subst hSc
      exact qScript_pos s0 p n0 n0 X0 q m0 m0 Y0 Z V x d w' (Nat.le_refl _) (by omega) k1 (Nat.le_refl _) (by omega) k2 hL (by simpa using h) hx hd hD
  have T4 : ∀ w', Seg w' a0 X0 n0 → Seg w' b0 Y0 m0 → Calls Tryz.prog 11 #[.agg #[.bool s0, .slice a0 n0 c0, .slice b0 m0 d0]] w' fun e w'' => e = .returned (.string S) ∧ Below w'.heap.size w' w'' := by
    intro w' k1 k2
    by_cases h : ng Z = true
    · rw [if_pos h] at hSc; subst hSc
      exact vqScript_neg s0 a0 n0 c0 X0 b0 m0 d0 Y0 Z V x d w' hc0 (by omega) k1 hd0 (by omega) k2 hL h hx hd
    · rw [if_neg h] at hSc; subst hSc
      exact vqScript_pos s0 a0 n0 c0 X0 b0 m0 d0 Y0 Z V x d w' hc0 (by omega) k1 hd0 (by omega) k2 hL (by simpa using h) hx hd
  have e1 : (U.toList == U.toList) = true := by simp
  have e2 : (S.toList == S.toList) = true := by simp
  have H1 := hide' T1
  have H2 := hide' T2
  have H3 := hide' T3
  have H4 := hide' T4
  have HD := hide' hDg
  clear T1 T2 T3 T4 hU hSc hu hx hd hL hDg
  go_enter Tryz.func3, Tryz.ntmps3
  go_wp2_with fail
  obtain ⟨W, hW⟩ : ∃ W, (w.alloc (.cells #[.bool s0, .slice a0 n0 c0, .slice b0 m0 d0] 27)) = W := ⟨_, rfl⟩
  have q00 : W.cell? ⟨w.heap.size, 0, none⟩ = some (.bool s0) := by subst hW; go_simp
  have q01 : W.cell? ⟨w.heap.size, 1, none⟩ = some (.slice a0 n0 c0) := by subst hW; go_simp
  have q02 : W.cell? ⟨w.heap.size, 2, none⟩ = some (.slice b0 m0 d0) := by subst hW; go_simp
  have hB : Below w.heap.size w W := by subst hW; exact ((Below.refl _ _).alloc (by (try simp only [World.size_alloc]); omega) _)
  have hP0 : Row W (w.heap.size) := by
    have := row_new (w) #[.bool s0, .slice a0 n0 c0, .slice b0 m0 d0] 27
    try simp only [World.size_alloc] at this
    subst hW; exact this
  have hz : W.heap.size = w.heap.size + 1 := by subst hW; simp only [World.size_alloc]
  rw [hW]
  clear hW
  have hBW : Below W.heap.size W W := Below.refl _ _
  refine (W1.out _ (sb hS0 hB hBW) (sb hT0 hB hBW)).mono ?_
  rintro e w41 ⟨rfl, b41⟩
  replace hBW := hBW.trans (b41.mono hBW.size)
  replace q00 := below_cell b41 q00
  replace q01 := below_cell b41 q01
  replace q02 := below_cell b41 q02
  replace hP0 := below_row b41 hP0
  have hsB := hBW.size
  have hM : Mid w.heap.size W.heap.size w41 (((w41.setCell ⟨w.heap.size, 0, none⟩ (.bool s0)).setCell ⟨w.heap.size, 1, none⟩ (.slice a0 n0 c0)).setCell ⟨w.heap.size, 2, none⟩ (.slice b0 m0 d0)) := ((((Mid.refl _ _ _).set _ _ (by omega) (by omega) _).set _ _ (by omega) (by omega) _).set _ _ (by omega) (by omega) _)
  have eM := set3_same (w := w41) (c := w.heap.size) (u0 := .bool s0) (u1 := .slice a0 n0 c0) (u2 := .slice b0 m0 d0) q00 q01 q02
  have q00_ : ((((w41.setCell ⟨w.heap.size, 0, none⟩ (.bool s0)).setCell ⟨w.heap.size, 1, none⟩ (.slice a0 n0 c0)).setCell ⟨w.heap.size, 2, none⟩ (.slice b0 m0 d0))).cell? ⟨w.heap.size, 0, none⟩ = some (.bool s0) := eM.1
  have q01_ : ((((w41.setCell ⟨w.heap.size, 0, none⟩ (.bool s0)).setCell ⟨w.heap.size, 1, none⟩ (.slice a0 n0 c0)).setCell ⟨w.heap.size, 2, none⟩ (.slice b0 m0 d0))).cell? ⟨w.heap.size, 1, none⟩ = some (.slice a0 n0 c0) := eM.2.1
  have q02_ : ((((w41.setCell ⟨w.heap.size, 0, none⟩ (.bool s0)).setCell ⟨w.heap.size, 1, none⟩ (.slice a0 n0 c0)).setCell ⟨w.heap.size, 2, none⟩ (.slice b0 m0 d0))).cell? ⟨w.heap.size, 2, none⟩ = some (.slice b0 m0 d0) := eM.2.2
  have hP0_ := (((hP0.setCell ⟨w.heap.size, 0, none⟩ (.bool s0)).setCell ⟨w.heap.size, 1, none⟩ (.slice a0 n0 c0)).setCell ⟨w.heap.size, 2, none⟩ (.slice b0 m0 d0))
  have fzhP0 := fun o => hP0.frozen o
  have hBn := (hB.trans (hBW.mono hB.size)).trans (hM.below (Nat.le_trans hB.size hBW.size))
  have hsM := hM.size
  clear hM eM
  go_wp2_with fail
  clear q00 q01 q02 hP0 fzhP0 hB hBW
  generalize (((w41.setCell ⟨w.heap.size, 0, none⟩ (.bool s0)).setCell ⟨w.heap.size, 1, none⟩ (.slice a0 n0 c0)).setCell ⟨w.heap.size, 2, none⟩ (.slice b0 m0 d0)) = w41y at q00_ q01_ q02_ hP0_ hBn hsM ⊢
  have q00 := q00_
  clear q00_
  have q01 := q01_
  clear q01_
  have q02 := q02_
  clear q02_
  have hP0 := hP0_
  clear hP0_
  have hB := hBn
  clear hBn
  have hBW : Below w41y.heap.size w41y w41y := Below.refl _ _
  replace hBW := hBW.drew
  first
    | go_region_held3 (fun w' => w'.cell? ⟨w.heap.size, 0, none⟩ = some (.bool s0) ∧ w'.cell? ⟨w.heap.size, 1, none⟩ = some (.slice a0 n0 c0) ∧ w'.cell? ⟨w.heap.size, 2, none⟩ = some (.slice b0 m0 d0) ∧ Below w.heap.size w w')
        (first | exact ⟨q00, q01, q02, hB.trans (hBW.mono hB.size)⟩ | exact kp3 b42 (by assumption) | exact kp3 b43 (by assumption) | exact kp3 b44 (by assumption) | exact kp3 b45 (by assumption) | exact kp3 b46 (by assumption) | exact kp3 b47 (by assumption) | exact kp3 b48 (by assumption) | exact kp3 (below_alloc _) (by assumption))
        (first
          | (go_at_call 6; refine (half_is _ (five (HD.out.below (hB.trans (hBW.mono hB.size))))).mono ?_; rintro e w42 ⟨rfl, b42⟩; replace hBW := hBW.trans (b42.mono hBW.size); replace q00 := below_cell b42 q00; replace q01 := below_cell b42 q01; replace q02 := below_cell b42 q02; replace hP0 := below_row b42 hP0)
          | (go_at_call 8; go_at_call_of 8 (Value.agg #[Value.bool s0, Value.slice a0 n0 c0, Value.slice b0 m0 d0]); (fail_if_success clear b43); refine (ltwin_is s0 a0 n0 c0 X0 b0 m0 d0 Y0 _ hc0 (by omega) (sb hS0 hB hBW) hd0 (by omega) (sb hT0 hB hBW)).mono ?_; rintro e w43 ⟨p43, q43, rfl, hp43, hq43⟩; have b43 := hp43.below; replace hp43 := hp43.back hBW; replace hq43 := hq43.back hBW; replace hBW := hBW.trans (b43.mono hBW.size); replace q00 := below_cell b43 q00; replace q01 := below_cell b43 q01; replace q02 := below_cell b43 q02; replace hP0 := below_row b43 hP0)
          | (go_at_call 7; go_at_call_of 7 (Value.agg #[Value.bool s0, Value.slice p43 n0 n0, Value.slice q43 m0 m0]); refine (H1.out _ _ _ (HD.out.below (hB.trans (hBW.mono hB.size))) hp43.seg hq43.seg).mono ?_; rintro e w44 ⟨rfl, b44⟩; replace hBW := hBW.trans (b44.mono hBW.size); replace q00 := below_cell b44 q00; replace q01 := below_cell b44 q01; replace q02 := below_cell b44 q02; replace hP0 := below_row b44 hP0; replace hp43 := hp43.later b44; replace hq43 := hq43.later b44)
          | (go_at_call 9; go_at_call_of 9 (Value.agg #[Value.bool s0, Value.slice a0 n0 c0, Value.slice b0 m0 d0]); refine (H2.out _ (sb hS0 hB hBW) (sb hT0 hB hBW)).mono ?_; rintro e w45 ⟨rfl, b45⟩; replace hBW := hBW.trans (b45.mono hBW.size); replace q00 := below_cell b45 q00; replace q01 := below_cell b45 q01; replace q02 := below_cell b45 q02; replace hP0 := below_row b45 hP0; replace hp43 := hp43.later b45; replace hq43 := hq43.later b45)
          | (go_at_call 8; go_at_call_of 8 (Value.agg #[Value.bool s0, Value.slice a0 n0 c0, Value.slice b0 m0 d0]); (fail_if_success clear b46); refine (ltwin_is s0 a0 n0 c0 X0 b0 m0 d0 Y0 _ hc0 (by omega) (sb hS0 hB hBW) hd0 (by omega) (sb hT0 hB hBW)).mono ?_; rintro e w46 ⟨p46, q46, rfl, hp46, hq46⟩; have b46 := hp46.below; replace hp46 := hp46.back hBW; replace hq46 := hq46.back hBW; replace hBW := hBW.trans (b46.mono hBW.size); replace q00 := below_cell b46 q00; replace q01 := below_cell b46 q01; replace q02 := below_cell b46 q02; replace hP0 := below_row b46 hP0; replace hp43 := hp43.later b46; replace hq43 := hq43.later b46)
          | (go_at_call 10; go_at_call_of 10 (Value.agg #[Value.bool s0, Value.slice p46 n0 n0, Value.slice q46 m0 m0]); refine (H3.out _ _ _ (HD.out.below (hB.trans (hBW.mono hB.size))) hp46.seg hq46.seg).mono ?_; rintro e w47 ⟨rfl, b47⟩; replace hBW := hBW.trans (b47.mono hBW.size); replace q00 := below_cell b47 q00; replace q01 := below_cell b47 q01; replace q02 := below_cell b47 q02; replace hP0 := below_row b47 hP0; replace hp43 := hp43.later b47; replace hq43 := hq43.later b47; replace hp46 := hp46.later b47; replace hq46 := hq46.later b47)
          | (go_at_call 11; go_at_call_of 11 (Value.agg #[Value.bool s0, Value.slice a0 n0 c0, Value.slice b0 m0 d0]); refine (H4.out _ (sb hS0 hB hBW) (sb hT0 hB hBW)).mono ?_; rintro e w48 ⟨rfl, b48⟩; replace hBW := hBW.trans (b48.mono hBW.size); replace q00 := below_cell b48 q00; replace q01 := below_cell b48 q01; replace q02 := below_cell b48 q02; replace hP0 := below_row b48 hP0; replace hp43 := hp43.later b48; replace hq43 := hq43.later b48; replace hp46 := hp46.later b48; replace hq46 := hq46.later b48))
    | fail
  go_wp2
  go_ret
  exact ⟨rfl, (hB.trans (hBW.mono hB.size))⟩

set_option maxHeartbeats 4000000 in
set_option maxRecDepth 100000 in
theorem walk_out1 (s0 : Bool) (a0 : Option Addr) (n0 c0 X0 : Nat) (b0 : Option Addr) (m0 d0 Y0 : Nat)  (w : World) (hc0 : n0 ≤ c0) (hm0 : n0 ≤ 35184372087808) (hS0 : Seg w a0 X0 n0) (hd0 : m0 ≤ d0) (hk0 : m0 ≤ 35184372087808) (hT0 : Seg w b0 Y0 m0) (hDg : Digs w) (h1 : 67108864 ≤ n0) :
    Calls Tryz.prog 3 #[Value.agg #[Value.bool s0, Value.slice a0 n0 c0, Value.slice b0 m0 d0]] w fun e w' => e = .returned (.bool true) ∧ Below w.heap.size w w' := by
  have W1 := hide' (fun w' (k1 : Seg w' a0 X0 n0) (k2 : Seg w' b0 Y0 m0) => within_out1 s0 a0 n0 c0 X0 b0 m0 d0 Y0 w' hc0 hm0 k1 hd0 hk0 k2 h1)
  obtain ⟨Z, V, hL⟩ := low_ex (rn false 0 0) (rd 0 : Nat) (rd_ne 0)
  obtain ⟨u, hu⟩ := isTz_ex (ng Z) (am Z)
  obtain ⟨x, hx⟩ := isTx_ex (b := 10) (by omega) (by omega) (am Z)
  obtain ⟨d, hd⟩ := isTx_ex (b := 10) (by omega) (by omega) V
  obtain ⟨U, hU⟩ : ∃ U, (if V = 1 then u else u ++ ⟨#[47]⟩ ++ d) = U := ⟨_, rfl⟩
  obtain ⟨S, hSc⟩ : ∃ S, (if ng Z = true then ⟨#[40, 45, 32]⟩ ++ scr x d V ++ ⟨#[41]⟩ else scr x d V) = S := ⟨_, rfl⟩
  have T1 : ∀ w' p q, Digs w' → Seg w' p 0 0 → Seg w' q 0 0 → Calls Tryz.prog 7 #[.agg #[.bool false, .slice p 0 0, .slice q 0 0]] w' fun e w'' => e = .returned (.string U) ∧ Below w'.heap.size w' w'' := by
    intro w' p q hD k1 k2
    by_cases h : V = 1
    · rw [if_pos h] at hU; subst hU
      exact qText_one false p 0 0 0 q 0 0 0 Z V u d w' (Nat.le_refl _) (by omega) k1 (Nat.le_refl _) (by omega) k2 hL hu hd hD h
    · rw [if_neg h] at hU; subst hU
      exact qText_more false p 0 0 0 q 0 0 0 Z V u d w' (Nat.le_refl _) (by omega) k1 (Nat.le_refl _) (by omega) k2 hL hu hd hD h
  have T2 : ∀ w', Seg w' none 0 0 → Seg w' none 0 0 → Calls Tryz.prog 9 #[.agg #[.bool false, .slice none 0 0, .slice none 0 0]] w' fun e w'' => e = .returned (.string U) ∧ Below w'.heap.size w' w'' := by
    intro w' k1 k2
    by_cases h : V = 1
    · rw [if_pos h] at hU; subst hU
      exact vqText_one false none 0 0 0 none 0 0 0 Z V u d w' (Nat.le_refl _) (by omega) k1 (Nat.le_refl _) (by omega) k2 hL hu hd h
    · rw [if_neg h, assoc] at hU; subst hU
      exact vqText_more false none 0 0 0 none 0 0 0 Z V u d w' (Nat.le_refl _) (by omega) k1 (Nat.le_refl _) (by omega) k2 hL hu hd h
  have T3 : ∀ w' p q, Digs w' → Seg w' p 0 0 → Seg w' q 0 0 → Calls Tryz.prog 10 #[.agg #[.bool false, .slice p 0 0, .slice q 0 0]] w' fun e w'' => e = .returned (.string S) ∧ Below w'.heap.size w' w'' := by
    intro w' p q hD k1 k2
    by_cases h : ng Z = true
    · rw [if_pos h] at hSc; subst hSc
      exact qScript_neg false p 0 0 0 q 0 0 0 Z V x d w' (Nat.le_refl _) (by omega) k1 (Nat.le_refl _) (by omega) k2 hL h hx hd hD
    · rw [if_neg h] at hSc; subst hSc
      exact qScript_pos false p 0 0 0 q 0 0 0 Z V x d w' (Nat.le_refl _) (by omega) k1 (Nat.le_refl _) (by omega) k2 hL (by simpa using h) hx hd hD
  have T4 : ∀ w', Seg w' none 0 0 → Seg w' none 0 0 → Calls Tryz.prog 11 #[.agg #[.bool false, .slice none 0 0, .slice none 0 0]] w' fun e w'' => e = .returned (.string S) ∧ Below w'.heap.size w' w'' := by
    intro w' k1 k2
    by_cases h : ng Z = true
    · rw [if_pos h] at hSc; subst hSc
      exact vqScript_neg false none 0 0 0 none 0 0 0 Z V x d w' (Nat.le_refl _) (by omega) k1 (Nat.le_refl _) (by omega) k2 hL h hx hd
    · rw [if_neg h] at hSc; subst hSc
      exact vqScript_pos false none 0 0 0 none 0 0 0 Z V x d w' (Nat.le_refl _) (by omega) k1 (Nat.le_refl _) (by omega) k2 hL (by simpa using h) hx hd
  have e1 : (U.toList == U.toList) = true := by simp
  have e2 : (S.toList == S.toList) = true := by simp
  have H1 := hide' T1
  have H2 := hide' T2
  have H3 := hide' T3
  have H4 := hide' T4
  have HD := hide' hDg
  clear T1 T2 T3 T4 hU hSc hu hx hd hL hDg
  go_enter Tryz.func3, Tryz.ntmps3
  go_wp2_with fail
  obtain ⟨W, hW⟩ : ∃ W, (w.alloc (.cells #[.bool s0, .slice a0 n0 c0, .slice b0 m0 d0] 27)) = W := ⟨_, rfl⟩
  have q00 : W.cell? ⟨w.heap.size, 0, none⟩ = some (.bool s0) := by subst hW; go_simp
  have q01 : W.cell? ⟨w.heap.size, 1, none⟩ = some (.slice a0 n0 c0) := by subst hW; go_simp
  have q02 : W.cell? ⟨w.heap.size, 2, none⟩ = some (.slice b0 m0 d0) := by subst hW; go_simp
  have hB : Below w.heap.size w W := by subst hW; exact ((Below.refl _ _).alloc (by (try simp only [World.size_alloc]); omega) _)
  have hP0 : Row W (w.heap.size) := by
    have := row_new (w) #[.bool s0, .slice a0 n0 c0, .slice b0 m0 d0] 27
    try simp only [World.size_alloc] at this
    subst hW; exact this
  have hz : W.heap.size = w.heap.size + 1 := by subst hW; simp only [World.size_alloc]
  rw [hW]
  clear hW
  have hBW : Below W.heap.size W W := Below.refl _ _
  refine (W1.out _ (sb hS0 hB hBW) (sb hT0 hB hBW)).mono ?_
  rintro e w41 ⟨rfl, b41⟩
  replace hBW := hBW.trans (b41.mono hBW.size)
  replace q00 := below_cell b41 q00
  replace q01 := below_cell b41 q01
  replace q02 := below_cell b41 q02
  replace hP0 := below_row b41 hP0
  have hsB := hBW.size
  have hM : Mid w.heap.size W.heap.size w41 (((w41.setCell ⟨w.heap.size, 0, none⟩ (.bool false)).setCell ⟨w.heap.size, 1, none⟩ (.slice none 0 0)).setCell ⟨w.heap.size, 2, none⟩ (.slice none 0 0)) := ((((Mid.refl _ _ _).set _ _ (by omega) (by omega) _).set _ _ (by omega) (by omega) _).set _ _ (by omega) (by omega) _)
  have eM := set3_same (w := w41) (c := w.heap.size) (u0 := .bool false) (u1 := .slice none 0 0) (u2 := .slice none 0 0) q00 q01 q02
  have q00_ : ((((w41.setCell ⟨w.heap.size, 0, none⟩ (.bool false)).setCell ⟨w.heap.size, 1, none⟩ (.slice none 0 0)).setCell ⟨w.heap.size, 2, none⟩ (.slice none 0 0))).cell? ⟨w.heap.size, 0, none⟩ = some (.bool false) := eM.1
  have q01_ : ((((w41.setCell ⟨w.heap.size, 0, none⟩ (.bool false)).setCell ⟨w.heap.size, 1, none⟩ (.slice none 0 0)).setCell ⟨w.heap.size, 2, none⟩ (.slice none 0 0))).cell? ⟨w.heap.size, 1, none⟩ = some (.slice none 0 0) := eM.2.1
  have q02_ : ((((w41.setCell ⟨w.heap.size, 0, none⟩ (.bool false)).setCell ⟨w.heap.size, 1, none⟩ (.slice none 0 0)).setCell ⟨w.heap.size, 2, none⟩ (.slice none 0 0))).cell? ⟨w.heap.size, 2, none⟩ = some (.slice none 0 0) := eM.2.2
  have hP0_ := (((hP0.setCell ⟨w.heap.size, 0, none⟩ (.bool false)).setCell ⟨w.heap.size, 1, none⟩ (.slice none 0 0)).setCell ⟨w.heap.size, 2, none⟩ (.slice none 0 0))
  have fzhP0 := fun o => hP0.frozen o
  have hBn := (hB.trans (hBW.mono hB.size)).trans (hM.below (Nat.le_trans hB.size hBW.size))
  have hsM := hM.size
  clear hM eM
  go_wp2_with fail
  clear q00 q01 q02 hP0 fzhP0 hB hBW
  generalize (((w41.setCell ⟨w.heap.size, 0, none⟩ (.bool false)).setCell ⟨w.heap.size, 1, none⟩ (.slice none 0 0)).setCell ⟨w.heap.size, 2, none⟩ (.slice none 0 0)) = w41y at q00_ q01_ q02_ hP0_ hBn hsM ⊢
  have q00 := q00_
  clear q00_
  have q01 := q01_
  clear q01_
  have q02 := q02_
  clear q02_
  have hP0 := hP0_
  clear hP0_
  have hB := hBn
  clear hBn
  have hBW : Below w41y.heap.size w41y w41y := Below.refl _ _
  replace hBW := hBW.drew
  first
    | go_region_held3 (fun w' => w'.cell? ⟨w.heap.size, 0, none⟩ = some (.bool false) ∧ w'.cell? ⟨w.heap.size, 1, none⟩ = some (.slice none 0 0) ∧ w'.cell? ⟨w.heap.size, 2, none⟩ = some (.slice none 0 0) ∧ Below w.heap.size w w')
        (first | exact ⟨q00, q01, q02, hB.trans (hBW.mono hB.size)⟩ | exact kp3 b42 (by assumption) | exact kp3 b43 (by assumption) | exact kp3 b44 (by assumption) | exact kp3 b45 (by assumption) | exact kp3 b46 (by assumption) | exact kp3 b47 (by assumption) | exact kp3 b48 (by assumption) | exact kp3 (below_alloc _) (by assumption))
        (first
          | (go_at_call 6; refine (half_is _ (five (HD.out.below (hB.trans (hBW.mono hB.size))))).mono ?_; rintro e w42 ⟨rfl, b42⟩; replace hBW := hBW.trans (b42.mono hBW.size); replace q00 := below_cell b42 q00; replace q01 := below_cell b42 q01; replace q02 := below_cell b42 q02; replace hP0 := below_row b42 hP0)
          | (go_at_call 8; go_at_call_of 8 (Value.agg #[Value.bool false, Value.slice none 0 0, Value.slice none 0 0]); (fail_if_success clear b43); refine (ltwin_is false none 0 0 0 none 0 0 0 _ (Nat.le_refl _) (by omega) (Seg.nil _ _) (Nat.le_refl _) (by omega) (Seg.nil _ _)).mono ?_; rintro e w43 ⟨p43, q43, rfl, hp43, hq43⟩; have b43 := hp43.below; replace hp43 := hp43.back hBW; replace hq43 := hq43.back hBW; replace hBW := hBW.trans (b43.mono hBW.size); replace q00 := below_cell b43 q00; replace q01 := below_cell b43 q01; replace q02 := below_cell b43 q02; replace hP0 := below_row b43 hP0)
          | (go_at_call 7; go_at_call_of 7 (Value.agg #[Value.bool false, Value.slice p43 0 0, Value.slice q43 0 0]); refine (H1.out _ _ _ (HD.out.below (hB.trans (hBW.mono hB.size))) hp43.seg hq43.seg).mono ?_; rintro e w44 ⟨rfl, b44⟩; replace hBW := hBW.trans (b44.mono hBW.size); replace q00 := below_cell b44 q00; replace q01 := below_cell b44 q01; replace q02 := below_cell b44 q02; replace hP0 := below_row b44 hP0; replace hp43 := hp43.later b44; replace hq43 := hq43.later b44)
          | (go_at_call 9; go_at_call_of 9 (Value.agg #[Value.bool false, Value.slice none 0 0, Value.slice none 0 0]); refine (H2.out _ (Seg.nil _ _) (Seg.nil _ _)).mono ?_; rintro e w45 ⟨rfl, b45⟩; replace hBW := hBW.trans (b45.mono hBW.size); replace q00 := below_cell b45 q00; replace q01 := below_cell b45 q01; replace q02 := below_cell b45 q02; replace hP0 := below_row b45 hP0; replace hp43 := hp43.later b45; replace hq43 := hq43.later b45)
          | (go_at_call 8; go_at_call_of 8 (Value.agg #[Value.bool false, Value.slice none 0 0, Value.slice none 0 0]); (fail_if_success clear b46); refine (ltwin_is false none 0 0 0 none 0 0 0 _ (Nat.le_refl _) (by omega) (Seg.nil _ _) (Nat.le_refl _) (by omega) (Seg.nil _ _)).mono ?_; rintro e w46 ⟨p46, q46, rfl, hp46, hq46⟩; have b46 := hp46.below; replace hp46 := hp46.back hBW; replace hq46 := hq46.back hBW; replace hBW := hBW.trans (b46.mono hBW.size); replace q00 := below_cell b46 q00; replace q01 := below_cell b46 q01; replace q02 := below_cell b46 q02; replace hP0 := below_row b46 hP0; replace hp43 := hp43.later b46; replace hq43 := hq43.later b46)
          | (go_at_call 10; go_at_call_of 10 (Value.agg #[Value.bool false, Value.slice p46 0 0, Value.slice q46 0 0]); refine (H3.out _ _ _ (HD.out.below (hB.trans (hBW.mono hB.size))) hp46.seg hq46.seg).mono ?_; rintro e w47 ⟨rfl, b47⟩; replace hBW := hBW.trans (b47.mono hBW.size); replace q00 := below_cell b47 q00; replace q01 := below_cell b47 q01; replace q02 := below_cell b47 q02; replace hP0 := below_row b47 hP0; replace hp43 := hp43.later b47; replace hq43 := hq43.later b47; replace hp46 := hp46.later b47; replace hq46 := hq46.later b47)
          | (go_at_call 11; go_at_call_of 11 (Value.agg #[Value.bool false, Value.slice none 0 0, Value.slice none 0 0]); refine (H4.out _ (Seg.nil _ _) (Seg.nil _ _)).mono ?_; rintro e w48 ⟨rfl, b48⟩; replace hBW := hBW.trans (b48.mono hBW.size); replace q00 := below_cell b48 q00; replace q01 := below_cell b48 q01; replace q02 := below_cell b48 q02; replace hP0 := below_row b48 hP0; replace hp43 := hp43.later b48; replace hq43 := hq43.later b48; replace hp46 := hp46.later b48; replace hq46 := hq46.later b48))
    | fail
  go_wp2
  go_ret
  exact ⟨rfl, (hB.trans (hBW.mono hB.size))⟩

set_option maxHeartbeats 4000000 in
set_option maxRecDepth 100000 in
theorem walk_out2 (s0 : Bool) (a0 : Option Addr) (n0 c0 X0 : Nat) (b0 : Option Addr) (m0 d0 Y0 : Nat)  (w : World) (hc0 : n0 ≤ c0) (hm0 : n0 ≤ 35184372087808) (hS0 : Seg w a0 X0 n0) (hd0 : m0 ≤ d0) (hk0 : m0 ≤ 35184372087808) (hT0 : Seg w b0 Y0 m0) (hDg : Digs w) (h1 : n0 < 67108864) (h2 : 67108864 ≤ m0) :
    Calls Tryz.prog 3 #[Value.agg #[Value.bool s0, Value.slice a0 n0 c0, Value.slice b0 m0 d0]] w fun e w' => e = .returned (.bool true) ∧ Below w.heap.size w w' := by
  have W1 := hide' (fun w' (k1 : Seg w' a0 X0 n0) (k2 : Seg w' b0 Y0 m0) => within_out2 s0 a0 n0 c0 X0 b0 m0 d0 Y0 w' hc0 hm0 k1 hd0 hk0 k2 h1 h2)
  obtain ⟨Z, V, hL⟩ := low_ex (rn false 0 0) (rd 0 : Nat) (rd_ne 0)
  obtain ⟨u, hu⟩ := isTz_ex (ng Z) (am Z)
  obtain ⟨x, hx⟩ := isTx_ex (b := 10) (by omega) (by omega) (am Z)
  obtain ⟨d, hd⟩ := isTx_ex (b := 10) (by omega) (by omega) V
  obtain ⟨U, hU⟩ : ∃ U, (if V = 1 then u else u ++ ⟨#[47]⟩ ++ d) = U := ⟨_, rfl⟩
  obtain ⟨S, hSc⟩ : ∃ S, (if ng Z = true then ⟨#[40, 45, 32]⟩ ++ scr x d V ++ ⟨#[41]⟩ else scr x d V) = S := ⟨_, rfl⟩
  have T1 : ∀ w' p q, Digs w' → Seg w' p 0 0 → Seg w' q 0 0 → Calls Tryz.prog 7 #[.agg #[.bool false, .slice p 0 0, .slice q 0 0]] w' fun e w'' => e = .returned (.string U) ∧ Below w'.heap.size w' w'' := by
    intro w' p q hD k1 k2
    by_cases h : V = 1
    · rw [if_pos h] at hU; subst hU
      exact qText_one false p 0 0 0 q 0 0 0 Z V u d w' (Nat.le_refl _) (by omega) k1 (Nat.le_refl _) (by omega) k2 hL hu hd hD h
    · rw [if_neg h] at hU; subst hU
      exact qText_more false p 0 0 0 q 0 0 0 Z V u d w' (Nat.le_refl _) (by omega) k1 (Nat.le_refl _) (by omega) k2 hL hu hd hD h
  have T2 : ∀ w', Seg w' none 0 0 → Seg w' none 0 0 → Calls Tryz.prog 9 #[.agg #[.bool false, .slice none 0 0, .slice none 0 0]] w' fun e w'' => e = .returned (.string U) ∧ Below w'.heap.size w' w'' := by
    intro w' k1 k2
    by_cases h : V = 1
    · rw [if_pos h] at hU; subst hU
      exact vqText_one false none 0 0 0 none 0 0 0 Z V u d w' (Nat.le_refl _) (by omega) k1 (Nat.le_refl _) (by omega) k2 hL hu hd h
    · rw [if_neg h, assoc] at hU; subst hU
      exact vqText_more false none 0 0 0 none 0 0 0 Z V u d w' (Nat.le_refl _) (by omega) k1 (Nat.le_refl _) (by omega) k2 hL hu hd h
  have T3 : ∀ w' p q, Digs w' → Seg w' p 0 0 → Seg w' q 0 0 → Calls Tryz.prog 10 #[.agg #[.bool false, .slice p 0 0, .slice q 0 0]] w' fun e w'' => e = .returned (.string S) ∧ Below w'.heap.size w' w'' := by
    intro w' p q hD k1 k2
    by_cases h : ng Z = true
    · rw [if_pos h] at hSc; subst hSc
      exact qScript_neg false p 0 0 0 q 0 0 0 Z V x d w' (Nat.le_refl _) (by omega) k1 (Nat.le_refl _) (by omega) k2 hL h hx hd hD
    · rw [if_neg h] at hSc; subst hSc
      exact qScript_pos false p 0 0 0 q 0 0 0 Z V x d w' (Nat.le_refl _) (by omega) k1 (Nat.le_refl _) (by omega) k2 hL (by simpa using h) hx hd hD
  have T4 : ∀ w', Seg w' none 0 0 → Seg w' none 0 0 → Calls Tryz.prog 11 #[.agg #[.bool false, .slice none 0 0, .slice none 0 0]] w' fun e w'' => e = .returned (.string S) ∧ Below w'.heap.size w' w'' := by
    intro w' k1 k2
    by_cases h : ng Z = true
    · rw [if_pos h] at hSc; subst hSc
      exact vqScript_neg false none 0 0 0 none 0 0 0 Z V x d w' (Nat.le_refl _) (by omega) k1 (Nat.le_refl _) (by omega) k2 hL h hx hd
    · rw [if_neg h] at hSc; subst hSc
      exact vqScript_pos false none 0 0 0 none 0 0 0 Z V x d w' (Nat.le_refl _) (by omega) k1 (Nat.le_refl _) (by omega) k2 hL (by simpa using h) hx hd
  have e1 : (U.toList == U.toList) = true := by simp
  have e2 : (S.toList == S.toList) = true := by simp
  have H1 := hide' T1
  have H2 := hide' T2
  have H3 := hide' T3
  have H4 := hide' T4
  have HD := hide' hDg
  clear T1 T2 T3 T4 hU hSc hu hx hd hL hDg
  go_enter Tryz.func3, Tryz.ntmps3
  go_wp2_with fail
  obtain ⟨W, hW⟩ : ∃ W, (w.alloc (.cells #[.bool s0, .slice a0 n0 c0, .slice b0 m0 d0] 27)) = W := ⟨_, rfl⟩
  have q00 : W.cell? ⟨w.heap.size, 0, none⟩ = some (.bool s0) := by subst hW; go_simp
  have q01 : W.cell? ⟨w.heap.size, 1, none⟩ = some (.slice a0 n0 c0) := by subst hW; go_simp
  have q02 : W.cell? ⟨w.heap.size, 2, none⟩ = some (.slice b0 m0 d0) := by subst hW; go_simp
  have hB : Below w.heap.size w W := by subst hW; exact ((Below.refl _ _).alloc (by (try simp only [World.size_alloc]); omega) _)
  have hP0 : Row W (w.heap.size) := by
    have := row_new (w) #[.bool s0, .slice a0 n0 c0, .slice b0 m0 d0] 27
    try simp only [World.size_alloc] at this
    subst hW; exact this
  have hz : W.heap.size = w.heap.size + 1 := by subst hW; simp only [World.size_alloc]
  rw [hW]
  clear hW
  have hBW : Below W.heap.size W W := Below.refl _ _
  refine (W1.out _ (sb hS0 hB hBW) (sb hT0 hB hBW)).mono ?_
  rintro e w41 ⟨rfl, b41⟩
  replace hBW := hBW.trans (b41.mono hBW.size)
  replace q00 := below_cell b41 q00
  replace q01 := below_cell b41 q01
  replace q02 := below_cell b41 q02
  replace hP0 := below_row b41 hP0
  have hsB := hBW.size
  have hM : Mid w.heap.size W.heap.size w41 (((w41.setCell ⟨w.heap.size, 0, none⟩ (.bool false)).setCell ⟨w.heap.size, 1, none⟩ (.slice none 0 0)).setCell ⟨w.heap.size, 2, none⟩ (.slice none 0 0)) := ((((Mid.refl _ _ _).set _ _ (by omega) (by omega) _).set _ _ (by omega) (by omega) _).set _ _ (by omega) (by omega) _)
  have eM := set3_same (w := w41) (c := w.heap.size) (u0 := .bool false) (u1 := .slice none 0 0) (u2 := .slice none 0 0) q00 q01 q02
  have q00_ : ((((w41.setCell ⟨w.heap.size, 0, none⟩ (.bool false)).setCell ⟨w.heap.size, 1, none⟩ (.slice none 0 0)).setCell ⟨w.heap.size, 2, none⟩ (.slice none 0 0))).cell? ⟨w.heap.size, 0, none⟩ = some (.bool false) := eM.1
  have q01_ : ((((w41.setCell ⟨w.heap.size, 0, none⟩ (.bool false)).setCell ⟨w.heap.size, 1, none⟩ (.slice none 0 0)).setCell ⟨w.heap.size, 2, none⟩ (.slice none 0 0))).cell? ⟨w.heap.size, 1, none⟩ = some (.slice none 0 0) := eM.2.1
  have q02_ : ((((w41.setCell ⟨w.heap.size, 0, none⟩ (.bool false)).setCell ⟨w.heap.size, 1, none⟩ (.slice none 0 0)).setCell ⟨w.heap.size, 2, none⟩ (.slice none 0 0))).cell? ⟨w.heap.size, 2, none⟩ = some (.slice none 0 0) := eM.2.2
  have hP0_ := (((hP0.setCell ⟨w.heap.size, 0, none⟩ (.bool false)).setCell ⟨w.heap.size, 1, none⟩ (.slice none 0 0)).setCell ⟨w.heap.size, 2, none⟩ (.slice none 0 0))
  have fzhP0 := fun o => hP0.frozen o
  have hBn := (hB.trans (hBW.mono hB.size)).trans (hM.below (Nat.le_trans hB.size hBW.size))
  have hsM := hM.size
  clear hM eM
  go_wp2_with fail
  clear q00 q01 q02 hP0 fzhP0 hB hBW
  generalize (((w41.setCell ⟨w.heap.size, 0, none⟩ (.bool false)).setCell ⟨w.heap.size, 1, none⟩ (.slice none 0 0)).setCell ⟨w.heap.size, 2, none⟩ (.slice none 0 0)) = w41y at q00_ q01_ q02_ hP0_ hBn hsM ⊢
  have q00 := q00_
  clear q00_
  have q01 := q01_
  clear q01_
  have q02 := q02_
  clear q02_
  have hP0 := hP0_
  clear hP0_
  have hB := hBn
  clear hBn
  have hBW : Below w41y.heap.size w41y w41y := Below.refl _ _
  replace hBW := hBW.drew
  first
    | go_region_held3 (fun w' => w'.cell? ⟨w.heap.size, 0, none⟩ = some (.bool false) ∧ w'.cell? ⟨w.heap.size, 1, none⟩ = some (.slice none 0 0) ∧ w'.cell? ⟨w.heap.size, 2, none⟩ = some (.slice none 0 0) ∧ Below w.heap.size w w')
        (first | exact ⟨q00, q01, q02, hB.trans (hBW.mono hB.size)⟩ | exact kp3 b42 (by assumption) | exact kp3 b43 (by assumption) | exact kp3 b44 (by assumption) | exact kp3 b45 (by assumption) | exact kp3 b46 (by assumption) | exact kp3 b47 (by assumption) | exact kp3 b48 (by assumption) | exact kp3 (below_alloc _) (by assumption))
        (first
          | (go_at_call 6; refine (half_is _ (five (HD.out.below (hB.trans (hBW.mono hB.size))))).mono ?_; rintro e w42 ⟨rfl, b42⟩; replace hBW := hBW.trans (b42.mono hBW.size); replace q00 := below_cell b42 q00; replace q01 := below_cell b42 q01; replace q02 := below_cell b42 q02; replace hP0 := below_row b42 hP0)
          | (go_at_call 8; go_at_call_of 8 (Value.agg #[Value.bool false, Value.slice none 0 0, Value.slice none 0 0]); (fail_if_success clear b43); refine (ltwin_is false none 0 0 0 none 0 0 0 _ (Nat.le_refl _) (by omega) (Seg.nil _ _) (Nat.le_refl _) (by omega) (Seg.nil _ _)).mono ?_; rintro e w43 ⟨p43, q43, rfl, hp43, hq43⟩; have b43 := hp43.below; replace hp43 := hp43.back hBW; replace hq43 := hq43.back hBW; replace hBW := hBW.trans (b43.mono hBW.size); replace q00 := below_cell b43 q00; replace q01 := below_cell b43 q01; replace q02 := below_cell b43 q02; replace hP0 := below_row b43 hP0)
          | (go_at_call 7; go_at_call_of 7 (Value.agg #[Value.bool false, Value.slice p43 0 0, Value.slice q43 0 0]); refine (H1.out _ _ _ (HD.out.below (hB.trans (hBW.mono hB.size))) hp43.seg hq43.seg).mono ?_; rintro e w44 ⟨rfl, b44⟩; replace hBW := hBW.trans (b44.mono hBW.size); replace q00 := below_cell b44 q00; replace q01 := below_cell b44 q01; replace q02 := below_cell b44 q02; replace hP0 := below_row b44 hP0; replace hp43 := hp43.later b44; replace hq43 := hq43.later b44)
          | (go_at_call 9; go_at_call_of 9 (Value.agg #[Value.bool false, Value.slice none 0 0, Value.slice none 0 0]); refine (H2.out _ (Seg.nil _ _) (Seg.nil _ _)).mono ?_; rintro e w45 ⟨rfl, b45⟩; replace hBW := hBW.trans (b45.mono hBW.size); replace q00 := below_cell b45 q00; replace q01 := below_cell b45 q01; replace q02 := below_cell b45 q02; replace hP0 := below_row b45 hP0; replace hp43 := hp43.later b45; replace hq43 := hq43.later b45)
          | (go_at_call 8; go_at_call_of 8 (Value.agg #[Value.bool false, Value.slice none 0 0, Value.slice none 0 0]); (fail_if_success clear b46); refine (ltwin_is false none 0 0 0 none 0 0 0 _ (Nat.le_refl _) (by omega) (Seg.nil _ _) (Nat.le_refl _) (by omega) (Seg.nil _ _)).mono ?_; rintro e w46 ⟨p46, q46, rfl, hp46, hq46⟩; have b46 := hp46.below; replace hp46 := hp46.back hBW; replace hq46 := hq46.back hBW; replace hBW := hBW.trans (b46.mono hBW.size); replace q00 := below_cell b46 q00; replace q01 := below_cell b46 q01; replace q02 := below_cell b46 q02; replace hP0 := below_row b46 hP0; replace hp43 := hp43.later b46; replace hq43 := hq43.later b46)
          | (go_at_call 10; go_at_call_of 10 (Value.agg #[Value.bool false, Value.slice p46 0 0, Value.slice q46 0 0]); refine (H3.out _ _ _ (HD.out.below (hB.trans (hBW.mono hB.size))) hp46.seg hq46.seg).mono ?_; rintro e w47 ⟨rfl, b47⟩; replace hBW := hBW.trans (b47.mono hBW.size); replace q00 := below_cell b47 q00; replace q01 := below_cell b47 q01; replace q02 := below_cell b47 q02; replace hP0 := below_row b47 hP0; replace hp43 := hp43.later b47; replace hq43 := hq43.later b47; replace hp46 := hp46.later b47; replace hq46 := hq46.later b47)
          | (go_at_call 11; go_at_call_of 11 (Value.agg #[Value.bool false, Value.slice none 0 0, Value.slice none 0 0]); refine (H4.out _ (Seg.nil _ _) (Seg.nil _ _)).mono ?_; rintro e w48 ⟨rfl, b48⟩; replace hBW := hBW.trans (b48.mono hBW.size); replace q00 := below_cell b48 q00; replace q01 := below_cell b48 q01; replace q02 := below_cell b48 q02; replace hP0 := below_row b48 hP0; replace hp43 := hp43.later b48; replace hq43 := hq43.later b48; replace hp46 := hp46.later b48; replace hq46 := hq46.later b48))
    | fail
  go_wp2
  go_ret
  exact ⟨rfl, (hB.trans (hBW.mono hB.size))⟩

set_option maxHeartbeats 4000000 in
set_option maxRecDepth 100000 in
theorem walk (s0 : Bool) (a0 : Option Addr) (n0 c0 X0 : Nat) (b0 : Option Addr) (m0 d0 Y0 : Nat)  (w : World) (hc0 : n0 ≤ c0) (hm0 : n0 ≤ 35184372087808) (hS0 : Seg w a0 X0 n0) (hd0 : m0 ≤ d0) (hk0 : m0 ≤ 35184372087808) (hT0 : Seg w b0 Y0 m0) (hDg : Digs w) :
    Calls Tryz.prog 3 #[Value.agg #[Value.bool s0, Value.slice a0 n0 c0, Value.slice b0 m0 d0]] w fun e w' => e = .returned (.bool true) ∧ Below w.heap.size w w' := by
  by_cases h1 : n0 < 67108864
  · by_cases h2 : m0 < 67108864
    · exact walk_in s0 a0 n0 c0 X0 b0 m0 d0 Y0 w hc0 hm0 hS0 hd0 hk0 hT0 hDg h1 h2
    · exact walk_out2 s0 a0 n0 c0 X0 b0 m0 d0 Y0 w hc0 hm0 hS0 hd0 hk0 hT0 hDg h1 (by omega)
  · exact walk_out1 s0 a0 n0 c0 X0 b0 m0 d0 Y0 w hc0 hm0 hS0 hd0 hk0 hT0 hDg (by omega)

theorem gTab : Tryz.prog.globalNamed "fulcrum/nat.digits" = some 0 := by kernel_rfl
theorem gTabType : (Tryz.prog.globals[0]?).map (·.type) = some 97 := by kernel_rfl
theorem cellsA : Tryz.prog.cellsOf 97 = 16 := by kernel_rfl
theorem cells8 : Tryz.prog.cellsOf 5 = 1 := by kernel_rfl
theorem table {W : World} (h : laidMetH Tryz.prog Rows.ratioTextsRow.laid W) : Lib.TabIs Tryz.prog W "fulcrum/nat.digits" .u8 [48, 49, 50, 51, 52, 53, 54, 55, 56, 57, 97, 98, 99, 100, 101, 102] :=
  Lib.tabIs_of_head (rest := []) gTab gTabType Tryz.underlying97 Tryz.underlying5 cells8 cellsA h
theorem digs_of {W : World} (h : laidMetH Tryz.prog Rows.ratioTextsRow.laid W) : Digs W
  | 0, _ => (table h).cell gTab 0 (by decide)
  | 1, _ => (table h).cell gTab 1 (by decide)
  | 2, _ => (table h).cell gTab 2 (by decide)
  | 3, _ => (table h).cell gTab 3 (by decide)
  | 4, _ => (table h).cell gTab 4 (by decide)
  | 5, _ => (table h).cell gTab 5 (by decide)
  | 6, _ => (table h).cell gTab 6 (by decide)
  | 7, _ => (table h).cell gTab 7 (by decide)
  | 8, _ => (table h).cell gTab 8 (by decide)
  | 9, _ => (table h).cell gTab 9 (by decide)
  | 10, _ => (table h).cell gTab 10 (by decide)
  | 11, _ => (table h).cell gTab 11 (by decide)
  | 12, _ => (table h).cell gTab 12 (by decide)
  | 13, _ => (table h).cell gTab 13 (by decide)
  | 14, _ => (table h).cell gTab 14 (by decide)
  | 15, _ => (table h).cell gTab 15 (by decide)
  | k + 16, hk => absurd hk (by omega)

set_option maxRecDepth 100000 in
theorem contract (H : Type) (enc : TypeId × Value → H) (W : World) (base : Nat) (args : Array Value) (ds gs : List (DataW H)) (before : List MemPlace)
    (hval : ∀ (j : Nat) t v, Tryz.f3.params[j]? = some t → args[j]? = some v → Value.okWide Tryz.prog W .any base t v)
    (hW : DataW.Whole enc Tryz.prog Tryz.f3.params.toList Rows.ratioTextsSpec.vars false W args.toList ds gs before)
    (hsz : (DataW.weightsEach Tryz.prog (Tryz.f3.params.toList ++ Rows.ratioTextsSpec.plain.varTypes Tryz.prog) (ds ++ gs)).all (· ≤ reachBytes) = true) (hL : laidMetH Tryz.prog Rows.ratioTextsRow.laid W) :
    Calls Tryz.prog 3 args W fun e W' => ∃ v, e = .returned v ∧ Rows.ratioTextsSpec.post enc Tryz.prog Tryz.f3 false true false false W args v W' := by
  have hW' := hW
  obtain ⟨p, q, hA0, hV, rfl, hfz, hnd⟩ := hW
  have hA : DataW.TrodAll enc Tryz.prog W 0 (fun _ => true) true Tryz.f3.params.toList args.toList ds p := hA0
  rw [Tryz.params3] at hA hval hsz
  obtain ⟨v0, vs0, d0, ds0, p0, q0, hargs, rfl, rfl, h0, r0⟩ := trodAll_cons hA
  obtain ⟨rfl, rfl, rfl⟩ := trodAll_nil r0
  obtain rfl : args = #[v0] := by cases args; simp_all
  obtain ⟨rfl, rfl⟩ := trodVars_none hV
  have lt0 : ∀ x ∈ p0, x.block < W.heap.size := by obtain ⟨m, hm⟩ := h0; exact DataW.trod_lt m _ _ _ hm
  obtain ⟨rs0, ra0, rn0, rc0, rX0, rb0, rm0, re0, rY0, rfl, hS0, hc0, hb0, hT0, hd0, hk0, hu0, hv0⟩ := open_Rat (hval 0 27 v0 rfl rfl) h0 (sized_at 0 hsz rfl rfl)
  clear hA0
  simp only [List.append_nil] at hW'
  refine (walk rs0 ra0 rn0 rc0 rX0 rb0 rm0 re0 rY0 W hc0 hb0 hS0 hd0 hk0 hT0 (digs_of hL)).mono fun e W' ⟨he, bel⟩ => ?_
  subst he
  exact ⟨_, rfl, _, _, _, [], _, [], hW', trodAll_mk1 (shut_bool Tryz.underlying4 _), (trodAll_cons_mk (Below.trod laidOut (by kernel_rfl) (of_decide_eq_true (by kernel_rfl)) h0 bel lt0) trodAll_mk0), rfl, bel.frame _, fun h => by cases h⟩

def setCells (cs : Array Value) : Obj → Obj
  | .cells _ t frozen => .cells cs t frozen
  | o => o
set_option maxRecDepth 100000 in
noncomputable def laidWorld (os : Os) : World :=
  { World.holding Tryz.prog os ⟨#[], #[], []⟩ with heap := ((World.holding Tryz.prog os ⟨#[], #[], []⟩).heap.modify 0 (setCells #[.int .u8 48, .int .u8 49, .int .u8 50, .int .u8 51, .int .u8 52, .int .u8 53, .int .u8 54, .int .u8 55, .int .u8 56, .int .u8 57, .int .u8 97, .int .u8 98, .int .u8 99, .int .u8 100, .int .u8 101, .int .u8 102])) }
set_option maxRecDepth 100000 in
theorem laid_met (os : Os) : laidMet Tryz.prog Rows.ratioTextsRow.laid ((laidWorld os).forCall (fun _ _ => 0) ⟨#[], #[.agg #[.bool false, .slice none 0 0, .slice none 0 0]], []⟩).memory :=
  laidMet_of_run' 8 (by kernel_rfl) (by kernel_rfl)
theorem reads (os : Os) {H : Type} (enc : TypeId × Value → H) : ∃ places, DataW.whole enc Tryz.prog ((laidWorld os).forCall (fun _ _ => 0) ⟨#[], #[.agg #[.bool false, .slice none 0 0, .slice none 0 0]], []⟩).memory Tryz.f3.params.toList Rows.ratioTextsSpec.vars false [Value.agg #[.bool false, .slice none 0 0, .slice none 0 0]] 8 = some ([.agg [.agg [.lit (.bool false), .nil], .nil]], [], places) :=
  ⟨[], by kernel_rfl⟩

set_option maxRecDepth 100000 in
theorem liftedUpto (os : Os) (started : os.Started) (H : Type) (enc : TypeId × Value → H) (F : Stop.Interp) :
    ReturnsInHanded {} Tryz.checked os 3 .any ((OpenSpec.ofChange Rows.ratioTextsSpec).preRow enc Tryz.prog Tryz.f3 Rows.ratioTextsRow.domain false Rows.ratioTextsRow.laid) (((OpenSpec.ofChange Rows.ratioTextsSpec).at F).post enc Tryz.prog Tryz.f3 false true false false) := by
  obtain ⟨places, hx⟩ := reads os enc
  refine returnsInHanded_of_row (C := Tryz.checked) (s := OpenSpec.ofChange Rows.ratioTextsSpec) own started (by kernel_rfl) Tryz.func3
    (witness_row_at (enc := enc) (C := Tryz.checked) false (laidWorld os) #[.agg #[.bool false, .slice none 0 0, .slice none 0 0]] rfl (by kernel_rfl) (by kernel_rfl) (by kernel_rfl)
      (OpenSpec.preRow_of_cond 8 hx (by kernel_rfl) (fun k hk => by cases hk) (by kernel_rfl) (laid_met os))) ?_
  intro W base args ds gs before hval hW _ hk hsz hL _ _
  exact contract H enc W base args ds gs before hval hW hsz hL

theorem saidUpto : Rows.RatioTextsSaid :=
  OpenClaim.holds_of_cond 3 Tryz.f3 rfl rfl rfl rfl rfl rfl rfl ⟨rfl, rfl, rfl, rfl, rfl⟩ rfl rfl rfl rfl rfl (by kernel_rfl) Tryz.func3 (by kernel_rfl)
    (of_decide_eq_true (by kernel_rfl)) (by unfold Func.isWrapper; first | (rw [if_pos (by decide +kernel)]; kernel_rfl) | (rw [if_neg (by decide +kernel)]; exact ⟨rfl, rfl⟩))
    (fun os started H enc _ F => by rw [OpenClaim.pre_eq_preRow]; exact liftedUpto os started H enc F)

theorem plain (f : FuncId) (fn : Func) (hf : Tryz.pinned.checked.prog.funcNamed "fulcrum/fulcrumlaw03.RatioTexts" = some f) (hfn : Tryz.pinned.checked.prog.funcs[f]? = some fn) :
    false = Tryz.pinned.checked.prog.looks [] ∧ ∀ (j : Nat) t, fn.params[j]? = some t → Tryz.pinned.checked.prog.wantsStandIn t = false := by
  obtain rfl : f = 3 := Option.some.inj ((show Tryz.prog.funcNamed "fulcrum/fulcrumlaw03.RatioTexts" = some 3 by kernel_rfl).symm.trans hf) |>.symm
  obtain rfl : fn = Tryz.f3 := (Option.some.inj (Tryz.func3.symm.trans hfn)).symm
  refine ⟨by kernel_rfl, fun j t ht => ?_⟩
  rw [Tryz.params3] at ht
  have hm := Array.mem_of_getElem? ht
  simp only [List.mem_toArray, List.mem_cons, List.not_mem_nil, or_false] at hm
  subst hm
  · exact (show Tryz.prog.wantsStandIn 27 = false by kernel_rfl)

theorem cardUpto : Rows.RatioTextsCardSaid :=
  Claim7.holds_tied_plain_at .later [] _ _ _ _ saidUpto (fun _ h => by cases h) (by kernel_rfl) (fun _ h => by cases h) ratioTexts_row_tie rfl ⟨rfl, rfl⟩ (by kernel_rfl) rfl plain (by kernel_rfl)
end Go.Proofs.YtgbpjbgcnbkepaaGreatDoor.ratioTexts
namespace Go.Proofs.YtgbpjbgcnbkepaaGreatDoor
theorem ratioTexts_holds : Rows.RatioTextsCardSaid := ratioTexts.cardUpto
#print axioms ratioTexts_holds
end Go.Proofs.YtgbpjbgcnbkepaaGreatDoor
