/-
  WholeTexts: texts, of any number, and read of any text.
-/
import Derived.Test.YtancpkegjgmlmaaDoorWU7
import Derived.Test.YtancpkegjgmlmaaDoorWU8
import Derived.Test.YtancpkegjgmlmaaDoorWU6
import Derived.Test.YtancpkegjgmlmaaDoorOpenI
import Derived.Test.YtancpkegjgmlmaaDoorCards
import Derived.Test.YtancpkegjgmlmaaDoorTie
import Derived.Deep.DeepHandedRow
import Derived.Lib.LaidTab
import Derived.ChangeMaps5
namespace Go.Proofs.YtancpkegjgmlmaaDoor.wholeTexts
open Go.ChangeShapes Go.WideShapes Go.ChangeAt Go.RowKit Go.Proofs.YtancpkegjgmlmaaDoor
set_option linter.unusedVariables false

set_option maxHeartbeats 8000000 in
set_option maxRecDepth 100000 in
theorem long (s0 : Bool) (a0 : Option Addr) (len0 cap0 X0 : Nat) (u : ByteArray) (w : World) (hS0 : Seg w a0 X0 len0) (hc0 : len0 ≤ cap0) (hb0 : len0 ≤ 35184372087808) (hs : u.size ≤ 140737488351232) (h : Digs w) (hl : 223000000 < len0) : Calls Tryd.prog 3 #[.agg #[.bool s0, .slice a0 len0 cap0], .string u] w fun e w' => e = .returned (.bool true) ∧ Below w.heap.size w w' := by
  have E0 := hide' (fun w' => endless_is s0 a0 len0 cap0 w' (by omega))
  rw [decide_eq_true hl] at E0
  go_enter Tryd.func3, Tryd.ntmps3
  go_wp2_with fail
  obtain ⟨W, hW⟩ : ∃ W, (w.alloc (.cells #[.bool s0, .slice a0 len0 cap0] 25)) = W := ⟨_, rfl⟩
  have q00 : W.cell? ⟨w.heap.size, 0, none⟩ = some (.bool s0) := by subst hW; go_simp
  have q01 : W.cell? ⟨w.heap.size, 1, none⟩ = some (.slice a0 len0 cap0) := by subst hW; go_simp
  have hB : Below w.heap.size w W := by subst hW; exact ((Below.refl _ _).alloc (by (try simp only [World.size_alloc]); omega) _)
  have hz : W.heap.size = w.heap.size + 1 := by subst hW; simp only [World.size_alloc]
  rw [hW]
  clear hW
  have hBW : Below W.heap.size W W := Below.refl _ _
  refine (E0.out _).mono ?_
  rintro e w3 ⟨rfl, b3⟩
  replace hBW := hBW.trans (b3.mono hBW.size)
  replace q00 := below_cell b3 q00
  replace q01 := below_cell b3 q01
  go_wp2
  go_ret
  exact ⟨rfl, hB.trans (hBW.mono hB.size)⟩

set_option maxHeartbeats 8000000 in
set_option maxRecDepth 100000 in
theorem good (s0 : Bool) (a0 : Option Addr) (len0 cap0 X0 : Nat) (u : ByteArray) (w : World) (hS0 : Seg w a0 X0 len0) (hc0 : len0 ≤ cap0) (hb0 : len0 ≤ 35184372087808) (hs : u.size ≤ 140737488351232) (h : Digs w) (hl : ¬ 223000000 < len0) (t : Bool) (X : Nat) (ht : isTz t X u) : Calls Tryd.prog 3 #[.agg #[.bool s0, .slice a0 len0 cap0], .string u] w fun e w' => e = .returned (.bool true) ∧ Below w.heap.size w w' := by
  have E0 := hide' (fun w' => endless_is s0 a0 len0 cap0 w' (by omega))
  rw [decide_eq_false hl] at E0
  obtain ⟨v, hv⟩ := isTz_ex s0 X0
  have q1 : (v.toList == v.toList) = true := by simp
  have T0 := hide' (fun w' (k : Digs w') (g : Seg w' a0 X0 len0) => (wText_any s0 a0 len0 cap0 X0 w' k hc0 (by omega) g).mono fun e w'' ⟨x, he, hu, hb⟩ => (⟨by rw [he, hu.uniq hv], hb⟩ : e = Ending.returned (Value.string v) ∧ Below w'.heap.size w' w''))
  have T1 := hide' (fun w' (g : Seg w' a0 X0 len0) => (vText_any s0 a0 len0 cap0 X0 w' (by omega) g).mono fun e w'' ⟨x, he, hu, hb⟩ => (⟨by rw [he, hu.uniq hv], hb⟩ : e = Ending.returned (Value.string v) ∧ Below w'.heap.size w' w''))
  obtain ⟨Z, hZ⟩ : ∃ Z, sg t X = Z := ⟨_, rfl⟩
  have lz : ln (am Z) ≤ 17592186043905 := by
    obtain ⟨y, hy, e⟩ := ht
    have h1 : ln X ≤ y.size / 8 + 1 := ln_le_of_lt (Nat.lt_trans hy.2.1 (lt8 (by omega)))
    rw [← hZ, am_sg]
    have h2 : y.size ≤ u.size := by rw [e]; split; (rw [ByteArray.size_append]; omega); exact Nat.le_refl _
    omega
  have P0' := fun w' k => wParse_tz t X u w' k (by omega) ht
  have P1' := fun w' => vParse_tz t X u w' (by omega) ht
  rw [hZ] at P0' P1'
  have P0 := hide' P0'
  have P1 := hide' P1'
  clear P0' P1' ht hZ
  have HH := hide' h
  clear h hv
  go_enter Tryd.func3, Tryd.ntmps3
  go_wp2_with fail
  obtain ⟨W, hW⟩ : ∃ W, (w.alloc (.cells #[.bool s0, .slice a0 len0 cap0] 25)) = W := ⟨_, rfl⟩
  have q00 : W.cell? ⟨w.heap.size, 0, none⟩ = some (.bool s0) := by subst hW; go_simp
  have q01 : W.cell? ⟨w.heap.size, 1, none⟩ = some (.slice a0 len0 cap0) := by subst hW; go_simp
  have hB : Below w.heap.size w W := by subst hW; exact ((Below.refl _ _).alloc (by (try simp only [World.size_alloc]); omega) _)
  have hz : W.heap.size = w.heap.size + 1 := by subst hW; simp only [World.size_alloc]
  rw [hW]
  clear hW
  have hBW : Below W.heap.size W W := Below.refl _ _
  refine (E0.out _).mono ?_
  rintro e w3 ⟨rfl, b3⟩
  replace hBW := hBW.trans (b3.mono hBW.size)
  replace q00 := below_cell b3 q00
  replace q01 := below_cell b3 q01
  go_wp2_with fail
  refine (P0.out _ (HH.out.below (hB.trans (hBW.mono hB.size)))).mono ?_
  rintro e w4 ⟨a4, rfl, h4⟩
  have b4 := h4.below
  replace h4 := h4.back hBW
  replace hBW := hBW.trans (b4.mono hBW.size)
  replace q00 := below_cell b4 q00
  replace q01 := below_cell b4 q01
  go_wp2_with fail
  have l400 : ((w4.alloc (.cells #[.bool (ng Z), .slice a4 (ln (am Z)) (ln (am Z))] 25))).cell? ⟨w4.heap.size, 0, none⟩ = some (.bool (ng Z)) := by go_simp
  have l401 : ((w4.alloc (.cells #[.bool (ng Z), .slice a4 (ln (am Z)) (ln (am Z))] 25))).cell? ⟨w4.heap.size, 1, none⟩ = some (.slice a4 (ln (am Z)) (ln (am Z))) := by go_simp
  have cb4 : Below w4.heap.size w4 ((w4.alloc (.cells #[.bool (ng Z), .slice a4 (ln (am Z)) (ln (am Z))] 25))) := ((Below.refl _ _).alloc (by (try simp only [World.size_alloc]); omega) _)
  replace hBW := hBW.trans (cb4.mono hBW.size)
  replace q00 := below_cell cb4 q00
  replace q01 := below_cell cb4 q01
  replace h4 := h4.later cb4
  generalize (w4.alloc (.cells #[.bool (ng Z), .slice a4 (ln (am Z)) (ln (am Z))] 25)) = w4x at q00 q01 l400 l401 h4 hBW cb4 ⊢
  clear cb4
  refine (P1.out _).mono ?_
  rintro e w5 ⟨a5, rfl, h5⟩
  have b5 := h5.below
  replace h5 := h5.back hBW
  replace hBW := hBW.trans (b5.mono hBW.size)
  replace q00 := below_cell b5 q00
  replace q01 := below_cell b5 q01
  replace l400 := below_cell b5 l400
  replace l401 := below_cell b5 l401
  replace h4 := h4.later b5
  go_wp2_with fail
  have l500 : ((w5.alloc (.cells #[.bool (ng Z), .slice a5 (ln (am Z)) (ln (am Z))] 25))).cell? ⟨w5.heap.size, 0, none⟩ = some (.bool (ng Z)) := by go_simp
  have l501 : ((w5.alloc (.cells #[.bool (ng Z), .slice a5 (ln (am Z)) (ln (am Z))] 25))).cell? ⟨w5.heap.size, 1, none⟩ = some (.slice a5 (ln (am Z)) (ln (am Z))) := by go_simp
  have cb5 : Below w5.heap.size w5 ((w5.alloc (.cells #[.bool (ng Z), .slice a5 (ln (am Z)) (ln (am Z))] 25))) := ((Below.refl _ _).alloc (by (try simp only [World.size_alloc]); omega) _)
  replace hBW := hBW.trans (cb5.mono hBW.size)
  replace q00 := below_cell cb5 q00
  replace q01 := below_cell cb5 q01
  replace l400 := below_cell cb5 l400
  replace l401 := below_cell cb5 l401
  replace h4 := h4.later cb5
  replace h5 := h5.later cb5
  generalize (w5.alloc (.cells #[.bool (ng Z), .slice a5 (ln (am Z)) (ln (am Z))] 25)) = w5x at q00 q01 l400 l401 l500 l501 h4 h5 hBW cb5 ⊢
  clear cb5
  replace hBW := hBW.drew
  replace h4 := h4.drew
  replace h5 := h5.drew
  first
    | go_region_held3 (fun w' => w'.cell? ⟨w.heap.size, 0, none⟩ = some (.bool s0) ∧ w'.cell? ⟨w.heap.size, 1, none⟩ = some (.slice a0 len0 cap0) ∧ w'.cell? ⟨w4.heap.size, 0, none⟩ = some (.bool (ng Z)) ∧ w'.cell? ⟨w4.heap.size, 1, none⟩ = some (.slice a4 (ln (am Z)) (ln (am Z))) ∧ w'.cell? ⟨w5.heap.size, 0, none⟩ = some (.bool (ng Z)) ∧ w'.cell? ⟨w5.heap.size, 1, none⟩ = some (.slice a5 (ln (am Z)) (ln (am Z))) ∧ Below w.heap.size w w')
        (first | exact ⟨q00, q01, l400, l401, l500, l501, hB.trans (hBW.mono hB.size)⟩ | exact kp6 b6 (by assumption) | exact kp6 b7 (by assumption) | exact kp6 b8 (by assumption) | exact kp6 (below_alloc _) (by assumption))
        (first
          | (go_at_call 9; go_at_call_of 9 (Value.agg #[Value.bool (ng Z), Value.slice a4 (ln (am Z)) (ln (am Z))]); go_at_call_of 9 (Value.agg #[Value.bool (ng Z), Value.slice a5 (ln (am Z)) (ln (am Z))]); refine (sameI_is (Z) a4 a5 _ _ _ (by omega) h4.seg h5.seg).mono ?_; rintro e w6 ⟨rfl, b6⟩; replace hBW := hBW.trans (b6.mono hBW.size); replace q00 := below_cell b6 q00; replace q01 := below_cell b6 q01; replace l400 := below_cell b6 l400; replace l401 := below_cell b6 l401; replace l500 := below_cell b6 l500; replace l501 := below_cell b6 l501; replace h4 := h4.later b6; replace h5 := h5.later b6)
          | (go_at_call 10; go_at_call_of 10 (Value.agg #[Value.bool s0, Value.slice a0 len0 cap0]); refine (T0.out _ (HH.out.below (hB.trans (hBW.mono hB.size))) (sb hS0 hB hBW)).mono ?_; rintro e w7 ⟨rfl, b7⟩; replace hBW := hBW.trans (b7.mono hBW.size); replace q00 := below_cell b7 q00; replace q01 := below_cell b7 q01; replace l400 := below_cell b7 l400; replace l401 := below_cell b7 l401; replace l500 := below_cell b7 l500; replace l501 := below_cell b7 l501; replace h4 := h4.later b7; replace h5 := h5.later b7)
          | (go_at_call 11; go_at_call_of 11 (Value.agg #[Value.bool s0, Value.slice a0 len0 cap0]); refine (T1.out _ (sb hS0 hB hBW)).mono ?_; rintro e w8 ⟨rfl, b8⟩; replace hBW := hBW.trans (b8.mono hBW.size); replace q00 := below_cell b8 q00; replace q01 := below_cell b8 q01; replace l400 := below_cell b8 l400; replace l401 := below_cell b8 l401; replace l500 := below_cell b8 l500; replace l501 := below_cell b8 l501; replace h4 := h4.later b8; replace h5 := h5.later b8))
    | fail
  go_wp2
  go_ret
  exact ⟨rfl, hB.trans (hBW.mono hB.size)⟩

theorem same_none (w : World) : Calls Tryd.prog 9 #[.agg #[.bool false, .slice none 0 0], .agg #[.bool false, .slice none 0 0]] w fun e w' => e = .returned (.bool true) ∧ Below w.heap.size w w' := by
  have z : Seg w none 0 0 := ⟨by simp, fun h => absurd h (by omega)⟩
  have h := sameI_is 0 none none 0 0 w
  rw [show am 0 = 0 from rfl, ln_zero] at h
  exact h (by omega) z z
set_option maxHeartbeats 8000000 in
set_option maxRecDepth 100000 in
theorem bad (s0 : Bool) (a0 : Option Addr) (len0 cap0 X0 : Nat) (u : ByteArray) (w : World) (hS0 : Seg w a0 X0 len0) (hc0 : len0 ≤ cap0) (hb0 : len0 ≤ 35184372087808) (hs : u.size ≤ 140737488351232) (h : Digs w) (hl : ¬ 223000000 < len0) (hn : ¬ ∃ t X, isTz t X u) : Calls Tryd.prog 3 #[.agg #[.bool s0, .slice a0 len0 cap0], .string u] w fun e w' => e = .returned (.bool true) ∧ Below w.heap.size w w' := by
  have E0 := hide' (fun w' => endless_is s0 a0 len0 cap0 w' (by omega))
  rw [decide_eq_false hl] at E0
  obtain ⟨v, hv⟩ := isTz_ex s0 X0
  have q1 : (v.toList == v.toList) = true := by simp
  have T0 := hide' (fun w' (k : Digs w') (g : Seg w' a0 X0 len0) => (wText_any s0 a0 len0 cap0 X0 w' k hc0 (by omega) g).mono fun e w'' ⟨x, he, hu, hb⟩ => (⟨by rw [he, hu.uniq hv], hb⟩ : e = Ending.returned (Value.string v) ∧ Below w'.heap.size w' w''))
  have T1 := hide' (fun w' (g : Seg w' a0 X0 len0) => (vText_any s0 a0 len0 cap0 X0 w' (by omega) g).mono fun e w'' ⟨x, he, hu, hb⟩ => (⟨by rw [he, hu.uniq hv], hb⟩ : e = Ending.returned (Value.string v) ∧ Below w'.heap.size w' w''))
  have P0 := hide' (fun w' k => wParse_no u w' k (by omega) hn)
  have P1 := hide' (fun w' => vParse_no u w' (by omega) hn)
  clear hn
  have HH := hide' h
  clear h hv
  go_enter Tryd.func3, Tryd.ntmps3
  go_wp2_with fail
  obtain ⟨W, hW⟩ : ∃ W, (w.alloc (.cells #[.bool s0, .slice a0 len0 cap0] 25)) = W := ⟨_, rfl⟩
  have q00 : W.cell? ⟨w.heap.size, 0, none⟩ = some (.bool s0) := by subst hW; go_simp
  have q01 : W.cell? ⟨w.heap.size, 1, none⟩ = some (.slice a0 len0 cap0) := by subst hW; go_simp
  have hB : Below w.heap.size w W := by subst hW; exact ((Below.refl _ _).alloc (by (try simp only [World.size_alloc]); omega) _)
  have hz : W.heap.size = w.heap.size + 1 := by subst hW; simp only [World.size_alloc]
  rw [hW]
  clear hW
  have hBW : Below W.heap.size W W := Below.refl _ _
  refine (E0.out _).mono ?_
  rintro e w3 ⟨rfl, b3⟩
  replace hBW := hBW.trans (b3.mono hBW.size)
  replace q00 := below_cell b3 q00
  replace q01 := below_cell b3 q01
  go_wp2_with fail
  refine (P0.out _ (HH.out.below (hB.trans (hBW.mono hB.size)))).mono ?_
  rintro e w4 ⟨rfl, b4⟩
  replace hBW := hBW.trans (b4.mono hBW.size)
  replace q00 := below_cell b4 q00
  replace q01 := below_cell b4 q01
  go_wp2_with fail
  have l400 : ((w4.alloc (.cells #[.bool false, .slice none 0 0] 25))).cell? ⟨w4.heap.size, 0, none⟩ = some (.bool false) := by go_simp
  have l401 : ((w4.alloc (.cells #[.bool false, .slice none 0 0] 25))).cell? ⟨w4.heap.size, 1, none⟩ = some (.slice none 0 0) := by go_simp
  have cb4 : Below w4.heap.size w4 ((w4.alloc (.cells #[.bool false, .slice none 0 0] 25))) := ((Below.refl _ _).alloc (by (try simp only [World.size_alloc]); omega) _)
  replace hBW := hBW.trans (cb4.mono hBW.size)
  replace q00 := below_cell cb4 q00
  replace q01 := below_cell cb4 q01
  generalize (w4.alloc (.cells #[.bool false, .slice none 0 0] 25)) = w4x at q00 q01 l400 l401 hBW cb4 ⊢
  clear cb4
  refine (P1.out _).mono ?_
  rintro e w5 ⟨rfl, b5⟩
  replace hBW := hBW.trans (b5.mono hBW.size)
  replace q00 := below_cell b5 q00
  replace q01 := below_cell b5 q01
  replace l400 := below_cell b5 l400
  replace l401 := below_cell b5 l401
  go_wp2_with fail
  have l500 : ((w5.alloc (.cells #[.bool false, .slice none 0 0] 25))).cell? ⟨w5.heap.size, 0, none⟩ = some (.bool false) := by go_simp
  have l501 : ((w5.alloc (.cells #[.bool false, .slice none 0 0] 25))).cell? ⟨w5.heap.size, 1, none⟩ = some (.slice none 0 0) := by go_simp
  have cb5 : Below w5.heap.size w5 ((w5.alloc (.cells #[.bool false, .slice none 0 0] 25))) := ((Below.refl _ _).alloc (by (try simp only [World.size_alloc]); omega) _)
  replace hBW := hBW.trans (cb5.mono hBW.size)
  replace q00 := below_cell cb5 q00
  replace q01 := below_cell cb5 q01
  replace l400 := below_cell cb5 l400
  replace l401 := below_cell cb5 l401
  generalize (w5.alloc (.cells #[.bool false, .slice none 0 0] 25)) = w5x at q00 q01 l400 l401 l500 l501 hBW cb5 ⊢
  clear cb5
  replace hBW := hBW.drew
  first
    | go_region_held3 (fun w' => w'.cell? ⟨w.heap.size, 0, none⟩ = some (.bool s0) ∧ w'.cell? ⟨w.heap.size, 1, none⟩ = some (.slice a0 len0 cap0) ∧ w'.cell? ⟨w4.heap.size, 0, none⟩ = some (.bool false) ∧ w'.cell? ⟨w4.heap.size, 1, none⟩ = some (.slice none 0 0) ∧ w'.cell? ⟨w5.heap.size, 0, none⟩ = some (.bool false) ∧ w'.cell? ⟨w5.heap.size, 1, none⟩ = some (.slice none 0 0) ∧ Below w.heap.size w w')
        (first | exact ⟨q00, q01, l400, l401, l500, l501, hB.trans (hBW.mono hB.size)⟩ | exact kp6 b6 (by assumption) | exact kp6 b7 (by assumption) | exact kp6 b8 (by assumption) | exact kp6 (below_alloc _) (by assumption))
        (first
          | (go_at_call 9; go_at_call_of 9 (Value.agg #[Value.bool false, Value.slice none 0 0]); go_at_call_of 9 (Value.agg #[Value.bool false, Value.slice none 0 0]); refine (same_none _).mono ?_; rintro e w6 ⟨rfl, b6⟩; replace hBW := hBW.trans (b6.mono hBW.size); replace q00 := below_cell b6 q00; replace q01 := below_cell b6 q01; replace l400 := below_cell b6 l400; replace l401 := below_cell b6 l401; replace l500 := below_cell b6 l500; replace l501 := below_cell b6 l501)
          | (go_at_call 10; go_at_call_of 10 (Value.agg #[Value.bool s0, Value.slice a0 len0 cap0]); refine (T0.out _ (HH.out.below (hB.trans (hBW.mono hB.size))) (sb hS0 hB hBW)).mono ?_; rintro e w7 ⟨rfl, b7⟩; replace hBW := hBW.trans (b7.mono hBW.size); replace q00 := below_cell b7 q00; replace q01 := below_cell b7 q01; replace l400 := below_cell b7 l400; replace l401 := below_cell b7 l401; replace l500 := below_cell b7 l500; replace l501 := below_cell b7 l501)
          | (go_at_call 11; go_at_call_of 11 (Value.agg #[Value.bool s0, Value.slice a0 len0 cap0]); refine (T1.out _ (sb hS0 hB hBW)).mono ?_; rintro e w8 ⟨rfl, b8⟩; replace hBW := hBW.trans (b8.mono hBW.size); replace q00 := below_cell b8 q00; replace q01 := below_cell b8 q01; replace l400 := below_cell b8 l400; replace l401 := below_cell b8 l401; replace l500 := below_cell b8 l500; replace l501 := below_cell b8 l501))
    | fail
  go_wp2
  go_ret
  exact ⟨rfl, hB.trans (hBW.mono hB.size)⟩

set_option maxHeartbeats 8000000 in
set_option maxRecDepth 100000 in
theorem walk (s0 : Bool) (a0 : Option Addr) (len0 cap0 X0 : Nat) (u : ByteArray) (w : World) (hS0 : Seg w a0 X0 len0) (hc0 : len0 ≤ cap0) (hb0 : len0 ≤ 35184372087808) (hs : u.size ≤ 140737488351232) (h : Digs w)  : Calls Tryd.prog 3 #[.agg #[.bool s0, .slice a0 len0 cap0], .string u] w fun e w' => e = .returned (.bool true) ∧ Below w.heap.size w w' := by
  by_cases hl : 223000000 < len0
  · exact long s0 a0 len0 cap0 X0 u w hS0 hc0 hb0 hs h hl
  by_cases hn : ∃ t X, isTz t X u
  · obtain ⟨t, X, ht⟩ := hn
    exact good s0 a0 len0 cap0 X0 u w hS0 hc0 hb0 hs h hl t X ht
  · exact bad s0 a0 len0 cap0 X0 u w hS0 hc0 hb0 hs h hl hn

theorem gTab : Tryd.prog.globalNamed "fulcrum/nat.digits" = some 0 := by kernel_rfl
theorem gTabType : (Tryd.prog.globals[0]?).map (·.type) = some 72 := by kernel_rfl
theorem cellsA : Tryd.prog.cellsOf 72 = 16 := by kernel_rfl
theorem cells8 : Tryd.prog.cellsOf 5 = 1 := by kernel_rfl
theorem table {W : World} (h : laidMetH Tryd.prog Rows.wholeTextsRow.laid W) : Lib.TabIs Tryd.prog W "fulcrum/nat.digits" .u8 [48, 49, 50, 51, 52, 53, 54, 55, 56, 57, 97, 98, 99, 100, 101, 102] :=
  Lib.tabIs_of_head (rest := []) gTab gTabType Tryd.underlying72 Tryd.underlying5 cells8 cellsA h
theorem digs_of {W : World} (h : laidMetH Tryd.prog Rows.wholeTextsRow.laid W) : Digs W
  | 0, _ => (table h).cell gTab 0 (by decide)
  | 1, _ => (table h).cell gTab 1 (by decide)
  | 2, _ => (table h).cell gTab 2 (by decide)
  | 3, _ => (table h).cell gTab 3 (by decide)
  | 4, _ => (table h).cell gTab 4 (by decide)
  | 5, _ => (table h).cell gTab 5 (by decide)
  | 6, _ => (table h).cell gTab 6 (by decide)
  | 7, _ => (table h).cell gTab 7 (by decide)
  | 8, _ => (table h).cell gTab 8 (by decide)
  | 9, _ => (table h).cell gTab 9 (by decide)
  | 10, _ => (table h).cell gTab 10 (by decide)
  | 11, _ => (table h).cell gTab 11 (by decide)
  | 12, _ => (table h).cell gTab 12 (by decide)
  | 13, _ => (table h).cell gTab 13 (by decide)
  | 14, _ => (table h).cell gTab 14 (by decide)
  | 15, _ => (table h).cell gTab 15 (by decide)
  | k + 16, hk => absurd hk (by omega)

set_option maxRecDepth 100000 in
theorem contract (H : Type) (enc : TypeId × Value → H) (W : World) (base : Nat) (args : Array Value) (ds gs : List (DataW H)) (before : List MemPlace)
    (hval : ∀ (j : Nat) t v, Tryd.f3.params[j]? = some t → args[j]? = some v → Value.okWide Tryd.prog W .any base t v)
    (hW : DataW.Whole enc Tryd.prog Tryd.f3.params.toList Rows.wholeTextsSpec.vars false W args.toList ds gs before)
    (hsz : (DataW.weightsEach Tryd.prog (Tryd.f3.params.toList ++ Rows.wholeTextsSpec.plain.varTypes Tryd.prog) (ds ++ gs)).all (· ≤ reachBytes) = true) (hL : laidMetH Tryd.prog Rows.wholeTextsRow.laid W) :
    Calls Tryd.prog 3 args W fun e W' => ∃ v, e = .returned v ∧ Rows.wholeTextsSpec.post enc Tryd.prog Tryd.f3 false true false false W args v W' := by
  have hW' := hW
  obtain ⟨p, q, hA0, hV, rfl, hfz, hnd⟩ := hW
  have hA : DataW.TrodAll enc Tryd.prog W 0 (fun _ => true) true Tryd.f3.params.toList args.toList ds p := hA0
  rw [Tryd.params3] at hA hval hsz
  obtain ⟨v0, vs0, d0, ds0, p0, q0, hargs, rfl, rfl, h0, r0⟩ := trodAll_cons hA
  obtain ⟨v1, vs1, d1, ds1, p1, q1, rfl, rfl, rfl, h1, r1⟩ := trodAll_cons r0
  obtain ⟨rfl, rfl, rfl⟩ := trodAll_nil r1
  obtain rfl : args = #[v0, v1] := by cases args; simp_all
  obtain ⟨rfl, rfl⟩ := trodVars_none hV
  have lt0 : ∀ x ∈ p0, x.block < W.heap.size := by obtain ⟨m, hm⟩ := h0; exact DataW.trod_lt m _ _ _ hm
  obtain ⟨s0, a0, len0, cap0, X0, rfl, hS0, hc0, hb0, hu0⟩ := open_Int (hval 0 25 v0 rfl rfl) h0 (sized_at 0 hsz rfl rfl)
  obtain ⟨n1, rfl, rfl, rfl, w1⟩ := Go.ChangeMaps.open_string Tryd.underlying9 (hval 1 9 v1 rfl rfl) h1
  have sz1 : n1.size = n1.data.toList.length := by rw [Array.length_toList]; rfl
  have ss1 := sized_string hsz (j := 1) (t := 9) rfl rfl
  rw [show reachBytes = 140737488351232 from rfl] at ss1
  clear hA0
  simp only [List.append_nil] at hW'
  refine (walk s0 a0 len0 cap0 X0 n1 W hS0 hc0 hb0 (by omega) (digs_of hL)).mono fun e W' ⟨he, bel⟩ => ?_
  subst he
  exact ⟨_, rfl, _, _, _, [], _, [], hW', trodAll_mk1 (shut_bool Tryd.underlying4 _), (trodAll_cons_mk (Below.trod laidOut (by kernel_rfl) (of_decide_eq_true (by kernel_rfl)) h0 bel lt0) (trodAll_cons_mk (Go.ChangeMaps.shut_string Tryd.underlying9 w1) trodAll_mk0)), rfl, bel.frame _, fun h => by cases h⟩

def setCells (cs : Array Value) : Obj → Obj
  | .cells _ t frozen => .cells cs t frozen
  | o => o
set_option maxRecDepth 100000 in
noncomputable def laidWorld (os : Os) : World :=
  { World.holding Tryd.prog os ⟨#[], #[], []⟩ with heap := ((World.holding Tryd.prog os ⟨#[], #[], []⟩).heap.modify 0 (setCells #[.int .u8 48, .int .u8 49, .int .u8 50, .int .u8 51, .int .u8 52, .int .u8 53, .int .u8 54, .int .u8 55, .int .u8 56, .int .u8 57, .int .u8 97, .int .u8 98, .int .u8 99, .int .u8 100, .int .u8 101, .int .u8 102])) }
set_option maxRecDepth 100000 in
theorem laid_met (os : Os) : laidMet Tryd.prog Rows.wholeTextsRow.laid ((laidWorld os).forCall (fun _ _ => 0) ⟨#[], #[.agg #[.bool false, .slice none 0 0], .string ByteArray.empty], []⟩).memory :=
  laidMet_of_run' 8 (by kernel_rfl) (by kernel_rfl)
theorem reads (os : Os) {H : Type} (enc : TypeId × Value → H) : ∃ places, DataW.whole enc Tryd.prog ((laidWorld os).forCall (fun _ _ => 0) ⟨#[], #[.agg #[.bool false, .slice none 0 0], .string ByteArray.empty], []⟩).memory Tryd.f3.params.toList Rows.wholeTextsSpec.vars false [Value.agg #[.bool false, .slice none 0 0], Value.string ByteArray.empty] 8 = some ([.agg [.lit (.bool false), .nil], .lit (.string [])], [], places) :=
  ⟨[], by kernel_rfl⟩

set_option maxRecDepth 100000 in
theorem liftedUpto (os : Os) (started : os.Started) (H : Type) (enc : TypeId × Value → H) (F : Stop.Interp) :
    ReturnsInHanded {} Tryd.checked os 3 .any ((OpenSpec.ofChange Rows.wholeTextsSpec).preRow enc Tryd.prog Tryd.f3 Rows.wholeTextsRow.domain false Rows.wholeTextsRow.laid) (((OpenSpec.ofChange Rows.wholeTextsSpec).at F).post enc Tryd.prog Tryd.f3 false true false false) := by
  obtain ⟨places, hx⟩ := reads os enc
  refine returnsInHanded_of_row (C := Tryd.checked) (s := OpenSpec.ofChange Rows.wholeTextsSpec) own started (by kernel_rfl) Tryd.func3
    (witness_row_at (enc := enc) (C := Tryd.checked) false (laidWorld os) #[.agg #[.bool false, .slice none 0 0], .string ByteArray.empty] rfl (by kernel_rfl) (by kernel_rfl) (by kernel_rfl)
      (OpenSpec.preRow_of_cond 8 hx (by kernel_rfl) (fun k hk => by cases hk) (by kernel_rfl) (laid_met os))) ?_
  intro W base args ds gs before hval hW _ hk hsz hL _ _
  exact contract H enc W base args ds gs before hval hW hsz hL

theorem saidUpto : Rows.WholeTextsSaid :=
  OpenClaim.holds_of_cond 3 Tryd.f3 rfl rfl rfl rfl rfl rfl rfl ⟨rfl, rfl, rfl, rfl, rfl⟩ rfl rfl rfl rfl rfl (by kernel_rfl) Tryd.func3 (by kernel_rfl)
    (of_decide_eq_true (by kernel_rfl)) (by unfold Func.isWrapper; first | (rw [if_pos (by decide +kernel)]; kernel_rfl) | (rw [if_neg (by decide +kernel)]; exact ⟨rfl, rfl⟩))
    (fun os started H enc _ F => by rw [OpenClaim.pre_eq_preRow]; exact liftedUpto os started H enc F)

theorem plain (f : FuncId) (fn : Func) (hf : Tryd.pinned.checked.prog.funcNamed "fulcrum/fulcrumlaw02.WholeTexts" = some f) (hfn : Tryd.pinned.checked.prog.funcs[f]? = some fn) :
    false = Tryd.pinned.checked.prog.looks [] ∧ ∀ (j : Nat) t, fn.params[j]? = some t → Tryd.pinned.checked.prog.wantsStandIn t = false := by
  obtain rfl : f = 3 := Option.some.inj ((show Tryd.prog.funcNamed "fulcrum/fulcrumlaw02.WholeTexts" = some 3 by kernel_rfl).symm.trans hf) |>.symm
  obtain rfl : fn = Tryd.f3 := (Option.some.inj (Tryd.func3.symm.trans hfn)).symm
  refine ⟨by kernel_rfl, fun j t ht => ?_⟩
  rw [Tryd.params3] at ht
  have hm := Array.mem_of_getElem? ht
  simp only [List.mem_toArray, List.mem_cons, List.not_mem_nil, or_false] at hm
  rcases hm with rfl | rfl
  · exact (show Tryd.prog.wantsStandIn 25 = false by kernel_rfl)
  · exact (show Tryd.prog.wantsStandIn 9 = false by kernel_rfl)

theorem cardUpto : Rows.WholeTextsCardSaid :=
  Claim7.holds_tied_plain_at .later [] _ _ _ _ saidUpto (fun _ h => by cases h) (by kernel_rfl) (fun _ h => by cases h) wholeTexts_row_tie rfl ⟨rfl, rfl⟩ (by kernel_rfl) rfl plain (by kernel_rfl)
end Go.Proofs.YtancpkegjgmlmaaDoor.wholeTexts
namespace Go.Proofs.YtancpkegjgmlmaaDoor
theorem wholeTexts_holds : Rows.WholeTextsCardSaid := wholeTexts.cardUpto
#print axioms wholeTexts_holds
end Go.Proofs.YtancpkegjgmlmaaDoor
