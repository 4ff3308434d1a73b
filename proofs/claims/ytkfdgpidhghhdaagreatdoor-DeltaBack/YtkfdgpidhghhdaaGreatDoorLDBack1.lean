/-
  DeltaBack: Parse of Text is the number.
-/
import Derived.Test.YtkfdgpidhghhdaaGreatDoorWE8
import Derived.Test.YtkfdgpidhghhdaaGreatDoorWD1
import Derived.Test.YtkfdgpidhghhdaaGreatDoorWV8
import Derived.Test.YtkfdgpidhghhdaaGreatDoorOpenD
import Derived.Test.YtkfdgpidhghhdaaGreatDoorCards
import Derived.Test.YtkfdgpidhghhdaaGreatDoorTie
import Derived.Deep.DeepHandedRow
import Derived.Lib.LaidTab
namespace Go.Proofs.YtkfdgpidhghhdaaGreatDoor.deltaBack
open Go.ChangeShapes Go.WideShapes Go.ChangeAt Go.RowKit Go.Proofs.YtkfdgpidhghhdaaGreatDoor
set_option linter.unusedVariables false

theorem five {w : World} (h : Digs w) : Digits w := ⟨h 0 (by omega), h 1 (by omega), h 2 (by omega), h 3 (by omega), h 4 (by omega)⟩
theorem set6_far {w : World} {b c o : Nat} {u0 u1 u2 u3 u4 u5 : Value} (hne : c ≠ b) : ((((((w.setCell ⟨c, 0, none⟩ u0).setCell ⟨c, 1, none⟩ u1).setCell ⟨c, 2, none⟩ u2).setCell ⟨c, 3, none⟩ u3).setCell ⟨c, 4, none⟩ u4).setCell ⟨c, 5, none⟩ u5).cell? ⟨b, o, none⟩ = w.cell? ⟨b, o, none⟩ := by
  rw [World.cell?_setCell_far _ _ _ _ (by exact hne), World.cell?_setCell_far _ _ _ _ (by exact hne), World.cell?_setCell_far _ _ _ _ (by exact hne), World.cell?_setCell_far _ _ _ _ (by exact hne), World.cell?_setCell_far _ _ _ _ (by exact hne), World.cell?_setCell_far _ _ _ _ (by exact hne)]
theorem set6_same {w : World} {c : Nat} {u0 u1 u2 u3 u4 u5 z0 z1 z2 z3 z4 z5 : Value} (h0 : w.cell? ⟨c, 0, none⟩ = some z0) (h1 : w.cell? ⟨c, 1, none⟩ = some z1) (h2 : w.cell? ⟨c, 2, none⟩ = some z2) (h3 : w.cell? ⟨c, 3, none⟩ = some z3) (h4 : w.cell? ⟨c, 4, none⟩ = some z4) (h5 : w.cell? ⟨c, 5, none⟩ = some z5) : ((((((w.setCell ⟨c, 0, none⟩ u0).setCell ⟨c, 1, none⟩ u1).setCell ⟨c, 2, none⟩ u2).setCell ⟨c, 3, none⟩ u3).setCell ⟨c, 4, none⟩ u4).setCell ⟨c, 5, none⟩ u5).cell? ⟨c, 0, none⟩ = some u0 ∧ ((((((w.setCell ⟨c, 0, none⟩ u0).setCell ⟨c, 1, none⟩ u1).setCell ⟨c, 2, none⟩ u2).setCell ⟨c, 3, none⟩ u3).setCell ⟨c, 4, none⟩ u4).setCell ⟨c, 5, none⟩ u5).cell? ⟨c, 1, none⟩ = some u1 ∧ ((((((w.setCell ⟨c, 0, none⟩ u0).setCell ⟨c, 1, none⟩ u1).setCell ⟨c, 2, none⟩ u2).setCell ⟨c, 3, none⟩ u3).setCell ⟨c, 4, none⟩ u4).setCell ⟨c, 5, none⟩ u5).cell? ⟨c, 2, none⟩ = some u2 ∧ ((((((w.setCell ⟨c, 0, none⟩ u0).setCell ⟨c, 1, none⟩ u1).setCell ⟨c, 2, none⟩ u2).setCell ⟨c, 3, none⟩ u3).setCell ⟨c, 4, none⟩ u4).setCell ⟨c, 5, none⟩ u5).cell? ⟨c, 3, none⟩ = some u3 ∧ ((((((w.setCell ⟨c, 0, none⟩ u0).setCell ⟨c, 1, none⟩ u1).setCell ⟨c, 2, none⟩ u2).setCell ⟨c, 3, none⟩ u3).setCell ⟨c, 4, none⟩ u4).setCell ⟨c, 5, none⟩ u5).cell? ⟨c, 4, none⟩ = some u4 ∧ ((((((w.setCell ⟨c, 0, none⟩ u0).setCell ⟨c, 1, none⟩ u1).setCell ⟨c, 2, none⟩ u2).setCell ⟨c, 3, none⟩ u3).setCell ⟨c, 4, none⟩ u4).setCell ⟨c, 5, none⟩ u5).cell? ⟨c, 5, none⟩ = some u5 := by
  refine ⟨?_, ?_, ?_, ?_, ?_, ?_⟩
  · rw [World.cell?_setCell_other _ _ _ _ (fun e => by simp at e), World.cell?_setCell_other _ _ _ _ (fun e => by simp at e), World.cell?_setCell_other _ _ _ _ (fun e => by simp at e), World.cell?_setCell_other _ _ _ _ (fun e => by simp at e), World.cell?_setCell_other _ _ _ _ (fun e => by simp at e)]; exact World.cell?_setCell_same (u := z0) _ _ _ (by exact h0)
  · rw [World.cell?_setCell_other _ _ _ _ (fun e => by simp at e), World.cell?_setCell_other _ _ _ _ (fun e => by simp at e), World.cell?_setCell_other _ _ _ _ (fun e => by simp at e), World.cell?_setCell_other _ _ _ _ (fun e => by simp at e)]; exact World.cell?_setCell_same (u := z1) _ _ _ (by rw [World.cell?_setCell_other _ _ _ _ (fun e => by simp at e)]; exact h1)
  · rw [World.cell?_setCell_other _ _ _ _ (fun e => by simp at e), World.cell?_setCell_other _ _ _ _ (fun e => by simp at e), World.cell?_setCell_other _ _ _ _ (fun e => by simp at e)]; exact World.cell?_setCell_same (u := z2) _ _ _ (by rw [World.cell?_setCell_other _ _ _ _ (fun e => by simp at e), World.cell?_setCell_other _ _ _ _ (fun e => by simp at e)]; exact h2)
  · rw [World.cell?_setCell_other _ _ _ _ (fun e => by simp at e), World.cell?_setCell_other _ _ _ _ (fun e => by simp at e)]; exact World.cell?_setCell_same (u := z3) _ _ _ (by rw [World.cell?_setCell_other _ _ _ _ (fun e => by simp at e), World.cell?_setCell_other _ _ _ _ (fun e => by simp at e), World.cell?_setCell_other _ _ _ _ (fun e => by simp at e)]; exact h3)
  · rw [World.cell?_setCell_other _ _ _ _ (fun e => by simp at e)]; exact World.cell?_setCell_same (u := z4) _ _ _ (by rw [World.cell?_setCell_other _ _ _ _ (fun e => by simp at e), World.cell?_setCell_other _ _ _ _ (fun e => by simp at e), World.cell?_setCell_other _ _ _ _ (fun e => by simp at e), World.cell?_setCell_other _ _ _ _ (fun e => by simp at e)]; exact h4)
  · exact World.cell?_setCell_same (u := z5) _ _ _ (by rw [World.cell?_setCell_other _ _ _ _ (fun e => by simp at e), World.cell?_setCell_other _ _ _ _ (fun e => by simp at e), World.cell?_setCell_other _ _ _ _ (fun e => by simp at e), World.cell?_setCell_other _ _ _ _ (fun e => by simp at e), World.cell?_setCell_other _ _ _ _ (fun e => by simp at e)]; exact h5)
set_option maxHeartbeats 8000000 in
set_option maxRecDepth 100000 in
theorem within_in (s0 : Bool) (a0 : Option Addr) (n0 c0 X0 : Nat) (b0 : Option Addr) (m0 d0 Y0 : Nat) (s1 : Bool) (a1 : Option Addr) (n1 c1 X1 : Nat) (b1 : Option Addr) (m1 d1 Y1 : Nat) (w : World) (hc0 : n0 ≤ c0) (hm0 : n0 ≤ 35184372087808) (hS0 : Seg w a0 X0 n0) (hd0 : m0 ≤ d0) (hk0 : m0 ≤ 35184372087808) (hT0 : Seg w b0 Y0 m0) (hc1 : n1 ≤ c1) (hm1 : n1 ≤ 35184372087808) (hS1 : Seg w a1 X1 n1) (hd1 : m1 ≤ d1) (hk1 : m1 ≤ 35184372087808) (hT1 : Seg w b1 Y1 m1) (h1 : n0 + m0 + n1 + m1 < 67108864) :
    Calls Tryz.prog 4 #[Value.agg #[Value.bool s0, Value.slice a0 n0 c0, Value.slice b0 m0 d0, Value.bool s1, Value.slice a1 n1 c1, Value.slice b1 m1 d1]] w fun e w' => e = .returned (Value.agg #[Value.bool s0, Value.slice a0 n0 c0, Value.slice b0 m0 d0, Value.bool s1, Value.slice a1 n1 c1, Value.slice b1 m1 d1]) ∧ Below w.heap.size w w' := by
  have w1 : IntKind.i64.wrap ((n0 : Int) + (m0 : Int)) = (n0 : Int) + (m0 : Int) := by rw [IntKind.wrap_i64]; omega
  have w2 : IntKind.i64.wrap ((n0 : Int) + (m0 : Int) + (n1 : Int)) = (n0 : Int) + (m0 : Int) + (n1 : Int) := by rw [IntKind.wrap_i64]; omega
  have w3 : IntKind.i64.wrap ((n0 : Int) + (m0 : Int) + (n1 : Int) + (m1 : Int)) = (n0 : Int) + (m0 : Int) + (n1 : Int) + (m1 : Int) := by rw [IntKind.wrap_i64]; omega
  have e1 : ¬ ((67108864 : Int) ≤ (n0 : Int) + (m0 : Int) + (n1 : Int) + (m1 : Int)) := by omega
  have e4 : ((n0 : Int) + (m0 : Int) + (n1 : Int) + (m1 : Int) < 67108864) := by omega
  go_enter Tryz.func4, Tryz.ntmps4
  go_wp2_with fail
  refine bodyPost_ret (v := .agg #[.bool s0, .slice a0 n0 c0, .slice b0 m0 d0, .bool s1, .slice a1 n1 c1, .slice b1 m1 d1]) (by rw [results_cell rfl]; go_simp) rfl ?_
  exact ⟨rfl, ((Below.refl _ _).alloc (Nat.le_refl _) _).alloc (by rw [World.size_alloc]; omega) _⟩

set_option maxHeartbeats 8000000 in
set_option maxRecDepth 100000 in
theorem within_out (s0 : Bool) (a0 : Option Addr) (n0 c0 X0 : Nat) (b0 : Option Addr) (m0 d0 Y0 : Nat) (s1 : Bool) (a1 : Option Addr) (n1 c1 X1 : Nat) (b1 : Option Addr) (m1 d1 Y1 : Nat) (w : World) (hc0 : n0 ≤ c0) (hm0 : n0 ≤ 35184372087808) (hS0 : Seg w a0 X0 n0) (hd0 : m0 ≤ d0) (hk0 : m0 ≤ 35184372087808) (hT0 : Seg w b0 Y0 m0) (hc1 : n1 ≤ c1) (hm1 : n1 ≤ 35184372087808) (hS1 : Seg w a1 X1 n1) (hd1 : m1 ≤ d1) (hk1 : m1 ≤ 35184372087808) (hT1 : Seg w b1 Y1 m1) (h1 : 67108864 ≤ n0 + m0 + n1 + m1) :
    Calls Tryz.prog 4 #[Value.agg #[Value.bool s0, Value.slice a0 n0 c0, Value.slice b0 m0 d0, Value.bool s1, Value.slice a1 n1 c1, Value.slice b1 m1 d1]] w fun e w' => e = .returned (Value.agg #[Value.bool false, Value.slice none 0 0, Value.slice none 0 0, Value.bool false, Value.slice none 0 0, Value.slice none 0 0]) ∧ Below w.heap.size w w' := by
  have w1 : IntKind.i64.wrap ((n0 : Int) + (m0 : Int)) = (n0 : Int) + (m0 : Int) := by rw [IntKind.wrap_i64]; omega
  have w2 : IntKind.i64.wrap ((n0 : Int) + (m0 : Int) + (n1 : Int)) = (n0 : Int) + (m0 : Int) + (n1 : Int) := by rw [IntKind.wrap_i64]; omega
  have w3 : IntKind.i64.wrap ((n0 : Int) + (m0 : Int) + (n1 : Int) + (m1 : Int)) = (n0 : Int) + (m0 : Int) + (n1 : Int) + (m1 : Int) := by rw [IntKind.wrap_i64]; omega
  have e1 : ((67108864 : Int) ≤ (n0 : Int) + (m0 : Int) + (n1 : Int) + (m1 : Int)) := by omega
  have e4 : ¬ ((n0 : Int) + (m0 : Int) + (n1 : Int) + (m1 : Int) < 67108864) := by omega
  go_enter Tryz.func4, Tryz.ntmps4
  go_wp2_with fail
  refine bodyPost_ret (v := .agg #[.bool false, .slice none 0 0, .slice none 0 0, .bool false, .slice none 0 0, .slice none 0 0]) (by rw [results_cell rfl]; go_simp) rfl ?_
  exact ⟨rfl, ((Below.refl _ _).alloc (Nat.le_refl _) _).alloc (by rw [World.size_alloc]; omega) _⟩

set_option maxHeartbeats 8000000 in
set_option maxRecDepth 100000 in
theorem walk_in (s0 : Bool) (a0 : Option Addr) (n0 c0 X0 : Nat) (b0 : Option Addr) (m0 d0 Y0 : Nat) (s1 : Bool) (a1 : Option Addr) (n1 c1 X1 : Nat) (b1 : Option Addr) (m1 d1 Y1 : Nat) (w : World) (hc0 : n0 ≤ c0) (hm0 : n0 ≤ 35184372087808) (hS0 : Seg w a0 X0 n0) (hd0 : m0 ≤ d0) (hk0 : m0 ≤ 35184372087808) (hT0 : Seg w b0 Y0 m0) (hc1 : n1 ≤ c1) (hm1 : n1 ≤ 35184372087808) (hS1 : Seg w a1 X1 n1) (hd1 : m1 ≤ d1) (hk1 : m1 ≤ 35184372087808) (hT1 : Seg w b1 Y1 m1) (hDg : Digs w) (h1 : n0 + m0 + n1 + m1 < 67108864) :
    Calls Tryz.prog 3 #[Value.agg #[Value.bool s0, Value.slice a0 n0 c0, Value.slice b0 m0 d0, Value.bool s1, Value.slice a1 n1 c1, Value.slice b1 m1 d1]] w fun e w' => e = .returned (.bool true) ∧ Below w.heap.size w w' := by
  have W1 := hide' (fun w' (k1 : Seg w' a0 X0 n0) (k2 : Seg w' b0 Y0 m0) (k3 : Seg w' a1 X1 n1) (k4 : Seg w' b1 Y1 m1) => within_in s0 a0 n0 c0 X0 b0 m0 d0 Y0 s1 a1 n1 c1 X1 b1 m1 d1 Y1 w' hc0 hm0 k1 hd0 hk0 k2 hc1 hm1 k3 hd1 hk1 k4 h1)
  obtain ⟨ZA, VA, hLA⟩ := low_ex (rn s0 X0 Y0) (rd Y0 : Nat) (rd_ne Y0)
  obtain ⟨uA, huA⟩ := isTz_ex (ng ZA) (am ZA)
  obtain ⟨dA, hdA⟩ := isTx_ex (b := 10) (by omega) (by omega) VA
  obtain ⟨ZB, VB, hLB⟩ := low_ex (rn s1 X1 Y1) (rd Y1 : Nat) (rd_ne Y1)
  obtain ⟨uB, huB⟩ := isTz_ex (ng ZB) (am ZB)
  obtain ⟨dB, hdB⟩ := isTx_ex (b := 10) (by omega) (by omega) VB
  obtain ⟨lA, lVA⟩ := low_ln hS0.1 hT0.1 hLA
  obtain ⟨lB, lVB⟩ := low_ln hS1.1 hT1.1 hLB
  have hC := hLB.sgn (by have := rd_pos Y1; omega)
  obtain ⟨U, T1, T2⟩ : ∃ U : ByteArray, (∀ w' p q r t, Digs w' → Seg w' p X0 n0 → Seg w' q Y0 m0 → Seg w' r X1 n1 → Seg w' t Y1 m1 → Calls Tryz.prog 6 #[.agg #[.bool s0, .slice p n0 n0, .slice q m0 m0, .bool s1, .slice r n1 n1, .slice t m1 m1]] w' fun e w'' => e = .returned (.string U) ∧ Below w'.heap.size w' w'') ∧ (∀ w', Digs w' → Calls Tryz.prog 5 #[.string U] w' fun e w'' => ∃ p q r t, e = .returned (.tuple #[.agg #[.bool (ng ZA), .slice p (ln (am ZA)) (ln (am ZA)), .slice q (ln VA) (ln VA), .bool (ng ZB), .slice r (ln (am ZB)) (ln (am ZB)), .slice t (ln VB) (ln VB)], .int .i64 0]) ∧ Below w'.heap.size w' w'' ∧ Seg w'' p (am ZA) (ln (am ZA)) ∧ Seg w'' q VA (ln VA) ∧ Seg w'' r (am ZB) (ln (am ZB)) ∧ Seg w'' t VB (ln VB)) := by
    rcases Int.lt_trichotomy ZB 0 with h | h | h
    · exact ⟨_, fun w' p q r t hD k1 k2 k3 k4 => ddText_n s0 p n0 n0 X0 q m0 m0 Y0 s1 r n1 n1 X1 t m1 m1 Y1 ZA VA uA dA ZB VB uB dB w' (Nat.le_refl _) (by omega) k1 (Nat.le_refl _) (by omega) k2 (Nat.le_refl _) (by omega) k3 (Nat.le_refl _) (by omega) k4 hLA huA hdA hLB huB hdB (hC.symm.trans (sgn_neg h)) hD, fun w' hD => own_n ZA VA uA dA ZB VB uB dB (by omega) (by omega) (by omega) (by omega) hLA.pos hLA.cop hLB.pos hLB.cop huA hdA huB hdB h w' hD⟩
    · exact ⟨_, fun w' p q r t hD k1 k2 k3 k4 => ddText_z s0 p n0 n0 X0 q m0 m0 Y0 s1 r n1 n1 X1 t m1 m1 Y1 ZA VA uA dA ZB VB uB dB w' (Nat.le_refl _) (by omega) k1 (Nat.le_refl _) (by omega) k2 (Nat.le_refl _) (by omega) k3 (Nat.le_refl _) (by omega) k4 hLA huA hdA hLB huB hdB (hC.symm.trans (by rw [h]; rfl)) hD, fun w' hD => own_z ZA VA uA dA ZB VB uB dB (by omega) (by omega) (by omega) (by omega) hLA.pos hLA.cop hLB.pos hLB.cop huA hdA huB hdB h w' hD⟩
    · exact ⟨_, fun w' p q r t hD k1 k2 k3 k4 => ddText_p s0 p n0 n0 X0 q m0 m0 Y0 s1 r n1 n1 X1 t m1 m1 Y1 ZA VA uA dA ZB VB uB dB w' (Nat.le_refl _) (by omega) k1 (Nat.le_refl _) (by omega) k2 (Nat.le_refl _) (by omega) k3 (Nat.le_refl _) (by omega) k4 hLA huA hdA hLB huB hdB (hC.symm.trans (sgn_pos h)) hD, fun w' hD => own_p ZA VA uA dA ZB VB uB dB (by omega) (by omega) (by omega) (by omega) hLA.pos hLA.cop hLB.pos hLB.cop huA hdA huB hdB h w' hD⟩
  have GN := hide' (fun w' p q r t k1 k2 k3 k4 => dNorm_is s0 p n0 n0 X0 q m0 m0 Y0 s1 r n1 n1 X1 t m1 m1 Y1 ZA VA ZB VB w' (Nat.le_refl _) (by omega) k1 (Nat.le_refl _) (by omega) k2 (Nat.le_refl _) (by omega) k3 (Nat.le_refl _) (by omega) k4 hLA hLB)
  have H1 := hide' T1
  have H2 := hide' T2
  have HD := hide' hDg
  clear T1 T2 huA hdA hLA huB hdB hLB hDg hC
  go_enter Tryz.func3, Tryz.ntmps3
  go_wp2_with fail
  obtain ⟨W, hW⟩ : ∃ W, (w.alloc (.cells #[.bool s0, .slice a0 n0 c0, .slice b0 m0 d0, .bool s1, .slice a1 n1 c1, .slice b1 m1 d1] 29)) = W := ⟨_, rfl⟩
  have q00 : W.cell? ⟨w.heap.size, 0, none⟩ = some (.bool s0) := by subst hW; go_simp
  have q01 : W.cell? ⟨w.heap.size, 1, none⟩ = some (.slice a0 n0 c0) := by subst hW; go_simp
  have q02 : W.cell? ⟨w.heap.size, 2, none⟩ = some (.slice b0 m0 d0) := by subst hW; go_simp
  have q03 : W.cell? ⟨w.heap.size, 3, none⟩ = some (.bool s1) := by subst hW; go_simp
  have q04 : W.cell? ⟨w.heap.size, 4, none⟩ = some (.slice a1 n1 c1) := by subst hW; go_simp
  have q05 : W.cell? ⟨w.heap.size, 5, none⟩ = some (.slice b1 m1 d1) := by subst hW; go_simp
  have hB : Below w.heap.size w W := by subst hW; exact ((Below.refl _ _).alloc (by (try simp only [World.size_alloc]); omega) _)
  have hP0 : Row W (w.heap.size) := by
    have := row_new (w) #[.bool s0, .slice a0 n0 c0, .slice b0 m0 d0, .bool s1, .slice a1 n1 c1, .slice b1 m1 d1] 29
    try simp only [World.size_alloc] at this
    subst hW; exact this
  have hz : W.heap.size = w.heap.size + 1 := by subst hW; simp only [World.size_alloc]
  rw [hW]
  clear hW
  have hBW : Below W.heap.size W W := Below.refl _ _
  refine (W1.out _ (sb hS0 hB hBW) (sb hT0 hB hBW) (sb hS1 hB hBW) (sb hT1 hB hBW)).mono ?_
  rintro e w41 ⟨rfl, b41⟩
  replace hBW := hBW.trans (b41.mono hBW.size)
  replace q00 := below_cell b41 q00
  replace q01 := below_cell b41 q01
  replace q02 := below_cell b41 q02
  replace q03 := below_cell b41 q03
  replace q04 := below_cell b41 q04
  replace q05 := below_cell b41 q05
  replace hP0 := below_row b41 hP0
  have hsB := hBW.size
  have hM : Mid w.heap.size W.heap.size w41 ((((((w41.setCell ⟨w.heap.size, 0, none⟩ (.bool s0)).setCell ⟨w.heap.size, 1, none⟩ (.slice a0 n0 c0)).setCell ⟨w.heap.size, 2, none⟩ (.slice b0 m0 d0)).setCell ⟨w.heap.size, 3, none⟩ (.bool s1)).setCell ⟨w.heap.size, 4, none⟩ (.slice a1 n1 c1)).setCell ⟨w.heap.size, 5, none⟩ (.slice b1 m1 d1)) := (((((((Mid.refl _ _ _).set _ _ (by omega) (by omega) _).set _ _ (by omega) (by omega) _).set _ _ (by omega) (by omega) _).set _ _ (by omega) (by omega) _).set _ _ (by omega) (by omega) _).set _ _ (by omega) (by omega) _)
  have eM := set6_same (w := w41) (c := w.heap.size) (u0 := .bool s0) (u1 := .slice a0 n0 c0) (u2 := .slice b0 m0 d0) (u3 := .bool s1) (u4 := .slice a1 n1 c1) (u5 := .slice b1 m1 d1) q00 q01 q02 q03 q04 q05
  have q00_ : (((((((w41.setCell ⟨w.heap.size, 0, none⟩ (.bool s0)).setCell ⟨w.heap.size, 1, none⟩ (.slice a0 n0 c0)).setCell ⟨w.heap.size, 2, none⟩ (.slice b0 m0 d0)).setCell ⟨w.heap.size, 3, none⟩ (.bool s1)).setCell ⟨w.heap.size, 4, none⟩ (.slice a1 n1 c1)).setCell ⟨w.heap.size, 5, none⟩ (.slice b1 m1 d1))).cell? ⟨w.heap.size, 0, none⟩ = some (.bool s0) := eM.1
  have q01_ : (((((((w41.setCell ⟨w.heap.size, 0, none⟩ (.bool s0)).setCell ⟨w.heap.size, 1, none⟩ (.slice a0 n0 c0)).setCell ⟨w.heap.size, 2, none⟩ (.slice b0 m0 d0)).setCell ⟨w.heap.size, 3, none⟩ (.bool s1)).setCell ⟨w.heap.size, 4, none⟩ (.slice a1 n1 c1)).setCell ⟨w.heap.size, 5, none⟩ (.slice b1 m1 d1))).cell? ⟨w.heap.size, 1, none⟩ = some (.slice a0 n0 c0) := eM.2.1
  have q02_ : (((((((w41.setCell ⟨w.heap.size, 0, none⟩ (.bool s0)).setCell ⟨w.heap.size, 1, none⟩ (.slice a0 n0 c0)).setCell ⟨w.heap.size, 2, none⟩ (.slice b0 m0 d0)).setCell ⟨w.heap.size, 3, none⟩ (.bool s1)).setCell ⟨w.heap.size, 4, none⟩ (.slice a1 n1 c1)).setCell ⟨w.heap.size, 5, none⟩ (.slice b1 m1 d1))).cell? ⟨w.heap.size, 2, none⟩ = some (.slice b0 m0 d0) := eM.2.2.1
  have q03_ : (((((((w41.setCell ⟨w.heap.size, 0, none⟩ (.bool s0)).setCell ⟨w.heap.size, 1, none⟩ (.slice a0 n0 c0)).setCell ⟨w.heap.size, 2, none⟩ (.slice b0 m0 d0)).setCell ⟨w.heap.size, 3, none⟩ (.bool s1)).setCell ⟨w.heap.size, 4, none⟩ (.slice a1 n1 c1)).setCell ⟨w.heap.size, 5, none⟩ (.slice b1 m1 d1))).cell? ⟨w.heap.size, 3, none⟩ = some (.bool s1) := eM.2.2.2.1
  have q04_ : (((((((w41.setCell ⟨w.heap.size, 0, none⟩ (.bool s0)).setCell ⟨w.heap.size, 1, none⟩ (.slice a0 n0 c0)).setCell ⟨w.heap.size, 2, none⟩ (.slice b0 m0 d0)).setCell ⟨w.heap.size, 3, none⟩ (.bool s1)).setCell ⟨w.heap.size, 4, none⟩ (.slice a1 n1 c1)).setCell ⟨w.heap.size, 5, none⟩ (.slice b1 m1 d1))).cell? ⟨w.heap.size, 4, none⟩ = some (.slice a1 n1 c1) := eM.2.2.2.2.1
  have q05_ : (((((((w41.setCell ⟨w.heap.size, 0, none⟩ (.bool s0)).setCell ⟨w.heap.size, 1, none⟩ (.slice a0 n0 c0)).setCell ⟨w.heap.size, 2, none⟩ (.slice b0 m0 d0)).setCell ⟨w.heap.size, 3, none⟩ (.bool s1)).setCell ⟨w.heap.size, 4, none⟩ (.slice a1 n1 c1)).setCell ⟨w.heap.size, 5, none⟩ (.slice b1 m1 d1))).cell? ⟨w.heap.size, 5, none⟩ = some (.slice b1 m1 d1) := eM.2.2.2.2.2
  have hP0_ := ((((((hP0.setCell ⟨w.heap.size, 0, none⟩ (.bool s0)).setCell ⟨w.heap.size, 1, none⟩ (.slice a0 n0 c0)).setCell ⟨w.heap.size, 2, none⟩ (.slice b0 m0 d0)).setCell ⟨w.heap.size, 3, none⟩ (.bool s1)).setCell ⟨w.heap.size, 4, none⟩ (.slice a1 n1 c1)).setCell ⟨w.heap.size, 5, none⟩ (.slice b1 m1 d1))
  have fzhP0 := fun o => hP0.frozen o
  have hBn := (hB.trans (hBW.mono hB.size)).trans (hM.below (Nat.le_trans hB.size hBW.size))
  have hsM := hM.size
  clear hM eM
  go_wp2_with fail
  clear q00 q01 q02 q03 q04 q05 hP0 fzhP0 hB hBW
  generalize ((((((w41.setCell ⟨w.heap.size, 0, none⟩ (.bool s0)).setCell ⟨w.heap.size, 1, none⟩ (.slice a0 n0 c0)).setCell ⟨w.heap.size, 2, none⟩ (.slice b0 m0 d0)).setCell ⟨w.heap.size, 3, none⟩ (.bool s1)).setCell ⟨w.heap.size, 4, none⟩ (.slice a1 n1 c1)).setCell ⟨w.heap.size, 5, none⟩ (.slice b1 m1 d1)) = w41y at q00_ q01_ q02_ q03_ q04_ q05_ hP0_ hBn hsM ⊢
  have q00 := q00_
  clear q00_
  have q01 := q01_
  clear q01_
  have q02 := q02_
  clear q02_
  have q03 := q03_
  clear q03_
  have q04 := q04_
  clear q04_
  have q05 := q05_
  clear q05_
  have hP0 := hP0_
  clear hP0_
  have hB := hBn
  clear hBn
  have hBW : Below w41y.heap.size w41y w41y := Below.refl _ _
  refine (dtwin_is s0 a0 n0 c0 X0 b0 m0 d0 Y0 s1 a1 n1 c1 X1 b1 m1 d1 Y1 _ hc0 (by omega) (sb hS0 hB hBW) hd0 (by omega) (sb hT0 hB hBW) hc1 (by omega) (sb hS1 hB hBW) hd1 (by omega) (sb hT1 hB hBW)).mono ?_
  rintro e w42 ⟨p42, q42, r42, t42, rfl, hp42, hq42, hr42, ht42⟩
  have b42 := hp42.below
  replace hp42 := hp42.back hBW
  replace hq42 := hq42.back hBW
  replace hr42 := hr42.back hBW
  replace ht42 := ht42.back hBW
  replace hBW := hBW.trans (b42.mono hBW.size)
  replace q00 := below_cell b42 q00
  replace q01 := below_cell b42 q01
  replace q02 := below_cell b42 q02
  replace q03 := below_cell b42 q03
  replace q04 := below_cell b42 q04
  replace q05 := below_cell b42 q05
  replace hP0 := below_row b42 hP0
  go_wp2_with fail
  refine (H1.out _ _ _ _ _ (HD.out.below (hB.trans (hBW.mono hB.size))) hp42.seg hq42.seg hr42.seg ht42.seg).mono ?_
  rintro e w43 ⟨rfl, b43⟩
  replace hBW := hBW.trans (b43.mono hBW.size)
  replace q00 := below_cell b43 q00
  replace q01 := below_cell b43 q01
  replace q02 := below_cell b43 q02
  replace q03 := below_cell b43 q03
  replace q04 := below_cell b43 q04
  replace q05 := below_cell b43 q05
  replace hP0 := below_row b43 hP0
  replace hp42 := hp42.later b43
  replace hq42 := hq42.later b43
  replace hr42 := hr42.later b43
  replace ht42 := ht42.later b43
  go_wp2_with fail
  refine (H2.out _ (HD.out.below (hB.trans (hBW.mono hB.size)))).mono ?_
  rintro e w44 ⟨p44, q44, r44, t44, rfl, bb44, kp44, kq44, kr44, kt44⟩
  have b44 := bb44
  replace hBW := hBW.trans (b44.mono hBW.size)
  replace q00 := below_cell b44 q00
  replace q01 := below_cell b44 q01
  replace q02 := below_cell b44 q02
  replace q03 := below_cell b44 q03
  replace q04 := below_cell b44 q04
  replace q05 := below_cell b44 q05
  replace hP0 := below_row b44 hP0
  replace hp42 := hp42.later b44
  replace hq42 := hq42.later b44
  replace hr42 := hr42.later b44
  replace ht42 := ht42.later b44
  have hsz44 := hBW.size
  have hlt44hP0 := hP0.lt
  have l4400 : ((w44.alloc (.cells #[.bool (ng ZA), .slice p44 (ln (am ZA)) (ln (am ZA)), .slice q44 (ln VA) (ln VA), .bool (ng ZB), .slice r44 (ln (am ZB)) (ln (am ZB)), .slice t44 (ln VB) (ln VB)] 29))).cell? ⟨w44.heap.size, 0, none⟩ = some (.bool (ng ZA)) := by go_simp
  have l4401 : ((w44.alloc (.cells #[.bool (ng ZA), .slice p44 (ln (am ZA)) (ln (am ZA)), .slice q44 (ln VA) (ln VA), .bool (ng ZB), .slice r44 (ln (am ZB)) (ln (am ZB)), .slice t44 (ln VB) (ln VB)] 29))).cell? ⟨w44.heap.size, 1, none⟩ = some (.slice p44 (ln (am ZA)) (ln (am ZA))) := by go_simp
  have l4402 : ((w44.alloc (.cells #[.bool (ng ZA), .slice p44 (ln (am ZA)) (ln (am ZA)), .slice q44 (ln VA) (ln VA), .bool (ng ZB), .slice r44 (ln (am ZB)) (ln (am ZB)), .slice t44 (ln VB) (ln VB)] 29))).cell? ⟨w44.heap.size, 2, none⟩ = some (.slice q44 (ln VA) (ln VA)) := by go_simp
  have l4403 : ((w44.alloc (.cells #[.bool (ng ZA), .slice p44 (ln (am ZA)) (ln (am ZA)), .slice q44 (ln VA) (ln VA), .bool (ng ZB), .slice r44 (ln (am ZB)) (ln (am ZB)), .slice t44 (ln VB) (ln VB)] 29))).cell? ⟨w44.heap.size, 3, none⟩ = some (.bool (ng ZB)) := by go_simp
  have l4404 : ((w44.alloc (.cells #[.bool (ng ZA), .slice p44 (ln (am ZA)) (ln (am ZA)), .slice q44 (ln VA) (ln VA), .bool (ng ZB), .slice r44 (ln (am ZB)) (ln (am ZB)), .slice t44 (ln VB) (ln VB)] 29))).cell? ⟨w44.heap.size, 4, none⟩ = some (.slice r44 (ln (am ZB)) (ln (am ZB))) := by go_simp
  have l4405 : ((w44.alloc (.cells #[.bool (ng ZA), .slice p44 (ln (am ZA)) (ln (am ZA)), .slice q44 (ln VA) (ln VA), .bool (ng ZB), .slice r44 (ln (am ZB)) (ln (am ZB)), .slice t44 (ln VB) (ln VB)] 29))).cell? ⟨w44.heap.size, 5, none⟩ = some (.slice t44 (ln VB) (ln VB)) := by go_simp
  have cb44 : Below w44.heap.size w44 ((w44.alloc (.cells #[.bool (ng ZA), .slice p44 (ln (am ZA)) (ln (am ZA)), .slice q44 (ln VA) (ln VA), .bool (ng ZB), .slice r44 (ln (am ZB)) (ln (am ZB)), .slice t44 (ln VB) (ln VB)] 29))) := ((Below.refl _ _).alloc (by (try simp only [World.size_alloc]); omega) _)
  replace hBW := hBW.trans (cb44.mono hBW.size)
  replace q00 := below_cell cb44 q00
  replace q01 := below_cell cb44 q01
  replace q02 := below_cell cb44 q02
  replace q03 := below_cell cb44 q03
  replace q04 := below_cell cb44 q04
  replace q05 := below_cell cb44 q05
  replace hP0 := below_row cb44 hP0
  replace hp42 := hp42.later cb44
  replace hq42 := hq42.later cb44
  replace hr42 := hr42.later cb44
  replace ht42 := ht42.later cb44
  replace kp44 := kp44.later cb44
  replace kq44 := kq44.later cb44
  replace kr44 := kr44.later cb44
  replace kt44 := kt44.later cb44
  have hL440 : Row ((w44.alloc (.cells #[.bool (ng ZA), .slice p44 (ln (am ZA)) (ln (am ZA)), .slice q44 (ln VA) (ln VA), .bool (ng ZB), .slice r44 (ln (am ZB)) (ln (am ZB)), .slice t44 (ln VB) (ln VB)] 29))) (w44.heap.size) := by
    have := row_new (w44) #[.bool (ng ZA), .slice p44 (ln (am ZA)) (ln (am ZA)), .slice q44 (ln VA) (ln VA), .bool (ng ZB), .slice r44 (ln (am ZB)) (ln (am ZB)), .slice t44 (ln VB) (ln VB)] 29
    try simp only [World.size_alloc] at this
    exact this
  go_wp2_with fail
  generalize (w44.alloc (.cells #[.bool (ng ZA), .slice p44 (ln (am ZA)) (ln (am ZA)), .slice q44 (ln VA) (ln VA), .bool (ng ZB), .slice r44 (ln (am ZB)) (ln (am ZB)), .slice t44 (ln VB) (ln VB)] 29)) = w44x at q00 q01 q02 q03 q04 q05 l4400 l4401 l4402 l4403 l4404 l4405 hP0 hL440 hp42 hq42 hr42 ht42 kp44 kq44 kr44 kt44 hBW cb44 ⊢
  clear cb44
  replace hBW := hBW.drew
  replace hp42 := hp42.drew
  replace hq42 := hq42.drew
  replace hr42 := hr42.drew
  replace ht42 := ht42.drew
  replace kp44 := kp44.drew
  replace kq44 := kq44.drew
  replace kr44 := kr44.drew
  replace kt44 := kt44.drew
  first
    | go_region_held3 (fun w' => w'.cell? ⟨w.heap.size, 0, none⟩ = some (.bool s0) ∧ w'.cell? ⟨w.heap.size, 1, none⟩ = some (.slice a0 n0 c0) ∧ w'.cell? ⟨w.heap.size, 2, none⟩ = some (.slice b0 m0 d0) ∧ w'.cell? ⟨w.heap.size, 3, none⟩ = some (.bool s1) ∧ w'.cell? ⟨w.heap.size, 4, none⟩ = some (.slice a1 n1 c1) ∧ w'.cell? ⟨w.heap.size, 5, none⟩ = some (.slice b1 m1 d1) ∧ w'.cell? ⟨w44.heap.size, 0, none⟩ = some (.bool (ng ZA)) ∧ w'.cell? ⟨w44.heap.size, 1, none⟩ = some (.slice p44 (ln (am ZA)) (ln (am ZA))) ∧ w'.cell? ⟨w44.heap.size, 2, none⟩ = some (.slice q44 (ln VA) (ln VA)) ∧ w'.cell? ⟨w44.heap.size, 3, none⟩ = some (.bool (ng ZB)) ∧ w'.cell? ⟨w44.heap.size, 4, none⟩ = some (.slice r44 (ln (am ZB)) (ln (am ZB))) ∧ w'.cell? ⟨w44.heap.size, 5, none⟩ = some (.slice t44 (ln VB) (ln VB)) ∧ Below w.heap.size w w')
        (first | exact ⟨q00, q01, q02, q03, q04, q05, l4400, l4401, l4402, l4403, l4404, l4405, hB.trans (hBW.mono hB.size)⟩ | exact kp12 b45 (by assumption) | exact kp12 b46 (by assumption) | exact kp12 b47 (by assumption) | exact kp12 b48 (by assumption) | exact kp12 (below_alloc _) (by assumption))
        (first
          | (go_at_call 8; refine (lives_is _ (five (HD.out.below (hB.trans (hBW.mono hB.size))))).mono ?_; rintro e w45 ⟨rfl, b45⟩; replace hBW := hBW.trans (b45.mono hBW.size); replace q00 := below_cell b45 q00; replace q01 := below_cell b45 q01; replace q02 := below_cell b45 q02; replace q03 := below_cell b45 q03; replace q04 := below_cell b45 q04; replace q05 := below_cell b45 q05; replace l4400 := below_cell b45 l4400; replace l4401 := below_cell b45 l4401; replace l4402 := below_cell b45 l4402; replace l4403 := below_cell b45 l4403; replace l4404 := below_cell b45 l4404; replace l4405 := below_cell b45 l4405; replace hP0 := below_row b45 hP0; replace hL440 := below_row b45 hL440; replace hp42 := hp42.later b45; replace hq42 := hq42.later b45; replace hr42 := hr42.later b45; replace ht42 := ht42.later b45; replace kp44 := kp44.later b45; replace kq44 := kq44.later b45; replace kr44 := kr44.later b45; replace kt44 := kt44.later b45)
          | (go_at_call 7; (fail_if_success clear b46); refine (dtwin_is s0 a0 n0 c0 X0 b0 m0 d0 Y0 s1 a1 n1 c1 X1 b1 m1 d1 Y1 _ hc0 (by omega) (sb hS0 hB hBW) hd0 (by omega) (sb hT0 hB hBW) hc1 (by omega) (sb hS1 hB hBW) hd1 (by omega) (sb hT1 hB hBW)).mono ?_; rintro e w46 ⟨p46, q46, r46, t46, rfl, hp46, hq46, hr46, ht46⟩; have b46 := hp46.below; replace hp46 := hp46.back hBW; replace hq46 := hq46.back hBW; replace hr46 := hr46.back hBW; replace ht46 := ht46.back hBW; replace hBW := hBW.trans (b46.mono hBW.size); replace q00 := below_cell b46 q00; replace q01 := below_cell b46 q01; replace q02 := below_cell b46 q02; replace q03 := below_cell b46 q03; replace q04 := below_cell b46 q04; replace q05 := below_cell b46 q05; replace l4400 := below_cell b46 l4400; replace l4401 := below_cell b46 l4401; replace l4402 := below_cell b46 l4402; replace l4403 := below_cell b46 l4403; replace l4404 := below_cell b46 l4404; replace l4405 := below_cell b46 l4405; replace hP0 := below_row b46 hP0; replace hL440 := below_row b46 hL440; replace hp42 := hp42.later b46; replace hq42 := hq42.later b46; replace hr42 := hr42.later b46; replace ht42 := ht42.later b46; replace kp44 := kp44.later b46; replace kq44 := kq44.later b46; replace kr44 := kr44.later b46; replace kt44 := kt44.later b46)
          | (go_at_call 10; (fail_if_success clear b47); refine (GN.out _ _ _ _ _ hp46.seg hq46.seg hr46.seg ht46.seg).mono ?_; rintro e w47 ⟨p47, q47, r47, t47, rfl, hp47, hq47, hr47, ht47⟩; have b47 := hp47.below; replace hp47 := hp47.back hBW; replace hq47 := hq47.back hBW; replace hr47 := hr47.back hBW; replace ht47 := ht47.back hBW; replace hBW := hBW.trans (b47.mono hBW.size); replace q00 := below_cell b47 q00; replace q01 := below_cell b47 q01; replace q02 := below_cell b47 q02; replace q03 := below_cell b47 q03; replace q04 := below_cell b47 q04; replace q05 := below_cell b47 q05; replace l4400 := below_cell b47 l4400; replace l4401 := below_cell b47 l4401; replace l4402 := below_cell b47 l4402; replace l4403 := below_cell b47 l4403; replace l4404 := below_cell b47 l4404; replace l4405 := below_cell b47 l4405; replace hP0 := below_row b47 hP0; replace hL440 := below_row b47 hL440; replace hp42 := hp42.later b47; replace hq42 := hq42.later b47; replace hr42 := hr42.later b47; replace ht42 := ht42.later b47; replace kp44 := kp44.later b47; replace kq44 := kq44.later b47; replace kr44 := kr44.later b47; replace kt44 := kt44.later b47; replace hp46 := hp46.later b47; replace hq46 := hq46.later b47; replace hr46 := hr46.later b47; replace ht46 := ht46.later b47)
          | (go_at_call 9; refine (dsame_is ZA VA ZB VB _ _ _ _ _ _ _ _ _ (by omega) (by omega) (by omega) (by omega) kp44 kq44 kr44 kt44 hp47.seg hq47.seg hr47.seg ht47.seg).mono ?_; rintro e w48 ⟨rfl, b48⟩; replace hBW := hBW.trans (b48.mono hBW.size); replace q00 := below_cell b48 q00; replace q01 := below_cell b48 q01; replace q02 := below_cell b48 q02; replace q03 := below_cell b48 q03; replace q04 := below_cell b48 q04; replace q05 := below_cell b48 q05; replace l4400 := below_cell b48 l4400; replace l4401 := below_cell b48 l4401; replace l4402 := below_cell b48 l4402; replace l4403 := below_cell b48 l4403; replace l4404 := below_cell b48 l4404; replace l4405 := below_cell b48 l4405; replace hP0 := below_row b48 hP0; replace hL440 := below_row b48 hL440; replace hp42 := hp42.later b48; replace hq42 := hq42.later b48; replace hr42 := hr42.later b48; replace ht42 := ht42.later b48; replace kp44 := kp44.later b48; replace kq44 := kq44.later b48; replace kr44 := kr44.later b48; replace kt44 := kt44.later b48; replace hp46 := hp46.later b48; replace hq46 := hq46.later b48; replace hr46 := hr46.later b48; replace ht46 := ht46.later b48; replace hp47 := hp47.later b48; replace hq47 := hq47.later b48; replace hr47 := hr47.later b48; replace ht47 := ht47.later b48))
    | fail
  go_wp2
  go_ret
  exact ⟨rfl, (hB.trans (hBW.mono hB.size))⟩

set_option maxHeartbeats 8000000 in
set_option maxRecDepth 100000 in
theorem walk_out (s0 : Bool) (a0 : Option Addr) (n0 c0 X0 : Nat) (b0 : Option Addr) (m0 d0 Y0 : Nat) (s1 : Bool) (a1 : Option Addr) (n1 c1 X1 : Nat) (b1 : Option Addr) (m1 d1 Y1 : Nat) (w : World) (hc0 : n0 ≤ c0) (hm0 : n0 ≤ 35184372087808) (hS0 : Seg w a0 X0 n0) (hd0 : m0 ≤ d0) (hk0 : m0 ≤ 35184372087808) (hT0 : Seg w b0 Y0 m0) (hc1 : n1 ≤ c1) (hm1 : n1 ≤ 35184372087808) (hS1 : Seg w a1 X1 n1) (hd1 : m1 ≤ d1) (hk1 : m1 ≤ 35184372087808) (hT1 : Seg w b1 Y1 m1) (hDg : Digs w) (h1 : 67108864 ≤ n0 + m0 + n1 + m1) :
    Calls Tryz.prog 3 #[Value.agg #[Value.bool s0, Value.slice a0 n0 c0, Value.slice b0 m0 d0, Value.bool s1, Value.slice a1 n1 c1, Value.slice b1 m1 d1]] w fun e w' => e = .returned (.bool true) ∧ Below w.heap.size w w' := by
  have W1 := hide' (fun w' (k1 : Seg w' a0 X0 n0) (k2 : Seg w' b0 Y0 m0) (k3 : Seg w' a1 X1 n1) (k4 : Seg w' b1 Y1 m1) => within_out s0 a0 n0 c0 X0 b0 m0 d0 Y0 s1 a1 n1 c1 X1 b1 m1 d1 Y1 w' hc0 hm0 k1 hd0 hk0 k2 hc1 hm1 k3 hd1 hk1 k4 h1)
  obtain ⟨ZA, VA, hLA⟩ := low_ex (rn false 0 0) (rd 0 : Nat) (rd_ne 0)
  obtain ⟨uA, huA⟩ := isTz_ex (ng ZA) (am ZA)
  obtain ⟨dA, hdA⟩ := isTx_ex (b := 10) (by omega) (by omega) VA
  obtain ⟨ZB, VB, hLB⟩ := low_ex (rn false 0 0) (rd 0 : Nat) (rd_ne 0)
  obtain ⟨uB, huB⟩ := isTz_ex (ng ZB) (am ZB)
  obtain ⟨dB, hdB⟩ := isTx_ex (b := 10) (by omega) (by omega) VB
  obtain ⟨lA, lVA⟩ := low_ln (n := 0) (m := 0) (by simp) (by simp) hLA
  obtain ⟨lB, lVB⟩ := low_ln (n := 0) (m := 0) (by simp) (by simp) hLB
  have hC := hLB.sgn (by have := rd_pos 0; omega)
  obtain ⟨U, T1, T2⟩ : ∃ U : ByteArray, (∀ w' p q r t, Digs w' → Seg w' p 0 0 → Seg w' q 0 0 → Seg w' r 0 0 → Seg w' t 0 0 → Calls Tryz.prog 6 #[.agg #[.bool false, .slice p 0 0, .slice q 0 0, .bool false, .slice r 0 0, .slice t 0 0]] w' fun e w'' => e = .returned (.string U) ∧ Below w'.heap.size w' w'') ∧ (∀ w', Digs w' → Calls Tryz.prog 5 #[.string U] w' fun e w'' => ∃ p q r t, e = .returned (.tuple #[.agg #[.bool (ng ZA), .slice p (ln (am ZA)) (ln (am ZA)), .slice q (ln VA) (ln VA), .bool (ng ZB), .slice r (ln (am ZB)) (ln (am ZB)), .slice t (ln VB) (ln VB)], .int .i64 0]) ∧ Below w'.heap.size w' w'' ∧ Seg w'' p (am ZA) (ln (am ZA)) ∧ Seg w'' q VA (ln VA) ∧ Seg w'' r (am ZB) (ln (am ZB)) ∧ Seg w'' t VB (ln VB)) := by
    rcases Int.lt_trichotomy ZB 0 with h | h | h
    · exact ⟨_, fun w' p q r t hD k1 k2 k3 k4 => ddText_n false p 0 0 0 q 0 0 0 false r 0 0 0 t 0 0 0 ZA VA uA dA ZB VB uB dB w' (Nat.le_refl _) (by omega) k1 (Nat.le_refl _) (by omega) k2 (Nat.le_refl _) (by omega) k3 (Nat.le_refl _) (by omega) k4 hLA huA hdA hLB huB hdB (hC.symm.trans (sgn_neg h)) hD, fun w' hD => own_n ZA VA uA dA ZB VB uB dB (by omega) (by omega) (by omega) (by omega) hLA.pos hLA.cop hLB.pos hLB.cop huA hdA huB hdB h w' hD⟩
    · exact ⟨_, fun w' p q r t hD k1 k2 k3 k4 => ddText_z false p 0 0 0 q 0 0 0 false r 0 0 0 t 0 0 0 ZA VA uA dA ZB VB uB dB w' (Nat.le_refl _) (by omega) k1 (Nat.le_refl _) (by omega) k2 (Nat.le_refl _) (by omega) k3 (Nat.le_refl _) (by omega) k4 hLA huA hdA hLB huB hdB (hC.symm.trans (by rw [h]; rfl)) hD, fun w' hD => own_z ZA VA uA dA ZB VB uB dB (by omega) (by omega) (by omega) (by omega) hLA.pos hLA.cop hLB.pos hLB.cop huA hdA huB hdB h w' hD⟩
    · exact ⟨_, fun w' p q r t hD k1 k2 k3 k4 => ddText_p false p 0 0 0 q 0 0 0 false r 0 0 0 t 0 0 0 ZA VA uA dA ZB VB uB dB w' (Nat.le_refl _) (by omega) k1 (Nat.le_refl _) (by omega) k2 (Nat.le_refl _) (by omega) k3 (Nat.le_refl _) (by omega) k4 hLA huA hdA hLB huB hdB (hC.symm.trans (sgn_pos h)) hD, fun w' hD => own_p ZA VA uA dA ZB VB uB dB (by omega) (by omega) (by omega) (by omega) hLA.pos hLA.cop hLB.pos hLB.cop huA hdA huB hdB h w' hD⟩
  have GN := hide' (fun w' p q r t k1 k2 k3 k4 => dNorm_is false p 0 0 0 q 0 0 0 false r 0 0 0 t 0 0 0 ZA VA ZB VB w' (Nat.le_refl _) (by omega) k1 (Nat.le_refl _) (by omega) k2 (Nat.le_refl _) (by omega) k3 (Nat.le_refl _) (by omega) k4 hLA hLB)
  have H1 := hide' T1
  have H2 := hide' T2
  have HD := hide' hDg
  clear T1 T2 huA hdA hLA huB hdB hLB hDg hC
  go_enter Tryz.func3, Tryz.ntmps3
  go_wp2_with fail
  obtain ⟨W, hW⟩ : ∃ W, (w.alloc (.cells #[.bool s0, .slice a0 n0 c0, .slice b0 m0 d0, .bool s1, .slice a1 n1 c1, .slice b1 m1 d1] 29)) = W := ⟨_, rfl⟩
  have q00 : W.cell? ⟨w.heap.size, 0, none⟩ = some (.bool s0) := by subst hW; go_simp
  have q01 : W.cell? ⟨w.heap.size, 1, none⟩ = some (.slice a0 n0 c0) := by subst hW; go_simp
  have q02 : W.cell? ⟨w.heap.size, 2, none⟩ = some (.slice b0 m0 d0) := by subst hW; go_simp
  have q03 : W.cell? ⟨w.heap.size, 3, none⟩ = some (.bool s1) := by subst hW; go_simp
  have q04 : W.cell? ⟨w.heap.size, 4, none⟩ = some (.slice a1 n1 c1) := by subst hW; go_simp
  have q05 : W.cell? ⟨w.heap.size, 5, none⟩ = some (.slice b1 m1 d1) := by subst hW; go_simp
  have hB : Below w.heap.size w W := by subst hW; exact ((Below.refl _ _).alloc (by (try simp only [World.size_alloc]); omega) _)
  have hP0 : Row W (w.heap.size) := by
    have := row_new (w) #[.bool s0, .slice a0 n0 c0, .slice b0 m0 d0, .bool s1, .slice a1 n1 c1, .slice b1 m1 d1] 29
    try simp only [World.size_alloc] at this
    subst hW; exact this
  have hz : W.heap.size = w.heap.size + 1 := by subst hW; simp only [World.size_alloc]
  rw [hW]
  clear hW
  have hBW : Below W.heap.size W W := Below.refl _ _
  refine (W1.out _ (sb hS0 hB hBW) (sb hT0 hB hBW) (sb hS1 hB hBW) (sb hT1 hB hBW)).mono ?_
  rintro e w41 ⟨rfl, b41⟩
  replace hBW := hBW.trans (b41.mono hBW.size)
  replace q00 := below_cell b41 q00
  replace q01 := below_cell b41 q01
  replace q02 := below_cell b41 q02
  replace q03 := below_cell b41 q03
  replace q04 := below_cell b41 q04
  replace q05 := below_cell b41 q05
  replace hP0 := below_row b41 hP0
  have hsB := hBW.size
  have hM : Mid w.heap.size W.heap.size w41 ((((((w41.setCell ⟨w.heap.size, 0, none⟩ (.bool false)).setCell ⟨w.heap.size, 1, none⟩ (.slice none 0 0)).setCell ⟨w.heap.size, 2, none⟩ (.slice none 0 0)).setCell ⟨w.heap.size, 3, none⟩ (.bool false)).setCell ⟨w.heap.size, 4, none⟩ (.slice none 0 0)).setCell ⟨w.heap.size, 5, none⟩ (.slice none 0 0)) := (((((((Mid.refl _ _ _).set _ _ (by omega) (by omega) _).set _ _ (by omega) (by omega) _).set _ _ (by omega) (by omega) _).set _ _ (by omega) (by omega) _).set _ _ (by omega) (by omega) _).set _ _ (by omega) (by omega) _)
  have eM := set6_same (w := w41) (c := w.heap.size) (u0 := .bool false) (u1 := .slice none 0 0) (u2 := .slice none 0 0) (u3 := .bool false) (u4 := .slice none 0 0) (u5 := .slice none 0 0) q00 q01 q02 q03 q04 q05
  have q00_ : (((((((w41.setCell ⟨w.heap.size, 0, none⟩ (.bool false)).setCell ⟨w.heap.size, 1, none⟩ (.slice none 0 0)).setCell ⟨w.heap.size, 2, none⟩ (.slice none 0 0)).setCell ⟨w.heap.size, 3, none⟩ (.bool false)).setCell ⟨w.heap.size, 4, none⟩ (.slice none 0 0)).setCell ⟨w.heap.size, 5, none⟩ (.slice none 0 0))).cell? ⟨w.heap.size, 0, none⟩ = some (.bool false) := eM.1
  have q01_ : (((((((w41.setCell ⟨w.heap.size, 0, none⟩ (.bool false)).setCell ⟨w.heap.size, 1, none⟩ (.slice none 0 0)).setCell ⟨w.heap.size, 2, none⟩ (.slice none 0 0)).setCell ⟨w.heap.size, 3, none⟩ (.bool false)).setCell ⟨w.heap.size, 4, none⟩ (.slice none 0 0)).setCell ⟨w.heap.size, 5, none⟩ (.slice none 0 0))).cell? ⟨w.heap.size, 1, none⟩ = some (.slice none 0 0) := eM.2.1
  have q02_ : (((((((w41.setCell ⟨w.heap.size, 0, none⟩ (.bool false)).setCell ⟨w.heap.size, 1, none⟩ (.slice none 0 0)).setCell ⟨w.heap.size, 2, none⟩ (.slice none 0 0)).setCell ⟨w.heap.size, 3, none⟩ (.bool false)).setCell ⟨w.heap.size, 4, none⟩ (.slice none 0 0)).setCell ⟨w.heap.size, 5, none⟩ (.slice none 0 0))).cell? ⟨w.heap.size, 2, none⟩ = some (.slice none 0 0) := eM.2.2.1
  have q03_ : (((((((w41.setCell ⟨w.heap.size, 0, none⟩ (.bool false)).setCell ⟨w.heap.size, 1, none⟩ (.slice none 0 0)).setCell ⟨w.heap.size, 2, none⟩ (.slice none 0 0)).setCell ⟨w.heap.size, 3, none⟩ (.bool false)).setCell ⟨w.heap.size, 4, none⟩ (.slice none 0 0)).setCell ⟨w.heap.size, 5, none⟩ (.slice none 0 0))).cell? ⟨w.heap.size, 3, none⟩ = some (.bool false) := eM.2.2.2.1
  have q04_ : (((((((w41.setCell ⟨w.heap.size, 0, none⟩ (.bool false)).setCell ⟨w.heap.size, 1, none⟩ (.slice none 0 0)).setCell ⟨w.heap.size, 2, none⟩ (.slice none 0 0)).setCell ⟨w.heap.size, 3, none⟩ (.bool false)).setCell ⟨w.heap.size, 4, none⟩ (.slice none 0 0)).setCell ⟨w.heap.size, 5, none⟩ (.slice none 0 0))).cell? ⟨w.heap.size, 4, none⟩ = some (.slice none 0 0) := eM.2.2.2.2.1
  have q05_ : (((((((w41.setCell ⟨w.heap.size, 0, none⟩ (.bool false)).setCell ⟨w.heap.size, 1, none⟩ (.slice none 0 0)).setCell ⟨w.heap.size, 2, none⟩ (.slice none 0 0)).setCell ⟨w.heap.size, 3, none⟩ (.bool false)).setCell ⟨w.heap.size, 4, none⟩ (.slice none 0 0)).setCell ⟨w.heap.size, 5, none⟩ (.slice none 0 0))).cell? ⟨w.heap.size, 5, none⟩ = some (.slice none 0 0) := eM.2.2.2.2.2
  have hP0_ := ((((((hP0.setCell ⟨w.heap.size, 0, none⟩ (.bool false)).setCell ⟨w.heap.size, 1, none⟩ (.slice none 0 0)).setCell ⟨w.heap.size, 2, none⟩ (.slice none 0 0)).setCell ⟨w.heap.size, 3, none⟩ (.bool false)).setCell ⟨w.heap.size, 4, none⟩ (.slice none 0 0)).setCell ⟨w.heap.size, 5, none⟩ (.slice none 0 0))
  have fzhP0 := fun o => hP0.frozen o
  have hBn := (hB.trans (hBW.mono hB.size)).trans (hM.below (Nat.le_trans hB.size hBW.size))
  have hsM := hM.size
  clear hM eM
  go_wp2_with fail
  clear q00 q01 q02 q03 q04 q05 hP0 fzhP0 hB hBW
  generalize ((((((w41.setCell ⟨w.heap.size, 0, none⟩ (.bool false)).setCell ⟨w.heap.size, 1, none⟩ (.slice none 0 0)).setCell ⟨w.heap.size, 2, none⟩ (.slice none 0 0)).setCell ⟨w.heap.size, 3, none⟩ (.bool false)).setCell ⟨w.heap.size, 4, none⟩ (.slice none 0 0)).setCell ⟨w.heap.size, 5, none⟩ (.slice none 0 0)) = w41y at q00_ q01_ q02_ q03_ q04_ q05_ hP0_ hBn hsM ⊢
  have q00 := q00_
  clear q00_
  have q01 := q01_
  clear q01_
  have q02 := q02_
  clear q02_
  have q03 := q03_
  clear q03_
  have q04 := q04_
  clear q04_
  have q05 := q05_
  clear q05_
  have hP0 := hP0_
  clear hP0_
  have hB := hBn
  clear hBn
  have hBW : Below w41y.heap.size w41y w41y := Below.refl _ _
  refine (dtwin_is false none 0 0 0 none 0 0 0 false none 0 0 0 none 0 0 0 _ (Nat.le_refl _) (by omega) (Seg.nil _ _) (Nat.le_refl _) (by omega) (Seg.nil _ _) (Nat.le_refl _) (by omega) (Seg.nil _ _) (Nat.le_refl _) (by omega) (Seg.nil _ _)).mono ?_
  rintro e w42 ⟨p42, q42, r42, t42, rfl, hp42, hq42, hr42, ht42⟩
  have b42 := hp42.below
  replace hp42 := hp42.back hBW
  replace hq42 := hq42.back hBW
  replace hr42 := hr42.back hBW
  replace ht42 := ht42.back hBW
  replace hBW := hBW.trans (b42.mono hBW.size)
  replace q00 := below_cell b42 q00
  replace q01 := below_cell b42 q01
  replace q02 := below_cell b42 q02
  replace q03 := below_cell b42 q03
  replace q04 := below_cell b42 q04
  replace q05 := below_cell b42 q05
  replace hP0 := below_row b42 hP0
  go_wp2_with fail
  refine (H1.out _ _ _ _ _ (HD.out.below (hB.trans (hBW.mono hB.size))) hp42.seg hq42.seg hr42.seg ht42.seg).mono ?_
  rintro e w43 ⟨rfl, b43⟩
  replace hBW := hBW.trans (b43.mono hBW.size)
  replace q00 := below_cell b43 q00
  replace q01 := below_cell b43 q01
  replace q02 := below_cell b43 q02
  replace q03 := below_cell b43 q03
  replace q04 := below_cell b43 q04
  replace q05 := below_cell b43 q05
  replace hP0 := below_row b43 hP0
  replace hp42 := hp42.later b43
  replace hq42 := hq42.later b43
  replace hr42 := hr42.later b43
  replace ht42 := ht42.later b43
  go_wp2_with fail
  refine (H2.out _ (HD.out.below (hB.trans (hBW.mono hB.size)))).mono ?_
  rintro e w44 ⟨p44, q44, r44, t44, rfl, bb44, kp44, kq44, kr44, kt44⟩
  have b44 := bb44
  replace hBW := hBW.trans (b44.mono hBW.size)
  replace q00 := below_cell b44 q00
  replace q01 := below_cell b44 q01
  replace q02 := below_cell b44 q02
  replace q03 := below_cell b44 q03
  replace q04 := below_cell b44 q04
  replace q05 := below_cell b44 q05
  replace hP0 := below_row b44 hP0
  replace hp42 := hp42.later b44
  replace hq42 := hq42.later b44
  replace hr42 := hr42.later b44
  replace ht42 := ht42.later b44
  have hsz44 := hBW.size
  have hlt44hP0 := hP0.lt
  have l4400 : ((w44.alloc (.cells #[.bool (ng ZA), .slice p44 (ln (am ZA)) (ln (am ZA)), .slice q44 (ln VA) (ln VA), .bool (ng ZB), .slice r44 (ln (am ZB)) (ln (am ZB)), .slice t44 (ln VB) (ln VB)] 29))).cell? ⟨w44.heap.size, 0, none⟩ = some (.bool (ng ZA)) := by go_simp
  have l4401 : ((w44.alloc (.cells #[.bool (ng ZA), .slice p44 (ln (am ZA)) (ln (am ZA)), .slice q44 (ln VA) (ln VA), .bool (ng ZB), .slice r44 (ln (am ZB)) (ln (am ZB)), .slice t44 (ln VB) (ln VB)] 29))).cell? ⟨w44.heap.size, 1, none⟩ = some (.slice p44 (ln (am ZA)) (ln (am ZA))) := by go_simp
  have l4402 : ((w44.alloc (.cells #[.bool (ng ZA), .slice p44 (ln (am ZA)) (ln (am ZA)), .slice q44 (ln VA) (ln VA), .bool (ng ZB), .slice r44 (ln (am ZB)) (ln (am ZB)), .slice t44 (ln VB) (ln VB)] 29))).cell? ⟨w44.heap.size, 2, none⟩ = some (.slice q44 (ln VA) (ln VA)) := by go_simp
  have l4403 : ((w44.alloc (.cells #[.bool (ng ZA), .slice p44 (ln (am ZA)) (ln (am ZA)), .slice q44 (ln VA) (ln VA), .bool (ng ZB), .slice r44 (ln (am ZB)) (ln (am ZB)), .slice t44 (ln VB) (ln VB)] 29))).cell? ⟨w44.heap.size, 3, none⟩ = some (.bool (ng ZB)) := by go_simp
  have l4404 : ((w44.alloc (.cells #[.bool (ng ZA), .slice p44 (ln (am ZA)) (ln (am ZA)), .slice q44 (ln VA) (ln VA), .bool (ng ZB), .slice r44 (ln (am ZB)) (ln (am ZB)), .slice t44 (ln VB) (ln VB)] 29))).cell? ⟨w44.heap.size, 4, none⟩ = some (.slice r44 (ln (am ZB)) (ln (am ZB))) := by go_simp
  have l4405 : ((w44.alloc (.cells #[.bool (ng ZA), .slice p44 (ln (am ZA)) (ln (am ZA)), .slice q44 (ln VA) (ln VA), .bool (ng ZB), .slice r44 (ln (am ZB)) (ln (am ZB)), .slice t44 (ln VB) (ln VB)] 29))).cell? ⟨w44.heap.size, 5, none⟩ = some (.slice t44 (ln VB) (ln VB)) := by go_simp
  have cb44 : Below w44.heap.size w44 ((w44.alloc (.cells #[.bool (ng ZA), .slice p44 (ln (am ZA)) (ln (am ZA)), .slice q44 (ln VA) (ln VA), .bool (ng ZB), .slice r44 (ln (am ZB)) (ln (am ZB)), .slice t44 (ln VB) (ln VB)] 29))) := ((Below.refl _ _).alloc (by (try simp only [World.size_alloc]); omega) _)
  replace hBW := hBW.trans (cb44.mono hBW.size)
  replace q00 := below_cell cb44 q00
  replace q01 := below_cell cb44 q01
  replace q02 := below_cell cb44 q02
  replace q03 := below_cell cb44 q03
  replace q04 := below_cell cb44 q04
  replace q05 := below_cell cb44 q05
  replace hP0 := below_row cb44 hP0
  replace hp42 := hp42.later cb44
  replace hq42 := hq42.later cb44
  replace hr42 := hr42.later cb44
  replace ht42 := ht42.later cb44
  replace kp44 := kp44.later cb44
  replace kq44 := kq44.later cb44
  replace kr44 := kr44.later cb44
  replace kt44 := kt44.later cb44
  have hL440 : Row ((w44.alloc (.cells #[.bool (ng ZA), .slice p44 (ln (am ZA)) (ln (am ZA)), .slice q44 (ln VA) (ln VA), .bool (ng ZB), .slice r44 (ln (am ZB)) (ln (am ZB)), .slice t44 (ln VB) (ln VB)] 29))) (w44.heap.size) := by
    have := row_new (w44) #[.bool (ng ZA), .slice p44 (ln (am ZA)) (ln (am ZA)), .slice q44 (ln VA) (ln VA), .bool (ng ZB), .slice r44 (ln (am ZB)) (ln (am ZB)), .slice t44 (ln VB) (ln VB)] 29
    try simp only [World.size_alloc] at this
    exact this
  go_wp2_with fail
  generalize (w44.alloc (.cells #[.bool (ng ZA), .slice p44 (ln (am ZA)) (ln (am ZA)), .slice q44 (ln VA) (ln VA), .bool (ng ZB), .slice r44 (ln (am ZB)) (ln (am ZB)), .slice t44 (ln VB) (ln VB)] 29)) = w44x at q00 q01 q02 q03 q04 q05 l4400 l4401 l4402 l4403 l4404 l4405 hP0 hL440 hp42 hq42 hr42 ht42 kp44 kq44 kr44 kt44 hBW cb44 ⊢
  clear cb44
  replace hBW := hBW.drew
  replace hp42 := hp42.drew
  replace hq42 := hq42.drew
  replace hr42 := hr42.drew
  replace ht42 := ht42.drew
  replace kp44 := kp44.drew
  replace kq44 := kq44.drew
  replace kr44 := kr44.drew
  replace kt44 := kt44.drew
  first
    | go_region_held3 (fun w' => w'.cell? ⟨w.heap.size, 0, none⟩ = some (.bool false) ∧ w'.cell? ⟨w.heap.size, 1, none⟩ = some (.slice none 0 0) ∧ w'.cell? ⟨w.heap.size, 2, none⟩ = some (.slice none 0 0) ∧ w'.cell? ⟨w.heap.size, 3, none⟩ = some (.bool false) ∧ w'.cell? ⟨w.heap.size, 4, none⟩ = some (.slice none 0 0) ∧ w'.cell? ⟨w.heap.size, 5, none⟩ = some (.slice none 0 0) ∧ w'.cell? ⟨w44.heap.size, 0, none⟩ = some (.bool (ng ZA)) ∧ w'.cell? ⟨w44.heap.size, 1, none⟩ = some (.slice p44 (ln (am ZA)) (ln (am ZA))) ∧ w'.cell? ⟨w44.heap.size, 2, none⟩ = some (.slice q44 (ln VA) (ln VA)) ∧ w'.cell? ⟨w44.heap.size, 3, none⟩ = some (.bool (ng ZB)) ∧ w'.cell? ⟨w44.heap.size, 4, none⟩ = some (.slice r44 (ln (am ZB)) (ln (am ZB))) ∧ w'.cell? ⟨w44.heap.size, 5, none⟩ = some (.slice t44 (ln VB) (ln VB)) ∧ Below w.heap.size w w')
        (first | exact ⟨q00, q01, q02, q03, q04, q05, l4400, l4401, l4402, l4403, l4404, l4405, hB.trans (hBW.mono hB.size)⟩ | exact kp12 b45 (by assumption) | exact kp12 b46 (by assumption) | exact kp12 b47 (by assumption) | exact kp12 b48 (by assumption) | exact kp12 (below_alloc _) (by assumption))
        (first
          | (go_at_call 8; refine (lives_is _ (five (HD.out.below (hB.trans (hBW.mono hB.size))))).mono ?_; rintro e w45 ⟨rfl, b45⟩; replace hBW := hBW.trans (b45.mono hBW.size); replace q00 := below_cell b45 q00; replace q01 := below_cell b45 q01; replace q02 := below_cell b45 q02; replace q03 := below_cell b45 q03; replace q04 := below_cell b45 q04; replace q05 := below_cell b45 q05; replace l4400 := below_cell b45 l4400; replace l4401 := below_cell b45 l4401; replace l4402 := below_cell b45 l4402; replace l4403 := below_cell b45 l4403; replace l4404 := below_cell b45 l4404; replace l4405 := below_cell b45 l4405; replace hP0 := below_row b45 hP0; replace hL440 := below_row b45 hL440; replace hp42 := hp42.later b45; replace hq42 := hq42.later b45; replace hr42 := hr42.later b45; replace ht42 := ht42.later b45; replace kp44 := kp44.later b45; replace kq44 := kq44.later b45; replace kr44 := kr44.later b45; replace kt44 := kt44.later b45)
          | (go_at_call 7; (fail_if_success clear b46); refine (dtwin_is false none 0 0 0 none 0 0 0 false none 0 0 0 none 0 0 0 _ (Nat.le_refl _) (by omega) (Seg.nil _ _) (Nat.le_refl _) (by omega) (Seg.nil _ _) (Nat.le_refl _) (by omega) (Seg.nil _ _) (Nat.le_refl _) (by omega) (Seg.nil _ _)).mono ?_; rintro e w46 ⟨p46, q46, r46, t46, rfl, hp46, hq46, hr46, ht46⟩; have b46 := hp46.below; replace hp46 := hp46.back hBW; replace hq46 := hq46.back hBW; replace hr46 := hr46.back hBW; replace ht46 := ht46.back hBW; replace hBW := hBW.trans (b46.mono hBW.size); replace q00 := below_cell b46 q00; replace q01 := below_cell b46 q01; replace q02 := below_cell b46 q02; replace q03 := below_cell b46 q03; replace q04 := below_cell b46 q04; replace q05 := below_cell b46 q05; replace l4400 := below_cell b46 l4400; replace l4401 := below_cell b46 l4401; replace l4402 := below_cell b46 l4402; replace l4403 := below_cell b46 l4403; replace l4404 := below_cell b46 l4404; replace l4405 := below_cell b46 l4405; replace hP0 := below_row b46 hP0; replace hL440 := below_row b46 hL440; replace hp42 := hp42.later b46; replace hq42 := hq42.later b46; replace hr42 := hr42.later b46; replace ht42 := ht42.later b46; replace kp44 := kp44.later b46; replace kq44 := kq44.later b46; replace kr44 := kr44.later b46; replace kt44 := kt44.later b46)
          | (go_at_call 10; (fail_if_success clear b47); refine (GN.out _ _ _ _ _ hp46.seg hq46.seg hr46.seg ht46.seg).mono ?_; rintro e w47 ⟨p47, q47, r47, t47, rfl, hp47, hq47, hr47, ht47⟩; have b47 := hp47.below; replace hp47 := hp47.back hBW; replace hq47 := hq47.back hBW; replace hr47 := hr47.back hBW; replace ht47 := ht47.back hBW; replace hBW := hBW.trans (b47.mono hBW.size); replace q00 := below_cell b47 q00; replace q01 := below_cell b47 q01; replace q02 := below_cell b47 q02; replace q03 := below_cell b47 q03; replace q04 := below_cell b47 q04; replace q05 := below_cell b47 q05; replace l4400 := below_cell b47 l4400; replace l4401 := below_cell b47 l4401; replace l4402 := below_cell b47 l4402; replace l4403 := below_cell b47 l4403; replace l4404 := below_cell b47 l4404; replace l4405 := below_cell b47 l4405; replace hP0 := below_row b47 hP0; replace hL440 := below_row b47 hL440; replace hp42 := hp42.later b47; replace hq42 := hq42.later b47; replace hr42 := hr42.later b47; replace ht42 := ht42.later b47; replace kp44 := kp44.later b47; replace kq44 := kq44.later b47; replace kr44 := kr44.later b47; replace kt44 := kt44.later b47; replace hp46 := hp46.later b47; replace hq46 := hq46.later b47; replace hr46 := hr46.later b47; replace ht46 := ht46.later b47)
          | (go_at_call 9; refine (dsame_is ZA VA ZB VB _ _ _ _ _ _ _ _ _ (by omega) (by omega) (by omega) (by omega) kp44 kq44 kr44 kt44 hp47.seg hq47.seg hr47.seg ht47.seg).mono ?_; rintro e w48 ⟨rfl, b48⟩; replace hBW := hBW.trans (b48.mono hBW.size); replace q00 := below_cell b48 q00; replace q01 := below_cell b48 q01; replace q02 := below_cell b48 q02; replace q03 := below_cell b48 q03; replace q04 := below_cell b48 q04; replace q05 := below_cell b48 q05; replace l4400 := below_cell b48 l4400; replace l4401 := below_cell b48 l4401; replace l4402 := below_cell b48 l4402; replace l4403 := below_cell b48 l4403; replace l4404 := below_cell b48 l4404; replace l4405 := below_cell b48 l4405; replace hP0 := below_row b48 hP0; replace hL440 := below_row b48 hL440; replace hp42 := hp42.later b48; replace hq42 := hq42.later b48; replace hr42 := hr42.later b48; replace ht42 := ht42.later b48; replace kp44 := kp44.later b48; replace kq44 := kq44.later b48; replace kr44 := kr44.later b48; replace kt44 := kt44.later b48; replace hp46 := hp46.later b48; replace hq46 := hq46.later b48; replace hr46 := hr46.later b48; replace ht46 := ht46.later b48; replace hp47 := hp47.later b48; replace hq47 := hq47.later b48; replace hr47 := hr47.later b48; replace ht47 := ht47.later b48))
    | fail
  go_wp2
  go_ret
  exact ⟨rfl, (hB.trans (hBW.mono hB.size))⟩

set_option maxHeartbeats 8000000 in
set_option maxRecDepth 100000 in
theorem walk (s0 : Bool) (a0 : Option Addr) (n0 c0 X0 : Nat) (b0 : Option Addr) (m0 d0 Y0 : Nat) (s1 : Bool) (a1 : Option Addr) (n1 c1 X1 : Nat) (b1 : Option Addr) (m1 d1 Y1 : Nat) (w : World) (hc0 : n0 ≤ c0) (hm0 : n0 ≤ 35184372087808) (hS0 : Seg w a0 X0 n0) (hd0 : m0 ≤ d0) (hk0 : m0 ≤ 35184372087808) (hT0 : Seg w b0 Y0 m0) (hc1 : n1 ≤ c1) (hm1 : n1 ≤ 35184372087808) (hS1 : Seg w a1 X1 n1) (hd1 : m1 ≤ d1) (hk1 : m1 ≤ 35184372087808) (hT1 : Seg w b1 Y1 m1) (hDg : Digs w) :
    Calls Tryz.prog 3 #[Value.agg #[Value.bool s0, Value.slice a0 n0 c0, Value.slice b0 m0 d0, Value.bool s1, Value.slice a1 n1 c1, Value.slice b1 m1 d1]] w fun e w' => e = .returned (.bool true) ∧ Below w.heap.size w w' := by
  by_cases h1 : n0 + m0 + n1 + m1 < 67108864
  · exact walk_in s0 a0 n0 c0 X0 b0 m0 d0 Y0 s1 a1 n1 c1 X1 b1 m1 d1 Y1 w hc0 hm0 hS0 hd0 hk0 hT0 hc1 hm1 hS1 hd1 hk1 hT1 hDg h1
  · exact walk_out s0 a0 n0 c0 X0 b0 m0 d0 Y0 s1 a1 n1 c1 X1 b1 m1 d1 Y1 w hc0 hm0 hS0 hd0 hk0 hT0 hc1 hm1 hS1 hd1 hk1 hT1 hDg (by omega)

theorem gTab : Tryz.prog.globalNamed "fulcrum/nat.digits" = some 1 := by kernel_rfl
theorem gTabType : (Tryz.prog.globals[1]?).map (·.type) = some 125 := by kernel_rfl
theorem cellsA : Tryz.prog.cellsOf 125 = 16 := by kernel_rfl
theorem cells8 : Tryz.prog.cellsOf 5 = 1 := by kernel_rfl
theorem table {W : World} (h : laidMetH Tryz.prog Rows.deltaBackRow.laid W) : Lib.TabIs Tryz.prog W "fulcrum/nat.digits" .u8 [48, 49, 50, 51, 52, 53, 54, 55, 56, 57, 97, 98, 99, 100, 101, 102] :=
  Lib.tabIs_of_head (rest := [("unicode/utf8.acceptRanges", Rows.laid_unicode_utf8_acceptRanges), ("unicode/utf8.first", Rows.laid_unicode_utf8_first)]) gTab gTabType Tryz.underlying125 Tryz.underlying5 cells8 cellsA h
theorem digs_of {W : World} (h : laidMetH Tryz.prog Rows.deltaBackRow.laid W) : Digs W
  | 0, _ => (table h).cell gTab 0 (by decide)
  | 1, _ => (table h).cell gTab 1 (by decide)
  | 2, _ => (table h).cell gTab 2 (by decide)
  | 3, _ => (table h).cell gTab 3 (by decide)
  | 4, _ => (table h).cell gTab 4 (by decide)
  | 5, _ => (table h).cell gTab 5 (by decide)
  | 6, _ => (table h).cell gTab 6 (by decide)
  | 7, _ => (table h).cell gTab 7 (by decide)
  | 8, _ => (table h).cell gTab 8 (by decide)
  | 9, _ => (table h).cell gTab 9 (by decide)
  | 10, _ => (table h).cell gTab 10 (by decide)
  | 11, _ => (table h).cell gTab 11 (by decide)
  | 12, _ => (table h).cell gTab 12 (by decide)
  | 13, _ => (table h).cell gTab 13 (by decide)
  | 14, _ => (table h).cell gTab 14 (by decide)
  | 15, _ => (table h).cell gTab 15 (by decide)
  | k + 16, hk => absurd hk (by omega)

set_option maxRecDepth 100000 in
theorem contract (H : Type) (enc : TypeId × Value → H) (W : World) (base : Nat) (args : Array Value) (ds gs : List (DataW H)) (before : List MemPlace)
    (hval : ∀ (j : Nat) t v, Tryz.f3.params[j]? = some t → args[j]? = some v → Value.okWide Tryz.prog W .any base t v)
    (hW : DataW.Whole enc Tryz.prog Tryz.f3.params.toList Rows.deltaBackSpec.vars false W args.toList ds gs before)
    (hsz : (DataW.weightsEach Tryz.prog (Tryz.f3.params.toList ++ Rows.deltaBackSpec.plain.varTypes Tryz.prog) (ds ++ gs)).all (· ≤ reachBytes) = true) (hL : laidMetH Tryz.prog Rows.deltaBackRow.laid W) :
    Calls Tryz.prog 3 args W fun e W' => ∃ v, e = .returned v ∧ Rows.deltaBackSpec.post enc Tryz.prog Tryz.f3 false true false false W args v W' := by
  have hW' := hW
  obtain ⟨p, q, hA0, hV, rfl, hfz, hnd⟩ := hW
  have hA : DataW.TrodAll enc Tryz.prog W 0 (fun _ => true) true Tryz.f3.params.toList args.toList ds p := hA0
  rw [Tryz.params3] at hA hval hsz
  obtain ⟨v0, vs0, d0, ds0, p0, q0, hargs, rfl, rfl, h0, r0⟩ := trodAll_cons hA
  obtain ⟨rfl, rfl, rfl⟩ := trodAll_nil r0
  obtain rfl : args = #[v0] := by cases args; simp_all
  obtain ⟨rfl, rfl⟩ := trodVars_none hV
  have lt0 : ∀ x ∈ p0, x.block < W.heap.size := by obtain ⟨m, hm⟩ := h0; exact DataW.trod_lt m _ _ _ hm
  obtain ⟨rs0, ra0, rn0, rc0, rX0, rb0, rm0, re0, rY0, ss0, sa0, sn0, sc0, sX0, sb0, sm0, se0, sY0, rfl, hS0, hc0, hb0, hT0, hd0, hk0, hu0, hv0, gS0, gc0, gb0, gT0, gd0, gk0, gu0, gv0⟩ := open_Delta (hval 0 29 v0 rfl rfl) h0 (sized_at 0 hsz rfl rfl)
  clear hA0
  simp only [List.append_nil] at hW'
  refine (walk rs0 ra0 rn0 rc0 rX0 rb0 rm0 re0 rY0 ss0 sa0 sn0 sc0 sX0 sb0 sm0 se0 sY0 W hc0 hb0 hS0 hd0 hk0 hT0 gc0 gb0 gS0 gd0 gk0 gT0 (digs_of hL)).mono fun e W' ⟨he, bel⟩ => ?_
  subst he
  exact ⟨_, rfl, _, _, _, [], _, [], hW', trodAll_mk1 (shut_bool Tryz.underlying4 _), (trodAll_cons_mk (Below.trod laidOut (by kernel_rfl) (of_decide_eq_true (by kernel_rfl)) h0 bel lt0) trodAll_mk0), rfl, bel.frame _, fun h => by cases h⟩

def setCells (cs : Array Value) : Obj → Obj
  | .cells _ t frozen => .cells cs t frozen
  | o => o
set_option maxRecDepth 100000 in
noncomputable def laidWorld (os : Os) : World :=
  { World.holding Tryz.prog os ⟨#[], #[], []⟩ with heap := ((((World.holding Tryz.prog os ⟨#[], #[], []⟩).heap.modify 1 (setCells #[.int .u8 48, .int .u8 49, .int .u8 50, .int .u8 51, .int .u8 52, .int .u8 53, .int .u8 54, .int .u8 55, .int .u8 56, .int .u8 57, .int .u8 97, .int .u8 98, .int .u8 99, .int .u8 100, .int .u8 101, .int .u8 102])).modify 3 (setCells #[.int .u8 128, .int .u8 191, .int .u8 160, .int .u8 191, .int .u8 128, .int .u8 159, .int .u8 144, .int .u8 191, .int .u8 128, .int .u8 143, .int .u8 0, .int .u8 0, .int .u8 0, .int .u8 0, .int .u8 0, .int .u8 0, .int .u8 0, .int .u8 0, .int .u8 0, .int .u8 0, .int .u8 0, .int .u8 0, .int .u8 0, .int .u8 0, .int .u8 0, .int .u8 0, .int .u8 0, .int .u8 0, .int .u8 0, .int .u8 0, .int .u8 0, .int .u8 0])).modify 2 (setCells #[.int .u8 240, .int .u8 240, .int .u8 240, .int .u8 240, .int .u8 240, .int .u8 240, .int .u8 240, .int .u8 240, .int .u8 240, .int .u8 240, .int .u8 240, .int .u8 240, .int .u8 240, .int .u8 240, .int .u8 240, .int .u8 240, .int .u8 240, .int .u8 240, .int .u8 240, .int .u8 240, .int .u8 240, .int .u8 240, .int .u8 240, .int .u8 240, .int .u8 240, .int .u8 240, .int .u8 240, .int .u8 240, .int .u8 240, .int .u8 240, .int .u8 240, .int .u8 240, .int .u8 240, .int .u8 240, .int .u8 240, .int .u8 240, .int .u8 240, .int .u8 240, .int .u8 240, .int .u8 240, .int .u8 240, .int .u8 240, .int .u8 240, .int .u8 240, .int .u8 240, .int .u8 240, .int .u8 240, .int .u8 240, .int .u8 240, .int .u8 240, .int .u8 240, .int .u8 240, .int .u8 240, .int .u8 240, .int .u8 240, .int .u8 240, .int .u8 240, .int .u8 240, .int .u8 240, .int .u8 240, .int .u8 240, .int .u8 240, .int .u8 240, .int .u8 240, .int .u8 240, .int .u8 240, .int .u8 240, .int .u8 240, .int .u8 240, .int .u8 240, .int .u8 240, .int .u8 240, .int .u8 240, .int .u8 240, .int .u8 240, .int .u8 240, .int .u8 240, .int .u8 240, .int .u8 240, .int .u8 240, .int .u8 240, .int .u8 240, .int .u8 240, .int .u8 240, .int .u8 240, .int .u8 240, .int .u8 240, .int .u8 240, .int .u8 240, .int .u8 240, .int .u8 240, .int .u8 240, .int .u8 240, .int .u8 240, .int .u8 240, .int .u8 240, .int .u8 240, .int .u8 240, .int .u8 240, .int .u8 240, .int .u8 240, .int .u8 240, .int .u8 240, .int .u8 240, .int .u8 240, .int .u8 240, .int .u8 240, .int .u8 240, .int .u8 240, .int .u8 240, .int .u8 240, .int .u8 240, .int .u8 240, .int .u8 240, .int .u8 240, .int .u8 240, .int .u8 240, .int .u8 240, .int .u8 240, .int .u8 240, .int .u8 240, .int .u8 240, .int .u8 240, .int .u8 240, .int .u8 240, .int .u8 240, .int .u8 240, .int .u8 240, .int .u8 241, .int .u8 241, .int .u8 241, .int .u8 241, .int .u8 241, .int .u8 241, .int .u8 241, .int .u8 241, .int .u8 241, .int .u8 241, .int .u8 241, .int .u8 241, .int .u8 241, .int .u8 241, .int .u8 241, .int .u8 241, .int .u8 241, .int .u8 241, .int .u8 241, .int .u8 241, .int .u8 241, .int .u8 241, .int .u8 241, .int .u8 241, .int .u8 241, .int .u8 241, .int .u8 241, .int .u8 241, .int .u8 241, .int .u8 241, .int .u8 241, .int .u8 241, .int .u8 241, .int .u8 241, .int .u8 241, .int .u8 241, .int .u8 241, .int .u8 241, .int .u8 241, .int .u8 241, .int .u8 241, .int .u8 241, .int .u8 241, .int .u8 241, .int .u8 241, .int .u8 241, .int .u8 241, .int .u8 241, .int .u8 241, .int .u8 241, .int .u8 241, .int .u8 241, .int .u8 241, .int .u8 241, .int .u8 241, .int .u8 241, .int .u8 241, .int .u8 241, .int .u8 241, .int .u8 241, .int .u8 241, .int .u8 241, .int .u8 241, .int .u8 241, .int .u8 241, .int .u8 241, .int .u8 2, .int .u8 2, .int .u8 2, .int .u8 2, .int .u8 2, .int .u8 2, .int .u8 2, .int .u8 2, .int .u8 2, .int .u8 2, .int .u8 2, .int .u8 2, .int .u8 2, .int .u8 2, .int .u8 2, .int .u8 2, .int .u8 2, .int .u8 2, .int .u8 2, .int .u8 2, .int .u8 2, .int .u8 2, .int .u8 2, .int .u8 2, .int .u8 2, .int .u8 2, .int .u8 2, .int .u8 2, .int .u8 2, .int .u8 2, .int .u8 19, .int .u8 3, .int .u8 3, .int .u8 3, .int .u8 3, .int .u8 3, .int .u8 3, .int .u8 3, .int .u8 3, .int .u8 3, .int .u8 3, .int .u8 3, .int .u8 3, .int .u8 35, .int .u8 3, .int .u8 3, .int .u8 52, .int .u8 4, .int .u8 4, .int .u8 4, .int .u8 68, .int .u8 241, .int .u8 241, .int .u8 241, .int .u8 241, .int .u8 241, .int .u8 241, .int .u8 241, .int .u8 241, .int .u8 241, .int .u8 241, .int .u8 241])) }
set_option maxRecDepth 100000 in
theorem laid_met (os : Os) : laidMet Tryz.prog Rows.deltaBackRow.laid ((laidWorld os).forCall (fun _ _ => 0) ⟨#[], #[.agg #[.bool false, .slice none 0 0, .slice none 0 0, .bool false, .slice none 0 0, .slice none 0 0]], []⟩).memory :=
  laidMet_of_run' 8 (by kernel_rfl) (by kernel_rfl)
theorem reads (os : Os) {H : Type} (enc : TypeId × Value → H) : ∃ places, DataW.whole enc Tryz.prog ((laidWorld os).forCall (fun _ _ => 0) ⟨#[], #[.agg #[.bool false, .slice none 0 0, .slice none 0 0, .bool false, .slice none 0 0, .slice none 0 0]], []⟩).memory Tryz.f3.params.toList Rows.deltaBackSpec.vars false [Value.agg #[.bool false, .slice none 0 0, .slice none 0 0, .bool false, .slice none 0 0, .slice none 0 0]] 8 = some ([.agg [.agg [.agg [.lit (.bool false), .nil], .nil], .agg [.agg [.lit (.bool false), .nil], .nil]]], [], places) :=
  ⟨[], by kernel_rfl⟩

set_option maxRecDepth 100000 in
theorem liftedUpto (os : Os) (started : os.Started) (H : Type) (enc : TypeId × Value → H) (F : Stop.Interp) :
    ReturnsInHanded {} Tryz.checked os 3 .any ((OpenSpec.ofChange Rows.deltaBackSpec).preRow enc Tryz.prog Tryz.f3 Rows.deltaBackRow.domain false Rows.deltaBackRow.laid) (((OpenSpec.ofChange Rows.deltaBackSpec).at F).post enc Tryz.prog Tryz.f3 false true false false) := by
  obtain ⟨places, hx⟩ := reads os enc
  refine returnsInHanded_of_row (C := Tryz.checked) (s := OpenSpec.ofChange Rows.deltaBackSpec) own started (by kernel_rfl) Tryz.func3
    (witness_row_at (enc := enc) (C := Tryz.checked) false (laidWorld os) #[.agg #[.bool false, .slice none 0 0, .slice none 0 0, .bool false, .slice none 0 0, .slice none 0 0]] rfl (by kernel_rfl) (by kernel_rfl) (by kernel_rfl)
      (OpenSpec.preRow_of_cond 8 hx (by kernel_rfl) (fun k hk => by cases hk) (by kernel_rfl) (laid_met os))) ?_
  intro W base args ds gs before hval hW _ hk hsz hL hSh _
  exact contract H enc W base args ds gs before hval hW hsz hL

theorem saidUpto : Rows.DeltaBackSaid :=
  OpenClaim.holds_of_cond 3 Tryz.f3 rfl rfl rfl rfl rfl rfl rfl ⟨rfl, rfl, rfl, rfl, rfl⟩ rfl rfl rfl rfl rfl (by kernel_rfl) Tryz.func3 (by kernel_rfl)
    (of_decide_eq_true (by kernel_rfl)) (by unfold Func.isWrapper; first | (rw [if_pos (by decide +kernel)]; kernel_rfl) | (rw [if_neg (by decide +kernel)]; exact ⟨rfl, rfl⟩))
    (fun os started H enc _ F => by rw [OpenClaim.pre_eq_preRow]; exact liftedUpto os started H enc F)

theorem plain (f : FuncId) (fn : Func) (hf : Tryz.pinned.checked.prog.funcNamed "fulcrum/fulcrumlaw05.DeltaBack" = some f) (hfn : Tryz.pinned.checked.prog.funcs[f]? = some fn) :
    false = Tryz.pinned.checked.prog.looks [] ∧ ∀ (j : Nat) t, fn.params[j]? = some t → Tryz.pinned.checked.prog.wantsStandIn t = false := by
  obtain rfl : f = 3 := Option.some.inj ((show Tryz.prog.funcNamed "fulcrum/fulcrumlaw05.DeltaBack" = some 3 by kernel_rfl).symm.trans hf) |>.symm
  obtain rfl : fn = Tryz.f3 := (Option.some.inj (Tryz.func3.symm.trans hfn)).symm
  refine ⟨by kernel_rfl, fun j t ht => ?_⟩
  rw [Tryz.params3] at ht
  have hm := Array.mem_of_getElem? ht
  simp only [List.mem_toArray, List.mem_cons, List.not_mem_nil, or_false] at hm
  subst hm
  · exact (show Tryz.prog.wantsStandIn 29 = false by kernel_rfl)

theorem cardUpto : Rows.DeltaBackCardSaid :=
  Claim7.holds_tied_plain_at .later [] _ _ _ _ saidUpto (fun _ h => by cases h) (by kernel_rfl) (fun _ h => by cases h) deltaBack_row_tie rfl ⟨rfl, rfl⟩ (by kernel_rfl) rfl plain (by kernel_rfl)
end Go.Proofs.YtkfdgpidhghhdaaGreatDoor.deltaBack
namespace Go.Proofs.YtkfdgpidhghhdaaGreatDoor
theorem deltaBack_holds : Rows.DeltaBackCardSaid := deltaBack.cardUpto
#print axioms deltaBack_holds
end Go.Proofs.YtkfdgpidhghhdaaGreatDoor
