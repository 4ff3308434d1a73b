/-
  The reference's Parse of any text.
-/
import Derived.Test.YtjbeagbkjmaeeaaGreatDoorWQ7
import Derived.Test.YtjbeagbkjmaeeaaGreatDoorWQ3
import Derived.Test.YtjbeagbkjmaeeaaGreatDoorWD0
import Derived.Test.YtjbeagbkjmaeeaaGreatDoorWQ5
import Derived.Test.YtjbeagbkjmaeeaaGreatDoorWQN
import Derived.Test.YtjbeagbkjmaeeaaGreatDoorWEG
namespace Go.Proofs.YtjbeagbkjmaeeaaGreatDoor
open Go.RowKit
set_option linter.unusedVariables false

theorem Seg.set3 {w : World} {p : Option Addr} {X n c : Nat} {u0 u1 u2 : Value} {z0 : Bool} {a1 a2 : Option Addr} {n1 n2 k1 k2 : Nat} (h : Seg w p X n) (h0 : w.cell? ⟨c, 0, none⟩ = some (.bool z0)) (h1 : w.cell? ⟨c, 1, none⟩ = some (.slice a1 n1 k1)) (h2 : w.cell? ⟨c, 2, none⟩ = some (.slice a2 n2 k2)) :
    Seg (((w.setCell ⟨c, 0, none⟩ u0).setCell ⟨c, 1, none⟩ u1).setCell ⟨c, 2, none⟩ u2) p X n := by
  refine ((h.setB h0 (by simp)).setB (z := .slice a1 n1 k1) ?_ (by simp)).setB (z := .slice a2 n2 k2) ?_ (by simp)
  · rw [World.cell?_setCell_other _ _ _ _ (fun e => by simp at e)]; exact h1
  · rw [World.cell?_setCell_other _ _ _ _ (fun e => by simp at e), World.cell?_setCell_other _ _ _ _ (fun e => by simp at e)]; exact h2

end Go.Proofs.YtjbeagbkjmaeeaaGreatDoor

namespace Go.Proofs.YtjbeagbkjmaeeaaGreatDoor
open Go.RowKit
set_option linter.unusedVariables false

end Go.Proofs.YtjbeagbkjmaeeaaGreatDoor

namespace Go.Proofs.YtjbeagbkjmaeeaaGreatDoor
open Go.RowKit
set_option linter.unusedVariables false


end Go.Proofs.YtjbeagbkjmaeeaaGreatDoor

namespace Go.Proofs.YtjbeagbkjmaeeaaGreatDoor
open Go.RowKit
set_option linter.unusedVariables false

set_option maxHeartbeats 4000000 in
set_option maxRecDepth 100000 in
theorem vdNorm_is (s0 : Bool) (a0 : Option Addr) (n0 c0 X0 : Nat) (b0 : Option Addr) (m0 d0 Y0 : Nat) (s1 : Bool) (a1 : Option Addr) (n1 c1 X1 : Nat) (b1 : Option Addr) (m1 d1 Y1 : Nat) (Z : Int) (V : Nat) (Z2 : Int) (V2 : Nat) (w : World) (hc0 : n0 ≤ c0) (hm0 : n0 ≤ 35184372088000) (hS0 : Seg w a0 X0 n0) (hd0 : m0 ≤ d0) (hk0 : m0 ≤ 35184372088000) (hT0 : Seg w b0 Y0 m0) (hc1 : n1 ≤ c1) (hm1 : n1 ≤ 35184372088000) (hS1 : Seg w a1 X1 n1) (hd1 : m1 ≤ d1) (hk1 : m1 ≤ 35184372088000) (hT1 : Seg w b1 Y1 m1) (hL : Low (rn s0 X0 Y0) (rd Y0 : Nat) Z V) (hL2 : Low (rn s1 X1 Y1) (rd Y1 : Nat) Z2 V2) :
    Calls Tryz.prog 32 #[Value.agg #[Value.bool s0, Value.slice a0 n0 c0, Value.slice b0 m0 d0, Value.bool s1, Value.slice a1 n1 c1, Value.slice b1 m1 d1]] w fun e w' => ∃ p q r t, e = .returned (Value.agg #[Value.bool (ng Z), Value.slice p (ln (am Z)) (ln (am Z)), Value.slice q (ln V) (ln V), Value.bool (ng Z2), Value.slice r (ln (am Z2)) (ln (am Z2)), Value.slice t (ln V2) (ln V2)]) ∧ New w w' p (am Z) (ln (am Z)) ∧ New w w' q V (ln V) ∧ New w w' r (am Z2) (ln (am Z2)) ∧ New w w' t V2 (ln V2) := by
  have HL := hide' hL
  have HL2 := hide' hL2
  clear hL hL2
  go_enter Tryz.func32, Tryz.ntmps32
  go_wp2_with fail
  obtain ⟨W, hW⟩ : ∃ W, ((w.alloc (.cells #[.bool s0, .slice a0 n0 c0, .slice b0 m0 d0, .bool s1, .slice a1 n1 c1, .slice b1 m1 d1] 29)).alloc (.cells #[.bool false, .slice none 0 0, .slice none 0 0, .bool false, .slice none 0 0, .slice none 0 0] 29)) = W := ⟨_, rfl⟩
  have q00 : W.cell? ⟨w.heap.size, 0, none⟩ = some (.bool s0) := by subst hW; go_simp
  have q01 : W.cell? ⟨w.heap.size, 1, none⟩ = some (.slice a0 n0 c0) := by subst hW; go_simp
  have q02 : W.cell? ⟨w.heap.size, 2, none⟩ = some (.slice b0 m0 d0) := by subst hW; go_simp
  have q03 : W.cell? ⟨w.heap.size, 3, none⟩ = some (.bool s1) := by subst hW; go_simp
  have q04 : W.cell? ⟨w.heap.size, 4, none⟩ = some (.slice a1 n1 c1) := by subst hW; go_simp
  have q05 : W.cell? ⟨w.heap.size, 5, none⟩ = some (.slice b1 m1 d1) := by subst hW; go_simp
  have r00 : W.cell? ⟨w.heap.size + 1, 0, none⟩ = some (.bool false) := by subst hW; go_simp
  have r01 : W.cell? ⟨w.heap.size + 1, 1, none⟩ = some (.slice none 0 0) := by subst hW; go_simp
  have r02 : W.cell? ⟨w.heap.size + 1, 2, none⟩ = some (.slice none 0 0) := by subst hW; go_simp
  have r03 : W.cell? ⟨w.heap.size + 1, 3, none⟩ = some (.bool false) := by subst hW; go_simp
  have r04 : W.cell? ⟨w.heap.size + 1, 4, none⟩ = some (.slice none 0 0) := by subst hW; go_simp
  have r05 : W.cell? ⟨w.heap.size + 1, 5, none⟩ = some (.slice none 0 0) := by subst hW; go_simp
  have hB : Below w.heap.size w W := by subst hW; exact (((Below.refl _ _).alloc (by (try simp only [World.size_alloc]); omega) _).alloc (by (try simp only [World.size_alloc]); omega) _)
  have hR0 : Row W (w.heap.size + 1) := by
    have := row_new ((w.alloc (.cells #[.bool s0, .slice a0 n0 c0, .slice b0 m0 d0, .bool s1, .slice a1 n1 c1, .slice b1 m1 d1] 29))) #[.bool false, .slice none 0 0, .slice none 0 0, .bool false, .slice none 0 0, .slice none 0 0] 29
    try simp only [World.size_alloc] at this
    subst hW; exact this
  have hz : W.heap.size = w.heap.size + 1 + 1 := by subst hW; simp only [World.size_alloc]
  rw [hW]
  clear hW
  have hBW : Below W.heap.size W W := Below.refl _ _
  replace hBW := hBW.drew
  first
    | go_region_held3 (fun w' => w'.cell? ⟨w.heap.size, 0, none⟩ = some (.bool s0) ∧ w'.cell? ⟨w.heap.size, 1, none⟩ = some (.slice a0 n0 c0) ∧ w'.cell? ⟨w.heap.size, 2, none⟩ = some (.slice b0 m0 d0) ∧ w'.cell? ⟨w.heap.size, 3, none⟩ = some (.bool s1) ∧ w'.cell? ⟨w.heap.size, 4, none⟩ = some (.slice a1 n1 c1) ∧ w'.cell? ⟨w.heap.size, 5, none⟩ = some (.slice b1 m1 d1) ∧ Below w.heap.size w w')
        (first | with_reducible exact kpT6_6 (by assumption) (by omega) (by omega) (by omega) (by omega) (by omega) (by omega) (by omega) | exact ⟨q00, q01, q02, q03, q04, q05, hB.trans (hBW.mono hB.size)⟩ | exact kp6 b41 (by assumption) | exact kp6 b42 (by assumption) | exact kp6 (below_alloc _) (by assumption) | exact kp6 (below_alloc _) ⟨q00, q01, q02, q03, q04, q05, hB.trans (hBW.mono hB.size)⟩ | exact kpT6_6 (by assumption) (by omega) (by omega) (by omega) (by omega) (by omega) (by omega) (by omega))
        (first
          | (go_at_call 27; go_at_call_of 27 (Value.agg #[Value.bool s0, Value.slice a0 n0 c0, Value.slice b0 m0 d0]); (fail_if_success clear b41); refine (vqNorm_is s0 a0 n0 c0 X0 b0 m0 d0 Y0 V Z _ (by omega) (sb hS0 hB hBW) (by omega) (sb hT0 hB hBW) HL.out).mono ?_; rintro e w41 ⟨p41, q41, rfl, hp41, hq41⟩; have b41 := hp41.below; replace hp41 := hp41.back hBW; replace hq41 := hq41.back hBW; replace hBW := hBW.trans (b41.mono hBW.size); replace q00 := below_cell b41 q00; replace q01 := below_cell b41 q01; replace q02 := below_cell b41 q02; replace q03 := below_cell b41 q03; replace q04 := below_cell b41 q04; replace q05 := below_cell b41 q05; replace r00 := below_cell b41 r00; replace r01 := below_cell b41 r01; replace r02 := below_cell b41 r02; replace r03 := below_cell b41 r03; replace r04 := below_cell b41 r04; replace r05 := below_cell b41 r05; replace hR0 := below_row b41 hR0)
          | (go_at_call 27; go_at_call_of 27 (Value.agg #[Value.bool s1, Value.slice a1 n1 c1, Value.slice b1 m1 d1]); (fail_if_success clear b42); refine (vqNorm_is s1 a1 n1 c1 X1 b1 m1 d1 Y1 V2 Z2 _ (by omega) (sb hS1 hB hBW) (by omega) (sb hT1 hB hBW) HL2.out).mono ?_; rintro e w42 ⟨p42, q42, rfl, hp42, hq42⟩; have b42 := hp42.below; replace hp42 := hp42.back hBW; replace hq42 := hq42.back hBW; replace hBW := hBW.trans (b42.mono hBW.size); replace q00 := below_cell b42 q00; replace q01 := below_cell b42 q01; replace q02 := below_cell b42 q02; replace q03 := below_cell b42 q03; replace q04 := below_cell b42 q04; replace q05 := below_cell b42 q05; replace r00 := below_cell b42 r00; replace r01 := below_cell b42 r01; replace r02 := below_cell b42 r02; replace r03 := below_cell b42 r03; replace r04 := below_cell b42 r04; replace r05 := below_cell b42 r05; replace hR0 := below_row b42 hR0; replace hp41 := hp41.later b42; replace hq41 := hq41.later b42; have fz := fun o => hR0.frozen o))
    | fail
  have fz0 := fun o => hR0.frozen o
  go_wp2
  all_goals refine bodyPost_ret (v := Value.agg #[Value.bool (ng Z), Value.slice p41 (ln (am Z)) (ln (am Z)), Value.slice q41 (ln V) (ln V), Value.bool (ng Z2), Value.slice p42 (ln (am Z2)) (ln (am Z2)), Value.slice q42 (ln V2) (ln V2)]) (by rw [results_cell rfl]; go_simp) rfl ?_
  all_goals exact ⟨p41, q41, p42, q42, rfl, hp41.mid hB ((((((((Mid.refl _ _ _).set _ _ (by omega) (by omega) _).set _ _ (by omega) (by omega) _).set _ _ (by omega) (by omega) _).set _ _ (by omega) (by omega) _).set _ _ (by omega) (by omega) _).set _ _ (by omega) (by omega) _)), hq41.mid hB ((((((((Mid.refl _ _ _).set _ _ (by omega) (by omega) _).set _ _ (by omega) (by omega) _).set _ _ (by omega) (by omega) _).set _ _ (by omega) (by omega) _).set _ _ (by omega) (by omega) _).set _ _ (by omega) (by omega) _)), hp42.mid hB ((((((((Mid.refl _ _ _).set _ _ (by omega) (by omega) _).set _ _ (by omega) (by omega) _).set _ _ (by omega) (by omega) _).set _ _ (by omega) (by omega) _).set _ _ (by omega) (by omega) _).set _ _ (by omega) (by omega) _)), hq42.mid hB ((((((((Mid.refl _ _ _).set _ _ (by omega) (by omega) _).set _ _ (by omega) (by omega) _).set _ _ (by omega) (by omega) _).set _ _ (by omega) (by omega) _).set _ _ (by omega) (by omega) _).set _ _ (by omega) (by omega) _))⟩


end Go.Proofs.YtjbeagbkjmaeeaaGreatDoor

namespace Go.Proofs.YtjbeagbkjmaeeaaGreatDoor
open Go.RowKit
set_option linter.unusedVariables false

end Go.Proofs.YtjbeagbkjmaeeaaGreatDoor

namespace Go.Proofs.YtjbeagbkjmaeeaaGreatDoor
open Go.RowKit
set_option linter.unusedVariables false

end Go.Proofs.YtjbeagbkjmaeeaaGreatDoor

namespace Go.Proofs.YtjbeagbkjmaeeaaGreatDoor
open Go.RowKit
set_option linter.unusedVariables false

theorem Seg.none (w : World) : Seg w none 0 0 := ⟨by simp, fun h => absurd h (by omega)⟩
theorem low_none {Z : Int} {V : Nat} (h1 : Z = 0) (h2 : V = 1) : Low (rn false 0 0) ((rd 0 : Nat) : Int) Z V := by
  subst h1 h2
  exact low_zero (rd_ne 0)
set_option maxHeartbeats 2000000 in
set_option maxRecDepth 100000 in
theorem vdOf_is (s0 : Bool) (a0 : Option Addr) (n0 c0 X0 : Nat) (b0 : Option Addr) (m0 d0 Y0 : Nat) (Z : Int) (V : Nat) (Z2 : Int) (V2 : Nat) (w : World) (hc0 : n0 ≤ c0) (hm0 : n0 ≤ 35184372088000) (hS0 : Seg w a0 X0 n0) (hd0 : m0 ≤ d0) (hk0 : m0 ≤ 35184372088000) (hT0 : Seg w b0 Y0 m0) (hL : Low (rn s0 X0 Y0) (rd Y0 : Nat) Z V) (hZ2 : Z2 = 0) (hV2 : V2 = 1) :
    Calls Tryz.prog 14 #[Value.agg #[Value.bool s0, Value.slice a0 n0 c0, Value.slice b0 m0 d0]] w fun e w' => ∃ p q r t, e = .returned (Value.agg #[Value.bool (ng Z), Value.slice p (ln (am Z)) (ln (am Z)), Value.slice q (ln V) (ln V), Value.bool (ng Z2), Value.slice r (ln (am Z2)) (ln (am Z2)), Value.slice t (ln V2) (ln V2)]) ∧ New w w' p (am Z) (ln (am Z)) ∧ New w w' q V (ln V) ∧ New w w' r (am Z2) (ln (am Z2)) ∧ New w w' t V2 (ln V2) := by
  have HL := hide' hL
  have H2 := hide' (low_none hZ2 hV2)
  clear hL hZ2 hV2
  go_enter Tryz.func14, Tryz.ntmps14
  go_wp2_with fail
  obtain ⟨W, hW⟩ : ∃ W, ((w.alloc (.cells #[.bool s0, .slice a0 n0 c0, .slice b0 m0 d0] 27)).alloc (.cells #[.bool false, .slice none 0 0, .slice none 0 0, .bool false, .slice none 0 0, .slice none 0 0] 29)) = W := ⟨_, rfl⟩
  have q00 : W.cell? ⟨w.heap.size, 0, none⟩ = some (.bool s0) := by subst hW; go_simp
  have q01 : W.cell? ⟨w.heap.size, 1, none⟩ = some (.slice a0 n0 c0) := by subst hW; go_simp
  have q02 : W.cell? ⟨w.heap.size, 2, none⟩ = some (.slice b0 m0 d0) := by subst hW; go_simp
  have r00 : W.cell? ⟨w.heap.size + 1, 0, none⟩ = some (.bool false) := by subst hW; go_simp
  have r01 : W.cell? ⟨w.heap.size + 1, 1, none⟩ = some (.slice none 0 0) := by subst hW; go_simp
  have r02 : W.cell? ⟨w.heap.size + 1, 2, none⟩ = some (.slice none 0 0) := by subst hW; go_simp
  have r03 : W.cell? ⟨w.heap.size + 1, 3, none⟩ = some (.bool false) := by subst hW; go_simp
  have r04 : W.cell? ⟨w.heap.size + 1, 4, none⟩ = some (.slice none 0 0) := by subst hW; go_simp
  have r05 : W.cell? ⟨w.heap.size + 1, 5, none⟩ = some (.slice none 0 0) := by subst hW; go_simp
  have hB : Below w.heap.size w W := by subst hW; exact (((Below.refl _ _).alloc (by (try simp only [World.size_alloc]); omega) _).alloc (by (try simp only [World.size_alloc]); omega) _)
  have hR0 : Row W (w.heap.size + 1) := by
    have := row_new ((w.alloc (.cells #[.bool s0, .slice a0 n0 c0, .slice b0 m0 d0] 27))) #[.bool false, .slice none 0 0, .slice none 0 0, .bool false, .slice none 0 0, .slice none 0 0] 29
    try simp only [World.size_alloc] at this
    subst hW; exact this
  have hz : W.heap.size = w.heap.size + 1 + 1 := by subst hW; simp only [World.size_alloc]
  rw [hW]
  clear hW
  have hBW : Below W.heap.size W W := Below.refl _ _
  refine (vdNorm_is s0 a0 n0 c0 X0 b0 m0 d0 Y0 false none 0 0 0 none 0 0 0 Z V Z2 V2 _ hc0 (by omega) (sb hS0 hB hBW) hd0 (by omega) (sb hT0 hB hBW) (Nat.le_refl _) (by omega) (Seg.none _) (Nat.le_refl _) (by omega) (Seg.none _) HL.out H2.out).mono ?_
  rintro e w41 ⟨p41, q41, r41, t41, rfl, hp41, hq41, hr41, ht41⟩
  have b41 := hp41.below
  replace hp41 := hp41.back hBW
  replace hq41 := hq41.back hBW
  replace hr41 := hr41.back hBW
  replace ht41 := ht41.back hBW
  replace hBW := hBW.trans (b41.mono hBW.size)
  replace q00 := below_cell b41 q00
  replace q01 := below_cell b41 q01
  replace q02 := below_cell b41 q02
  replace r00 := below_cell b41 r00
  replace r01 := below_cell b41 r01
  replace r02 := below_cell b41 r02
  replace r03 := below_cell b41 r03
  replace r04 := below_cell b41 r04
  replace r05 := below_cell b41 r05
  replace hR0 := below_row b41 hR0
  have fz0 := fun o => hR0.frozen o
  go_wp2
  all_goals refine bodyPost_ret (v := Value.agg #[Value.bool (ng Z), Value.slice p41 (ln (am Z)) (ln (am Z)), Value.slice q41 (ln V) (ln V), Value.bool (ng Z2), Value.slice r41 (ln (am Z2)) (ln (am Z2)), Value.slice t41 (ln V2) (ln V2)]) (by rw [results_cell rfl]; go_simp) rfl ?_
  all_goals exact ⟨p41, q41, r41, t41, rfl, hp41.mid hB ((((((((Mid.refl _ _ _).set _ _ (by omega) (by omega) _).set _ _ (by omega) (by omega) _).set _ _ (by omega) (by omega) _).set _ _ (by omega) (by omega) _).set _ _ (by omega) (by omega) _).set _ _ (by omega) (by omega) _)), hq41.mid hB ((((((((Mid.refl _ _ _).set _ _ (by omega) (by omega) _).set _ _ (by omega) (by omega) _).set _ _ (by omega) (by omega) _).set _ _ (by omega) (by omega) _).set _ _ (by omega) (by omega) _).set _ _ (by omega) (by omega) _)), hr41.mid hB ((((((((Mid.refl _ _ _).set _ _ (by omega) (by omega) _).set _ _ (by omega) (by omega) _).set _ _ (by omega) (by omega) _).set _ _ (by omega) (by omega) _).set _ _ (by omega) (by omega) _).set _ _ (by omega) (by omega) _)), ht41.mid hB ((((((((Mid.refl _ _ _).set _ _ (by omega) (by omega) _).set _ _ (by omega) (by omega) _).set _ _ (by omega) (by omega) _).set _ _ (by omega) (by omega) _).set _ _ (by omega) (by omega) _).set _ _ (by omega) (by omega) _))⟩

end Go.Proofs.YtjbeagbkjmaeeaaGreatDoor

namespace Go.Proofs.YtjbeagbkjmaeeaaGreatDoor
open Go.RowKit
set_option linter.unusedVariables false
set_option linter.unusedSimpArgs false
/-- at this sign the text is a number's -/
def Hit (s : ByteArray) (j : Nat) : Prop := ∃ ZA VA Z2 VB, (byt s j = 43 ∨ byt s j = 45) ∧ byt s (s.size - 1) = 100 ∧ RQ (s.extract 0 j) ZA VA ∧ RQ (s.extract (j + 1) (s.size - 1)) Z2 VB ∧ TxD ZA VA (if byt s j = 45 then -Z2 else Z2) VB s
theorem noD {s : ByteArray} (h0 : ∀ ZA VA, RQ s ZA VA → ¬ TxD ZA VA 0 1 s) (h1 : ∀ j, 1 ≤ j → j + 1 < s.size → ¬ Hit s j) : ∀ ZA VA ZB VB, NmD ZA VA ZB VB → ¬ TxD ZA VA ZB VB s := fun ZA VA ZB VB hN hX => by
  by_cases hz : ZB = 0
  · obtain ⟨_, a2, a3⟩ := hX.first hN hz
    subst hz a3
    exact h0 _ _ a2 hX
  · obtain ⟨i, i1, i2, a1, a2, a3, ⟨Z2, a4, a5⟩, a6⟩ := hX.parts hN hz
    refine h1 i i1 i2 ⟨ZA, VA, Z2, VB, by rw [a2]; split <;> simp, a1, a3, a4, ?_⟩
    by_cases g : 0 < ZB
    · rw [if_pos g] at a2 a5
      rw [a2, if_neg (by decide), ← a5]; exact hX
    · rw [if_neg g] at a2 a5
      rw [a2, if_pos rfl, ← a5]; exact hX
set_option maxHeartbeats 8000000 in
set_option maxRecDepth 100000 in
theorem vdParse_own (s : ByteArray) (hs : s.size ≤ 16777216) (Z0 : Int) (V0 : Nat) (h0 : RQ s Z0 V0) (hS : TxD Z0 V0 0 1 s) (w : World) : Calls Tryz.prog 5 #[.string s] w fun e w' => (∃ (ZA : Int) (VA : Nat) (ZB : Int) (VB : Nat) (p q r t : Option Addr), NmD ZA VA ZB VB ∧ TxD ZA VA ZB VB s ∧ e = .returned (.tuple #[.agg #[.bool (ng ZA), .slice p (ln (am ZA)) (ln (am ZA)), .slice q (ln VA) (ln VA), .bool (ng ZB), .slice r (ln (am ZB)) (ln (am ZB)), .slice t (ln VB) (ln VB)], .int .i64 0]) ∧ Below w.heap.size w w' ∧ Seg w' p (am ZA) (ln (am ZA)) ∧ Seg w' q VA (ln VA) ∧ Seg w' r (am ZB) (ln (am ZB)) ∧ Seg w' t VB (ln VB)) ∨ ((∀ ZA VA ZB VB, NmD ZA VA ZB VB → ¬ TxD ZA VA ZB VB s) ∧ e = .returned (.tuple #[.agg #[.bool false, .slice none 0 0, .slice none 0 0, .bool false, .slice none 0 0, .slice none 0 0], .int .i64 50]) ∧ Below w.heap.size w w') := by
  have l0 := h0.low
  have hN : NmD Z0 V0 0 1 := ⟨l0.1, l0.2.1, by omega, by decide⟩
  have HF := hide' (And.intro hN hS)
  have hne3 : (s.toList == s.toList) = true := by simp
  obtain ⟨X, Y, h1, h2⟩ := h0
  have G1 := hide' (fun w' => vqParse_some s X Y V0 Z0 (by omega) h1 h2 w')
  have GO := hide' (fun p q w' k1 k2 => vdOf_is (ng Z0) p (ln (am Z0)) (ln (am Z0)) (am Z0) q (ln V0) (ln V0) V0 Z0 V0 0 1 w' (Nat.le_refl _) (by omega) k1 (Nat.le_refl _) (by omega) k2 ((Low.self l0.1 l0.2.1).nf l0.1) rfl rfl)
  have GT := hide' (fun p q r t w' k1 k2 k3 k4 => vTextT Z0 V0 0 1 s hN hS (by omega) (by omega) (by rw [show am 0 = 0 from rfl, ln_zero]; omega) (by rw [ln_one]; omega) p q r t w' k1 k2 k3 k4)
  clear l0 hN hS h1 h2
  have bel := below_alloc (w := w) (.cells #[.bool false, .slice none 0 0, .slice none 0 0, .bool false, .slice none 0 0, .slice none 0 0] 29)
  have qR := Blk.new w #[.bool false, .slice none 0 0, .slice none 0 0, .bool false, .slice none 0 0, .slice none 0 0] 29
  go_enter Tryz.func5, Tryz.ntmps5
  go_wp2_with fail
  refine (G1.out _).mono ?_
  rintro e w1 ⟨p0, q0, rfl, bb, kp0, kq0⟩
  replace qR := qR.later bb
  replace bel := bel.trans (bb.mono bel.size)
  clear bb
  have q4 := Blk.new w1 #[.bool (ng Z0), .slice p0 (ln (am Z0)) (ln (am Z0)), .slice q0 (ln V0) (ln V0)] 27
  have bb := below_alloc (w := w1) (.cells #[.bool (ng Z0), .slice p0 (ln (am Z0)) (ln (am Z0)), .slice q0 (ln V0) (ln V0)] 27)
  replace qR := qR.later bb
  replace kp0 := kp0.later bb
  replace kq0 := kq0.later bb
  replace bel := bel.trans (bb.mono bel.size)
  clear bb
  have x0 := q4.cell 0
  have x1 := q4.cell 1
  have x2 := q4.cell 2
  simp only [List.getElem?_toArray, List.getElem?_cons_zero, List.getElem?_cons_succ] at x0 x1 x2
  go_wp2_with fail
  clear x0 x1 x2
  refine (GO.out p0 q0 _ kp0 kq0).mono ?_
  rintro e w2 ⟨p1, q1, r1, t1, rfl, n1, n2, n3, n4⟩
  have bb := n1.below
  have s1 := n1.seg
  have s2 := n2.seg
  have s3 := n3.seg
  have s4 := n4.seg
  clear n1 n2 n3 n4
  replace qR := qR.later bb
  replace kp0 := kp0.later bb
  replace kq0 := kq0.later bb
  replace q4 := q4.later bb
  replace bel := bel.trans (bb.mono bel.size)
  clear bb
  go_wp2_with fail
  refine (GT.out p1 q1 r1 t1 _ s1 s2 s3 s4).mono ?_
  rintro e w3 ⟨rfl, bb⟩
  replace qR := qR.later bb
  replace kp0 := kp0.later bb
  replace kq0 := kq0.later bb
  replace q4 := q4.later bb
  replace s1 := s1.later bb
  replace s2 := s2.later bb
  replace s3 := s3.later bb
  replace s4 := s4.later bb
  replace bel := bel.trans (bb.mono bel.size)
  clear bb
  have x0 := q4.cell 0
  have x1 := q4.cell 1
  have x2 := q4.cell 2
  simp only [List.getElem?_toArray, List.getElem?_cons_zero, List.getElem?_cons_succ] at x0 x1 x2
  go_wp2_with fail
  clear x0 x1 x2
  refine (GO.out p0 q0 _ kp0 kq0).mono ?_
  rintro e w4 ⟨p2, q2, r2, t2, rfl, n1, n2, n3, n4⟩
  have bb := n1.below
  have u1 := n1.seg
  have u2 := n2.seg
  have u3 := n3.seg
  have u4 := n4.seg
  clear n1 n2 n3 n4
  replace qR := qR.later bb
  replace kp0 := kp0.later bb
  replace kq0 := kq0.later bb
  replace q4 := q4.later bb
  replace s1 := s1.later bb
  replace s2 := s2.later bb
  replace s3 := s3.later bb
  replace s4 := s4.later bb
  replace bel := bel.trans (bb.mono bel.size)
  clear bb
  have v0 := qR.cell 0
  have v1 := qR.cell 1
  have v2 := qR.cell 2
  have v3 := qR.cell 3
  have v4 := qR.cell 4
  have v5 := qR.cell 5
  simp only [List.getElem?_toArray, List.getElem?_cons_zero, List.getElem?_cons_succ] at v0 v1 v2 v3 v4 v5
  have fz := fun o => qR.frozen o
  go_wp2
  obtain ⟨c9, q9⟩ := qR.set6 (.bool (ng Z0)) (.slice p2 (ln (am Z0)) (ln (am Z0))) (.slice q2 (ln V0) (ln V0)) (.bool (ng 0)) (.slice r2 (ln (am 0)) (ln (am 0))) (.slice t2 (ln 1) (ln 1))
  have hno := qR.no (by simp)
  have z0 := q9.cell 0
  have z1 := q9.cell 1
  have z2 := q9.cell 2
  have z3 := q9.cell 3
  have z4 := q9.cell 4
  have z5 := q9.cell 5
  simp only [List.getElem?_toArray, List.getElem?_cons_zero, List.getElem?_cons_succ] at z0 z1 z2 z3 z4 z5
  refine bodyPost_ret (v := .tuple #[.agg #[.bool (ng Z0), .slice p2 (ln (am Z0)) (ln (am Z0)), .slice q2 (ln V0) (ln V0), .bool (ng 0), .slice r2 (ln (am 0)) (ln (am 0)), .slice t2 (ln 1) (ln 1)], .int .i64 0]) (by rw [results_ct rfl]; go_simp) rfl ?_
  exact Or.inl ⟨Z0, V0, 0, 1, p2, q2, r2, t2, HF.out.1, HF.out.2, rfl, bel.trans (c9.below (Nat.le_refl _)), u1.ch c9 hno, u2.ch c9 hno, u3.ch c9 hno, u4.ch c9 hno⟩

set_option maxHeartbeats 8000000 in
set_option maxRecDepth 100000 in
theorem vdParse_none (s : ByteArray) (hs : s.size ≤ 16777216) (h0 : Rd (bodyOf s) none) (w : World) : Calls Tryz.prog 5 #[.string s] w fun e w' => (∃ (ZA : Int) (VA : Nat) (ZB : Int) (VB : Nat) (p q r t : Option Addr), NmD ZA VA ZB VB ∧ TxD ZA VA ZB VB s ∧ e = .returned (.tuple #[.agg #[.bool (ng ZA), .slice p (ln (am ZA)) (ln (am ZA)), .slice q (ln VA) (ln VA), .bool (ng ZB), .slice r (ln (am ZB)) (ln (am ZB)), .slice t (ln VB) (ln VB)], .int .i64 0]) ∧ Below w.heap.size w w' ∧ Seg w' p (am ZA) (ln (am ZA)) ∧ Seg w' q VA (ln VA) ∧ Seg w' r (am ZB) (ln (am ZB)) ∧ Seg w' t VB (ln VB)) ∨ ((∀ ZA VA ZB VB, NmD ZA VA ZB VB → ¬ TxD ZA VA ZB VB s) ∧ e = .returned (.tuple #[.agg #[.bool false, .slice none 0 0, .slice none 0 0, .bool false, .slice none 0 0, .slice none 0 0], .int .i64 50]) ∧ Below w.heap.size w w') := by
  have hN0 : ∀ ZA VA, RQ s ZA VA → ¬ TxD ZA VA 0 1 s := fun ZA VA h _ => by
    obtain ⟨X, Y, h1, _⟩ := h
    cases h0.uniq h1
  have G1 := hide' (fun w' => vqParse_none s (by omega) h0 w')
  have HN0 := hide' hN0
  clear hN0 h0
  have bel := below_alloc (w := w) (.cells #[.bool false, .slice none 0 0, .slice none 0 0, .bool false, .slice none 0 0, .slice none 0 0] 29)
  have qR := Blk.new w #[.bool false, .slice none 0 0, .slice none 0 0, .bool false, .slice none 0 0, .slice none 0 0] 29
  go_enter Tryz.func5, Tryz.ntmps5
  go_wp2_with fail
  refine (G1.out _).mono ?_
  rintro e w1 ⟨rfl, bb⟩
  replace qR := qR.later bb
  replace bel := bel.trans (bb.mono bel.size)
  clear bb
  have q4 := Blk.new w1 #[.bool false, .slice none 0 0, .slice none 0 0] 27
  have bb := below_alloc (w := w1) (.cells #[.bool false, .slice none 0 0, .slice none 0 0] 27)
  replace qR := qR.later bb
  replace bel := bel.trans (bb.mono bel.size)
  clear bb
  go_wp2
  generalize hW0 : (w1.alloc (.cells #[.bool false, .slice none 0 0, .slice none 0 0] 27)) = W0 at *
  clear hW0
  go_loopw [6] (fun v wr => ∃ i : Nat, 1 ≤ i ∧ v = .int .i64 (i : Nat) ∧ (i = 1 ∨ i + 1 ≤ s.size) ∧ Below W0.heap.size W0 wr ∧ ∀ j, 1 ≤ j → j < i → ¬ Hit s j) (fun v _ => s.size - (intOf v).toNat)
  case atStart => exact ⟨1, Nat.le_refl _, rfl, Or.inl rfl, Below.refl _ _, fun j h1 h2 => by omega⟩
  case round =>
    obtain ⟨i, h1, rfl, hi1, bb, hno0⟩ := hrel
    have HX := hide' hno0
    clear hno0
    replace qR := qR.later bb
    replace q4 := q4.later bb
    have bw := bel.trans (bb.mono bel.size)
    by_cases hi : i + 1 < s.size
    · have hlt : i < s.size := by omega
      have hl : s.size - 1 < s.size := by omega
      have i0 : (0 : Int) ≤ (i : Int) := by omega
      have i1 : (i : Int) < (s.size : Int) := by omega
      have i2 : (i : Int) + 1 < (s.size : Int) := by omega
      have l0 : (0 : Int) ≤ (s.size : Int) - 1 := by omega
      have l1 : (s.size : Int) - 1 < (s.size : Int) := by omega
      have l2 : ((s.size : Int) - 1).toNat = s.size - 1 := by omega
      have ek := byt_of hlt
      have el := byt_of hl
      have l3 : ((i : Int) + 1).toNat = i + 1 := by omega
      have l4 : (i : Int) + 1 ≤ (s.size : Int) - 1 := by omega
      have l5 : (s.size : Int) - 1 ≤ (s.size : Int) := by omega
      have NX : ¬ Hit s i → ∀ j, 1 ≤ j → j < i + 1 → ¬ Hit s j := fun h j j1 j2 => by
        by_cases e : j = i
        · subst e; exact h
        · exact HX.out j j1 (by omega)
      have HNX := hide' NX
      clear NX HX
      by_cases ca : byt s i = 43
      · have f43 : (((s[i]'hlt).toNat : Int) != 43) = false := by rw [← ek, ca]; decide
        have f45 : (((s[i]'hlt).toNat : Int) == 45) = false := by rw [← ek, ca]; decide
        by_cases cc : byt s (s.size - 1) = 100
        · have fl : (((s[s.size - 1]'hl).toNat : Int) != 100) = false := by rw [← el, cc]; decide
          clear el ek
          have z1 : (s.extract 0 i).size ≤ 16777216 := by rw [ByteArray.size_extract]; omega
          have z2 : (s.extract (i + 1) (s.size - 1)).size ≤ 16777216 := by rw [ByteArray.size_extract]; omega
          obtain ⟨oa, hoa⟩ := Rd.ex (bodyOf (s.extract 0 i))
          obtain ⟨ob, hob⟩ := Rd.ex (bodyOf (s.extract (i + 1) (s.size - 1)))
          rcases oa with _ | ⟨Xa, Ya⟩ <;> rcases ob with _ | ⟨Xb, Yb⟩
          · have TT := trivial
            have J1 := hide' (fun w' => vqParse_none (s.extract 0 i) (by omega) hoa w')
            have J2 := hide' (fun w' => vqParse_none (s.extract (i + 1) (s.size - 1)) (by omega) hob w')
            have HH := hide' (show ¬ Hit s i from fun ⟨_, _, _, _, _, _, ⟨X, Y, k1, _⟩, _, _⟩ => by cases hoa.uniq k1)
            clear hoa hob z1 z2 ca
            go_wp2_with fail
            refine (J1.out _).mono ?_
            rintro e v1 ⟨rfl, b9⟩
            replace qR := qR.later b9
            replace q4 := q4.later b9
            replace bb := bb.trans (b9.mono bb.size)
            clear b9
            have qA := Blk.new v1 #[.bool false, .slice none 0 0, .slice none 0 0] 27
            have b9 := below_alloc (w := v1) (.cells #[.bool false, .slice none 0 0, .slice none 0 0] 27)
            replace qR := qR.later b9
            replace q4 := q4.later b9
            replace bb := bb.trans (b9.mono bb.size)
            clear b9
            go_wp2_with fail
            refine (J2.out _).mono ?_
            rintro e v2 ⟨rfl, b9⟩
            replace qR := qR.later b9
            replace q4 := q4.later b9
            replace qA := qA.later b9
            replace bb := bb.trans (b9.mono bb.size)
            clear b9
            have qB := Blk.new v2 #[.bool false, .slice none 0 0, .slice none 0 0] 27
            have b9 := below_alloc (w := v2) (.cells #[.bool false, .slice none 0 0, .slice none 0 0] 27)
            replace qR := qR.later b9
            replace q4 := q4.later b9
            replace qA := qA.later b9
            replace bb := bb.trans (b9.mono bb.size)
            clear b9
            go_wp2
            go_roundw
            case rel => exact ⟨i + 1, by omega, by go_num, Or.inr (by omega), bb, HNX.out (HH.out)⟩
            case measure => simp [intOf]; omega
          · have TT := trivial
            have J1 := hide' (fun w' => vqParse_none (s.extract 0 i) (by omega) hoa w')
            obtain ⟨gB, _, _⟩ := hob.good
            obtain ⟨Z2, VB, hLB⟩ := low_ex (sg (negOf (s.extract (i + 1) (s.size - 1))) Xb) (Yb : Int) (by omega)
            have rB : RQ (s.extract (i + 1) (s.size - 1)) Z2 VB := ⟨_, _, hob, hLB⟩
            have lB := rB.low
            have J2 := hide' (fun w' => vqParse_some (s.extract (i + 1) (s.size - 1)) Xb Yb VB Z2 (by omega) hob hLB w')
            have HH := hide' (show ¬ Hit s i from fun ⟨_, _, _, _, _, _, ⟨X, Y, k1, _⟩, _, _⟩ => by cases hoa.uniq k1)
            clear hoa hob gB hLB lB z1 z2 ca
            go_wp2_with fail
            refine (J1.out _).mono ?_
            rintro e v1 ⟨rfl, b9⟩
            replace qR := qR.later b9
            replace q4 := q4.later b9
            replace bb := bb.trans (b9.mono bb.size)
            clear b9
            have qA := Blk.new v1 #[.bool false, .slice none 0 0, .slice none 0 0] 27
            have b9 := below_alloc (w := v1) (.cells #[.bool false, .slice none 0 0, .slice none 0 0] 27)
            replace qR := qR.later b9
            replace q4 := q4.later b9
            replace bb := bb.trans (b9.mono bb.size)
            clear b9
            go_wp2_with fail
            refine (J2.out _).mono ?_
            rintro e v2 ⟨r, t, rfl, b9, kr, kt⟩
            replace qR := qR.later b9
            replace q4 := q4.later b9
            replace qA := qA.later b9
            replace bb := bb.trans (b9.mono bb.size)
            clear b9
            have qB := Blk.new v2 #[.bool (ng Z2), .slice r (ln (am Z2)) (ln (am Z2)), .slice t (ln VB) (ln VB)] 27
            have b9 := below_alloc (w := v2) (.cells #[.bool (ng Z2), .slice r (ln (am Z2)) (ln (am Z2)), .slice t (ln VB) (ln VB)] 27)
            replace qR := qR.later b9
            replace q4 := q4.later b9
            replace qA := qA.later b9
            replace kr := kr.later b9
            replace kt := kt.later b9
            replace bb := bb.trans (b9.mono bb.size)
            clear b9
            go_wp2
            go_roundw
            case rel => exact ⟨i + 1, by omega, by go_num, Or.inr (by omega), bb, HNX.out (HH.out)⟩
            case measure => simp [intOf]; omega
          · have TT := trivial
            obtain ⟨gA, _, _⟩ := hoa.good
            obtain ⟨ZA, VA, hLA⟩ := low_ex (sg (negOf (s.extract 0 i)) Xa) (Ya : Int) (by omega)
            have rA : RQ (s.extract 0 i) ZA VA := ⟨_, _, hoa, hLA⟩
            have lA := rA.low
            have J1 := hide' (fun w' => vqParse_some (s.extract 0 i) Xa Ya VA ZA (by omega) hoa hLA w')
            have J2 := hide' (fun w' => vqParse_none (s.extract (i + 1) (s.size - 1)) (by omega) hob w')
            have HH := hide' (show ¬ Hit s i from fun ⟨_, _, _, _, _, _, _, ⟨X, Y, k1, _⟩, _⟩ => by cases hob.uniq k1)
            clear hoa hob gA hLA lA z1 z2 ca
            go_wp2_with fail
            refine (J1.out _).mono ?_
            rintro e v1 ⟨p, q, rfl, b9, kp, kq⟩
            replace qR := qR.later b9
            replace q4 := q4.later b9
            replace bb := bb.trans (b9.mono bb.size)
            clear b9
            have qA := Blk.new v1 #[.bool (ng ZA), .slice p (ln (am ZA)) (ln (am ZA)), .slice q (ln VA) (ln VA)] 27
            have b9 := below_alloc (w := v1) (.cells #[.bool (ng ZA), .slice p (ln (am ZA)) (ln (am ZA)), .slice q (ln VA) (ln VA)] 27)
            replace qR := qR.later b9
            replace q4 := q4.later b9
            replace kp := kp.later b9
            replace kq := kq.later b9
            replace bb := bb.trans (b9.mono bb.size)
            clear b9
            go_wp2_with fail
            refine (J2.out _).mono ?_
            rintro e v2 ⟨rfl, b9⟩
            replace qR := qR.later b9
            replace q4 := q4.later b9
            replace kp := kp.later b9
            replace kq := kq.later b9
            replace qA := qA.later b9
            replace bb := bb.trans (b9.mono bb.size)
            clear b9
            have qB := Blk.new v2 #[.bool false, .slice none 0 0, .slice none 0 0] 27
            have b9 := below_alloc (w := v2) (.cells #[.bool false, .slice none 0 0, .slice none 0 0] 27)
            replace qR := qR.later b9
            replace q4 := q4.later b9
            replace kp := kp.later b9
            replace kq := kq.later b9
            replace qA := qA.later b9
            replace bb := bb.trans (b9.mono bb.size)
            clear b9
            go_wp2
            go_roundw
            case rel => exact ⟨i + 1, by omega, by go_num, Or.inr (by omega), bb, HNX.out (HH.out)⟩
            case measure => simp [intOf]; omega
          · have TT := trivial
            obtain ⟨gA, _, _⟩ := hoa.good
            obtain ⟨ZA, VA, hLA⟩ := low_ex (sg (negOf (s.extract 0 i)) Xa) (Ya : Int) (by omega)
            have rA : RQ (s.extract 0 i) ZA VA := ⟨_, _, hoa, hLA⟩
            have lA := rA.low
            have J1 := hide' (fun w' => vqParse_some (s.extract 0 i) Xa Ya VA ZA (by omega) hoa hLA w')
            obtain ⟨gB, _, _⟩ := hob.good
            obtain ⟨Z2, VB, hLB⟩ := low_ex (sg (negOf (s.extract (i + 1) (s.size - 1))) Xb) (Yb : Int) (by omega)
            have rB : RQ (s.extract (i + 1) (s.size - 1)) Z2 VB := ⟨_, _, hob, hLB⟩
            have lB := rB.low
            have J2 := hide' (fun w' => vqParse_some (s.extract (i + 1) (s.size - 1)) Xb Yb VB Z2 (by omega) hob hLB w')
            obtain ⟨ZB, hZB⟩ : ∃ ZB, Z2 = ZB := ⟨_, rfl⟩
            have aZ : am ZB = am Z2 := by rw [← hZB]
            have hN : NmD ZA VA ZB VB := ⟨lA.1, lA.2.1, lB.1, by rw [aZ]; exact lB.2.1⟩
            obtain ⟨S2, hS2⟩ := TxD.ex ZA VA ZB VB
            have hq : ∀ h : Hit s i, S2 = s := fun ⟨_, _, _, _, _, _, k1, k2, k3⟩ => by
              obtain ⟨rfl, rfl⟩ := rA.uniq k1
              obtain ⟨rfl, rfl⟩ := rB.uniq k2
              rw [if_neg (by omega), hZB] at k3
              exact hS2.one k3
            have GT2 := hide' (fun p q r t w' k1 k2 k3 k4 => vTextT ZA VA ZB VB S2 hN hS2 (by omega) (by omega) (by rw [aZ]; omega) (by omega) p q r t w' k1 k2 k3 k4)
            have HF := hide' (And.intro hN hS2)
            have HQ := hide' hq
            clear hN hS2 hq aZ rA rB
            clear hoa hob gA hLA lA gB hLB lB z1 z2 ca
            go_wp2_with fail
            refine (J1.out _).mono ?_
            rintro e v1 ⟨p, q, rfl, b9, kp, kq⟩
            replace qR := qR.later b9
            replace q4 := q4.later b9
            replace bb := bb.trans (b9.mono bb.size)
            clear b9
            have qA := Blk.new v1 #[.bool (ng ZA), .slice p (ln (am ZA)) (ln (am ZA)), .slice q (ln VA) (ln VA)] 27
            have b9 := below_alloc (w := v1) (.cells #[.bool (ng ZA), .slice p (ln (am ZA)) (ln (am ZA)), .slice q (ln VA) (ln VA)] 27)
            replace qR := qR.later b9
            replace q4 := q4.later b9
            replace kp := kp.later b9
            replace kq := kq.later b9
            replace bb := bb.trans (b9.mono bb.size)
            clear b9
            go_wp2_with fail
            refine (J2.out _).mono ?_
            rintro e v2 ⟨r, t, rfl, b9, kr, kt⟩
            replace qR := qR.later b9
            replace q4 := q4.later b9
            replace kp := kp.later b9
            replace kq := kq.later b9
            replace qA := qA.later b9
            replace bb := bb.trans (b9.mono bb.size)
            clear b9
            have qB := Blk.new v2 #[.bool (ng Z2), .slice r (ln (am Z2)) (ln (am Z2)), .slice t (ln VB) (ln VB)] 27
            have b9 := below_alloc (w := v2) (.cells #[.bool (ng Z2), .slice r (ln (am Z2)) (ln (am Z2)), .slice t (ln VB) (ln VB)] 27)
            replace qR := qR.later b9
            replace q4 := q4.later b9
            replace kp := kp.later b9
            replace kq := kq.later b9
            replace qA := qA.later b9
            replace kr := kr.later b9
            replace kt := kt.later b9
            replace bb := bb.trans (b9.mono bb.size)
            clear b9
            have x0 := qA.cell 0
            have x1 := qA.cell 1
            have x2 := qA.cell 2
            simp only [List.getElem?_toArray, List.getElem?_cons_zero, List.getElem?_cons_succ] at x0 x1 x2
            have y0 := qB.cell 0
            have y1 := qB.cell 1
            have y2 := qB.cell 2
            simp only [List.getElem?_toArray, List.getElem?_cons_zero, List.getElem?_cons_succ] at y0 y1 y2
            subst hZB
            go_wp2_with fail
            clear x0 x1 x2 y0 y1 y2
            have qD := Blk.new (v2.alloc (.cells #[.bool (ng Z2), .slice r (ln (am Z2)) (ln (am Z2)), .slice t (ln VB) (ln VB)] 27)) #[.bool (ng ZA), .slice p (ln (am ZA)) (ln (am ZA)), .slice q (ln VA) (ln VA), .bool (ng Z2), .slice r (ln (am Z2)) (ln (am Z2)), .slice t (ln VB) (ln VB)] 29
            have b9 := below_alloc (w := (v2.alloc (.cells #[.bool (ng Z2), .slice r (ln (am Z2)) (ln (am Z2)), .slice t (ln VB) (ln VB)] 27))) (.cells #[.bool (ng ZA), .slice p (ln (am ZA)) (ln (am ZA)), .slice q (ln VA) (ln VA), .bool (ng Z2), .slice r (ln (am Z2)) (ln (am Z2)), .slice t (ln VB) (ln VB)] 29)
            replace qR := qR.later b9
            replace q4 := q4.later b9
            replace kp := kp.later b9
            replace kq := kq.later b9
            replace qA := qA.later b9
            replace kr := kr.later b9
            replace kt := kt.later b9
            replace qB := qB.later b9
            replace bb := bb.trans (b9.mono bb.size)
            clear b9
            rw [World.size_alloc] at qD
            refine (GT2.out _ _ _ _ _ kp kq kr kt).mono ?_
            rintro e v5 ⟨rfl, b9⟩
            replace qR := qR.later b9
            replace q4 := q4.later b9
            replace kp := kp.later b9
            replace kq := kq.later b9
            replace qA := qA.later b9
            replace kr := kr.later b9
            replace kt := kt.later b9
            replace qB := qB.later b9
            replace qD := qD.later b9
            replace bb := bb.trans (b9.mono bb.size)
            clear b9
            by_cases hSs : S2 = s
            · subst hSs
              have hne2 : (S2.toList == S2.toList) = true := by simp
              have x0 := qD.cell 0
              have x1 := qD.cell 1
              have x2 := qD.cell 2
              have x3 := qD.cell 3
              have x4 := qD.cell 4
              have x5 := qD.cell 5
              simp only [List.getElem?_toArray, List.getElem?_cons_zero, List.getElem?_cons_succ] at x0 x1 x2 x3 x4 x5
              have v0 := qR.cell 0
              have v1 := qR.cell 1
              have v2 := qR.cell 2
              have v3 := qR.cell 3
              have v4 := qR.cell 4
              have v5 := qR.cell 5
              simp only [List.getElem?_toArray, List.getElem?_cons_zero, List.getElem?_cons_succ] at v0 v1 v2 v3 v4 v5
              have fz := fun o => qR.frozen o
              go_wp2
              obtain ⟨c9, q9⟩ := qR.set6 (.bool (ng ZA)) (.slice p (ln (am ZA)) (ln (am ZA))) (.slice q (ln VA) (ln VA)) (.bool (ng Z2)) (.slice r (ln (am Z2)) (ln (am Z2))) (.slice t (ln VB) (ln VB))
              have hno := qR.no (by simp)
              have z0 := q9.cell 0
              have z1 := q9.cell 1
              have z2 := q9.cell 2
              have z3 := q9.cell 3
              have z4 := q9.cell 4
              have z5 := q9.cell 5
              simp only [List.getElem?_toArray, List.getElem?_cons_zero, List.getElem?_cons_succ] at z0 z1 z2 z3 z4 z5
              refine bodyPost_ret (v := .tuple #[.agg #[.bool (ng ZA), .slice p (ln (am ZA)) (ln (am ZA)), .slice q (ln VA) (ln VA), .bool (ng Z2), .slice r (ln (am Z2)) (ln (am Z2)), .slice t (ln VB) (ln VB)], .int .i64 0]) (by rw [results_ct rfl]; go_simp) rfl ?_
              exact Or.inl ⟨ZA, VA, Z2, VB, p, q, r, t, HF.out.1, HF.out.2, rfl, (bel.trans (bb.mono bel.size)).trans (c9.below (Nat.le_refl _)), kp.ch c9 hno, kq.ch c9 hno, kr.ch c9 hno, kt.ch c9 hno⟩
            · have hne2 : (S2.toList == s.toList) = false := by rw [beq_eq_false_iff_ne]; exact fun e => hSs (bytes_list e)
              go_wp2
              go_roundw
              case rel => exact ⟨i + 1, by omega, by go_num, Or.inr (by omega), bb, HNX.out (fun h => hSs (HQ.out h))⟩
              case measure => simp [intOf]; omega
        · have fl : (((s[s.size - 1]'hl).toNat : Int) != 100) = true := by rw [bne_iff_ne]; omega
          go_wp2
          go_roundw
          case rel => exact ⟨i + 1, by omega, by go_num, Or.inr (by omega), bb, HNX.out (fun ⟨_, _, _, _, _, k, _⟩ => cc k)⟩
          case measure => simp [intOf]; omega
      · have f43 : (((s[i]'hlt).toNat : Int) != 43) = true := by rw [bne_iff_ne]; omega
        by_cases cb : byt s i = 45
        · have f45 : (((s[i]'hlt).toNat : Int) == 45) = true := by rw [← ek, cb]; decide
          have f45' : (((s[i]'hlt).toNat : Int) != 45) = false := by rw [← ek, cb]; decide
          by_cases cc : byt s (s.size - 1) = 100
          · have fl : (((s[s.size - 1]'hl).toNat : Int) != 100) = false := by rw [← el, cc]; decide
            clear el ek
            have z1 : (s.extract 0 i).size ≤ 16777216 := by rw [ByteArray.size_extract]; omega
            have z2 : (s.extract (i + 1) (s.size - 1)).size ≤ 16777216 := by rw [ByteArray.size_extract]; omega
            obtain ⟨oa, hoa⟩ := Rd.ex (bodyOf (s.extract 0 i))
            obtain ⟨ob, hob⟩ := Rd.ex (bodyOf (s.extract (i + 1) (s.size - 1)))
            rcases oa with _ | ⟨Xa, Ya⟩ <;> rcases ob with _ | ⟨Xb, Yb⟩
            · have TT := trivial
              have J1 := hide' (fun w' => vqParse_none (s.extract 0 i) (by omega) hoa w')
              have J2 := hide' (fun w' => vqParse_none (s.extract (i + 1) (s.size - 1)) (by omega) hob w')
              have HH := hide' (show ¬ Hit s i from fun ⟨_, _, _, _, _, _, ⟨X, Y, k1, _⟩, _, _⟩ => by cases hoa.uniq k1)
              clear hoa hob z1 z2 ca cb
              go_wp2_with fail
              refine (J1.out _).mono ?_
              rintro e v1 ⟨rfl, b9⟩
              replace qR := qR.later b9
              replace q4 := q4.later b9
              replace bb := bb.trans (b9.mono bb.size)
              clear b9
              have qA := Blk.new v1 #[.bool false, .slice none 0 0, .slice none 0 0] 27
              have b9 := below_alloc (w := v1) (.cells #[.bool false, .slice none 0 0, .slice none 0 0] 27)
              replace qR := qR.later b9
              replace q4 := q4.later b9
              replace bb := bb.trans (b9.mono bb.size)
              clear b9
              go_wp2_with fail
              refine (J2.out _).mono ?_
              rintro e v2 ⟨rfl, b9⟩
              replace qR := qR.later b9
              replace q4 := q4.later b9
              replace qA := qA.later b9
              replace bb := bb.trans (b9.mono bb.size)
              clear b9
              have qB := Blk.new v2 #[.bool false, .slice none 0 0, .slice none 0 0] 27
              have b9 := below_alloc (w := v2) (.cells #[.bool false, .slice none 0 0, .slice none 0 0] 27)
              replace qR := qR.later b9
              replace q4 := q4.later b9
              replace qA := qA.later b9
              replace bb := bb.trans (b9.mono bb.size)
              clear b9
              go_wp2
              go_roundw
              case rel => exact ⟨i + 1, by omega, by go_num, Or.inr (by omega), bb, HNX.out (HH.out)⟩
              case measure => simp [intOf]; omega
            · have TT := trivial
              have J1 := hide' (fun w' => vqParse_none (s.extract 0 i) (by omega) hoa w')
              obtain ⟨gB, _, _⟩ := hob.good
              obtain ⟨Z2, VB, hLB⟩ := low_ex (sg (negOf (s.extract (i + 1) (s.size - 1))) Xb) (Yb : Int) (by omega)
              have rB : RQ (s.extract (i + 1) (s.size - 1)) Z2 VB := ⟨_, _, hob, hLB⟩
              have lB := rB.low
              have J2 := hide' (fun w' => vqParse_some (s.extract (i + 1) (s.size - 1)) Xb Yb VB Z2 (by omega) hob hLB w')
              have HH := hide' (show ¬ Hit s i from fun ⟨_, _, _, _, _, _, ⟨X, Y, k1, _⟩, _, _⟩ => by cases hoa.uniq k1)
              clear hoa hob gB hLB lB z1 z2 ca cb
              go_wp2_with fail
              refine (J1.out _).mono ?_
              rintro e v1 ⟨rfl, b9⟩
              replace qR := qR.later b9
              replace q4 := q4.later b9
              replace bb := bb.trans (b9.mono bb.size)
              clear b9
              have qA := Blk.new v1 #[.bool false, .slice none 0 0, .slice none 0 0] 27
              have b9 := below_alloc (w := v1) (.cells #[.bool false, .slice none 0 0, .slice none 0 0] 27)
              replace qR := qR.later b9
              replace q4 := q4.later b9
              replace bb := bb.trans (b9.mono bb.size)
              clear b9
              go_wp2_with fail
              refine (J2.out _).mono ?_
              rintro e v2 ⟨r, t, rfl, b9, kr, kt⟩
              replace qR := qR.later b9
              replace q4 := q4.later b9
              replace qA := qA.later b9
              replace bb := bb.trans (b9.mono bb.size)
              clear b9
              have qB := Blk.new v2 #[.bool (ng Z2), .slice r (ln (am Z2)) (ln (am Z2)), .slice t (ln VB) (ln VB)] 27
              have b9 := below_alloc (w := v2) (.cells #[.bool (ng Z2), .slice r (ln (am Z2)) (ln (am Z2)), .slice t (ln VB) (ln VB)] 27)
              replace qR := qR.later b9
              replace q4 := q4.later b9
              replace qA := qA.later b9
              replace kr := kr.later b9
              replace kt := kt.later b9
              replace bb := bb.trans (b9.mono bb.size)
              clear b9
              go_wp2
              go_roundw
              case rel => exact ⟨i + 1, by omega, by go_num, Or.inr (by omega), bb, HNX.out (HH.out)⟩
              case measure => simp [intOf]; omega
            · have TT := trivial
              obtain ⟨gA, _, _⟩ := hoa.good
              obtain ⟨ZA, VA, hLA⟩ := low_ex (sg (negOf (s.extract 0 i)) Xa) (Ya : Int) (by omega)
              have rA : RQ (s.extract 0 i) ZA VA := ⟨_, _, hoa, hLA⟩
              have lA := rA.low
              have J1 := hide' (fun w' => vqParse_some (s.extract 0 i) Xa Ya VA ZA (by omega) hoa hLA w')
              have J2 := hide' (fun w' => vqParse_none (s.extract (i + 1) (s.size - 1)) (by omega) hob w')
              have HH := hide' (show ¬ Hit s i from fun ⟨_, _, _, _, _, _, _, ⟨X, Y, k1, _⟩, _⟩ => by cases hob.uniq k1)
              clear hoa hob gA hLA lA z1 z2 ca cb
              go_wp2_with fail
              refine (J1.out _).mono ?_
              rintro e v1 ⟨p, q, rfl, b9, kp, kq⟩
              replace qR := qR.later b9
              replace q4 := q4.later b9
              replace bb := bb.trans (b9.mono bb.size)
              clear b9
              have qA := Blk.new v1 #[.bool (ng ZA), .slice p (ln (am ZA)) (ln (am ZA)), .slice q (ln VA) (ln VA)] 27
              have b9 := below_alloc (w := v1) (.cells #[.bool (ng ZA), .slice p (ln (am ZA)) (ln (am ZA)), .slice q (ln VA) (ln VA)] 27)
              replace qR := qR.later b9
              replace q4 := q4.later b9
              replace kp := kp.later b9
              replace kq := kq.later b9
              replace bb := bb.trans (b9.mono bb.size)
              clear b9
              go_wp2_with fail
              refine (J2.out _).mono ?_
              rintro e v2 ⟨rfl, b9⟩
              replace qR := qR.later b9
              replace q4 := q4.later b9
              replace kp := kp.later b9
              replace kq := kq.later b9
              replace qA := qA.later b9
              replace bb := bb.trans (b9.mono bb.size)
              clear b9
              have qB := Blk.new v2 #[.bool false, .slice none 0 0, .slice none 0 0] 27
              have b9 := below_alloc (w := v2) (.cells #[.bool false, .slice none 0 0, .slice none 0 0] 27)
              replace qR := qR.later b9
              replace q4 := q4.later b9
              replace kp := kp.later b9
              replace kq := kq.later b9
              replace qA := qA.later b9
              replace bb := bb.trans (b9.mono bb.size)
              clear b9
              go_wp2
              go_roundw
              case rel => exact ⟨i + 1, by omega, by go_num, Or.inr (by omega), bb, HNX.out (HH.out)⟩
              case measure => simp [intOf]; omega
            · have TT := trivial
              obtain ⟨gA, _, _⟩ := hoa.good
              obtain ⟨ZA, VA, hLA⟩ := low_ex (sg (negOf (s.extract 0 i)) Xa) (Ya : Int) (by omega)
              have rA : RQ (s.extract 0 i) ZA VA := ⟨_, _, hoa, hLA⟩
              have lA := rA.low
              have J1 := hide' (fun w' => vqParse_some (s.extract 0 i) Xa Ya VA ZA (by omega) hoa hLA w')
              obtain ⟨gB, _, _⟩ := hob.good
              obtain ⟨Z2, VB, hLB⟩ := low_ex (sg (negOf (s.extract (i + 1) (s.size - 1))) Xb) (Yb : Int) (by omega)
              have rB : RQ (s.extract (i + 1) (s.size - 1)) Z2 VB := ⟨_, _, hob, hLB⟩
              have lB := rB.low
              have J2 := hide' (fun w' => vqParse_some (s.extract (i + 1) (s.size - 1)) Xb Yb VB Z2 (by omega) hob hLB w')
              obtain ⟨ZB, hZB⟩ : ∃ ZB, -Z2 = ZB := ⟨_, rfl⟩
              have aZ : am ZB = am Z2 := by rw [← hZB, am_neg]
              have hNg : Low (-(rn (ng Z2) (am Z2) VB)) ((rd VB : Nat) : Int) ZB VB := by rw [rn_nf lB.1, rd_nf lB.1, ← hZB]; exact (Low.self lB.1 lB.2.1).neg
              have GN := hide' (fun r t w' k1 k2 => vqNeg_is (ng Z2) r (ln (am Z2)) (ln (am Z2)) (am Z2) t (ln VB) (ln VB) VB ZB VB w' (Nat.le_refl _) (by omega) k1 (Nat.le_refl _) (by omega) k2 hNg)
              clear hNg
              have hN : NmD ZA VA ZB VB := ⟨lA.1, lA.2.1, lB.1, by rw [aZ]; exact lB.2.1⟩
              obtain ⟨S2, hS2⟩ := TxD.ex ZA VA ZB VB
              have hq : ∀ h : Hit s i, S2 = s := fun ⟨_, _, _, _, _, _, k1, k2, k3⟩ => by
                obtain ⟨rfl, rfl⟩ := rA.uniq k1
                obtain ⟨rfl, rfl⟩ := rB.uniq k2
                rw [if_pos cb, hZB] at k3
                exact hS2.one k3
              have GT2 := hide' (fun p q r t w' k1 k2 k3 k4 => vTextT ZA VA ZB VB S2 hN hS2 (by omega) (by omega) (by rw [aZ]; omega) (by omega) p q r t w' k1 k2 k3 k4)
              have HF := hide' (And.intro hN hS2)
              have HQ := hide' hq
              clear hN hS2 hq aZ rA rB hZB
              clear hoa hob gA hLA lA gB hLB lB z1 z2 ca cb
              go_wp2_with fail
              refine (J1.out _).mono ?_
              rintro e v1 ⟨p, q, rfl, b9, kp, kq⟩
              replace qR := qR.later b9
              replace q4 := q4.later b9
              replace bb := bb.trans (b9.mono bb.size)
              clear b9
              have qA := Blk.new v1 #[.bool (ng ZA), .slice p (ln (am ZA)) (ln (am ZA)), .slice q (ln VA) (ln VA)] 27
              have b9 := below_alloc (w := v1) (.cells #[.bool (ng ZA), .slice p (ln (am ZA)) (ln (am ZA)), .slice q (ln VA) (ln VA)] 27)
              replace qR := qR.later b9
              replace q4 := q4.later b9
              replace kp := kp.later b9
              replace kq := kq.later b9
              replace bb := bb.trans (b9.mono bb.size)
              clear b9
              go_wp2_with fail
              refine (J2.out _).mono ?_
              rintro e v2 ⟨r, t, rfl, b9, kr, kt⟩
              replace qR := qR.later b9
              replace q4 := q4.later b9
              replace kp := kp.later b9
              replace kq := kq.later b9
              replace qA := qA.later b9
              replace bb := bb.trans (b9.mono bb.size)
              clear b9
              have hx1 : v1.heap.size ≠ v2.heap.size := Nat.ne_of_lt qA.lt
              have hx2 : w.heap.size ≠ v2.heap.size := Nat.ne_of_lt qR.lt
              have hx3 : W0.heap.size ≤ v2.heap.size := bb.size
              have qB := Blk.new v2 #[.bool (ng Z2), .slice r (ln (am Z2)) (ln (am Z2)), .slice t (ln VB) (ln VB)] 27
              have b9 := below_alloc (w := v2) (.cells #[.bool (ng Z2), .slice r (ln (am Z2)) (ln (am Z2)), .slice t (ln VB) (ln VB)] 27)
              replace qR := qR.later b9
              replace q4 := q4.later b9
              replace kp := kp.later b9
              replace kq := kq.later b9
              replace qA := qA.later b9
              replace kr := kr.later b9
              replace kt := kt.later b9
              replace bb := bb.trans (b9.mono bb.size)
              clear b9
              have x0 := qA.cell 0
              have x1 := qA.cell 1
              have x2 := qA.cell 2
              simp only [List.getElem?_toArray, List.getElem?_cons_zero, List.getElem?_cons_succ] at x0 x1 x2
              have y0 := qB.cell 0
              have y1 := qB.cell 1
              have y2 := qB.cell 2
              simp only [List.getElem?_toArray, List.getElem?_cons_zero, List.getElem?_cons_succ] at y0 y1 y2
              go_wp2_with fail
              clear x0 x1 x2 y0 y1 y2
              refine (GN.out r t _ kr kt).mono ?_
              rintro e v3 ⟨rN, tN, rfl, n1, n2⟩
              have b9 := n1.below
              have kN := n1.seg
              have kM := n2.seg
              clear n1 n2
              replace qR := qR.later b9
              replace q4 := q4.later b9
              replace kp := kp.later b9
              replace kq := kq.later b9
              replace qA := qA.later b9
              replace kr := kr.later b9
              replace kt := kt.later b9
              replace qB := qB.later b9
              replace bb := bb.trans (b9.mono bb.size)
              clear b9
              have y0 := qB.cell 0
              have y1 := qB.cell 1
              have y2 := qB.cell 2
              simp only [List.getElem?_toArray, List.getElem?_cons_zero, List.getElem?_cons_succ] at y0 y1 y2
              have fz := fun o => qB.frozen o
              have cNo := qB.no (by simp)
              obtain ⟨cN, qN⟩ := qB.set3 (.bool (ng ZB)) (.slice rN (ln (am ZB)) (ln (am ZB))) (.slice tN (ln VB) (ln VB))
              have hz5 := cN.size
              have qA5 := qA.ch cN hx1
              have qR5 := qR.ch cN hx2
              have kp5 := kp.ch cN cNo
              have kq5 := kq.ch cN cNo
              have kN5 := kN.ch cN cNo
              have kM5 := kM.ch cN cNo
              have bb5 := bb.trans (cN.below hx3)
              have u0 := qN.cell 0
              have u1 := qN.cell 1
              have u2 := qN.cell 2
              simp only [List.getElem?_toArray, List.getElem?_cons_zero, List.getElem?_cons_succ] at u0 u1 u2
              have x0 := qA5.cell 0
              have x1 := qA5.cell 1
              have x2 := qA5.cell 2
              simp only [List.getElem?_toArray, List.getElem?_cons_zero, List.getElem?_cons_succ] at x0 x1 x2
              go_wp2_with fail
              clear qA qR kp kq kr kt kN kM bb qB cN cNo y0 y1 y2 fz
              generalize (((v3.setCell ⟨v2.heap.size, 0, none⟩ (.bool (ng ZB))).setCell ⟨v2.heap.size, 1, none⟩ (.slice rN (ln (am ZB)) (ln (am ZB)))).setCell ⟨v2.heap.size, 2, none⟩ (.slice tN (ln VB) (ln VB))) = W5 at *
              clear u0 u1 u2 x0 x1 x2
              have qR := qR5
              clear qR5
              have qA := qA5
              clear qA5
              have kp := kp5
              clear kp5
              have kq := kq5
              clear kq5
              have kN := kN5
              clear kN5
              have kM := kM5
              clear kM5
              have bb := bb5
              clear bb5
              have qD := Blk.new W5 #[.bool (ng ZA), .slice p (ln (am ZA)) (ln (am ZA)), .slice q (ln VA) (ln VA), .bool (ng ZB), .slice rN (ln (am ZB)) (ln (am ZB)), .slice tN (ln VB) (ln VB)] 29
              have b9 := below_alloc (w := W5) (.cells #[.bool (ng ZA), .slice p (ln (am ZA)) (ln (am ZA)), .slice q (ln VA) (ln VA), .bool (ng ZB), .slice rN (ln (am ZB)) (ln (am ZB)), .slice tN (ln VB) (ln VB)] 29)
              replace qR := qR.later b9
              replace qA := qA.later b9
              replace kp := kp.later b9
              replace kq := kq.later b9
              replace kN := kN.later b9
              replace kM := kM.later b9
              replace bb := bb.trans (b9.mono bb.size)
              clear b9
              rw [hz5] at qD
              refine (GT2.out _ _ _ _ _ kp kq kN kM).mono ?_
              rintro e v5 ⟨rfl, b9⟩
              replace qR := qR.later b9
              replace qA := qA.later b9
              replace kp := kp.later b9
              replace kq := kq.later b9
              replace kN := kN.later b9
              replace kM := kM.later b9
              replace qD := qD.later b9
              replace bb := bb.trans (b9.mono bb.size)
              clear b9
              by_cases hSs : S2 = s
              · subst hSs
                have hne2 : (S2.toList == S2.toList) = true := by simp
                have x0 := qD.cell 0
                have x1 := qD.cell 1
                have x2 := qD.cell 2
                have x3 := qD.cell 3
                have x4 := qD.cell 4
                have x5 := qD.cell 5
                simp only [List.getElem?_toArray, List.getElem?_cons_zero, List.getElem?_cons_succ] at x0 x1 x2 x3 x4 x5
                have v0 := qR.cell 0
                have v1 := qR.cell 1
                have v2 := qR.cell 2
                have v3 := qR.cell 3
                have v4 := qR.cell 4
                have v5 := qR.cell 5
                simp only [List.getElem?_toArray, List.getElem?_cons_zero, List.getElem?_cons_succ] at v0 v1 v2 v3 v4 v5
                have fz := fun o => qR.frozen o
                go_wp2
                obtain ⟨c9, q9⟩ := qR.set6 (.bool (ng ZA)) (.slice p (ln (am ZA)) (ln (am ZA))) (.slice q (ln VA) (ln VA)) (.bool (ng ZB)) (.slice rN (ln (am ZB)) (ln (am ZB))) (.slice tN (ln VB) (ln VB))
                have hno := qR.no (by simp)
                have z0 := q9.cell 0
                have z1 := q9.cell 1
                have z2 := q9.cell 2
                have z3 := q9.cell 3
                have z4 := q9.cell 4
                have z5 := q9.cell 5
                simp only [List.getElem?_toArray, List.getElem?_cons_zero, List.getElem?_cons_succ] at z0 z1 z2 z3 z4 z5
                refine bodyPost_ret (v := .tuple #[.agg #[.bool (ng ZA), .slice p (ln (am ZA)) (ln (am ZA)), .slice q (ln VA) (ln VA), .bool (ng ZB), .slice rN (ln (am ZB)) (ln (am ZB)), .slice tN (ln VB) (ln VB)], .int .i64 0]) (by rw [results_ct rfl]; go_simp) rfl ?_
                exact Or.inl ⟨ZA, VA, ZB, VB, p, q, rN, tN, HF.out.1, HF.out.2, rfl, (bel.trans (bb.mono bel.size)).trans (c9.below (Nat.le_refl _)), kp.ch c9 hno, kq.ch c9 hno, kN.ch c9 hno, kM.ch c9 hno⟩
              · have hne2 : (S2.toList == s.toList) = false := by rw [beq_eq_false_iff_ne]; exact fun e => hSs (bytes_list e)
                go_wp2
                go_roundw
                case rel => exact ⟨i + 1, by omega, by go_num, Or.inr (by omega), bb, HNX.out (fun h => hSs (HQ.out h))⟩
                case measure => simp [intOf]; omega
          · have fl : (((s[s.size - 1]'hl).toNat : Int) != 100) = true := by rw [bne_iff_ne]; omega
            go_wp2
            go_roundw
            case rel => exact ⟨i + 1, by omega, by go_num, Or.inr (by omega), bb, HNX.out (fun ⟨_, _, _, _, _, k, _⟩ => cc k)⟩
            case measure => simp [intOf]; omega
        · have f45' : (((s[i]'hlt).toNat : Int) != 45) = true := by rw [bne_iff_ne]; omega
          go_wp2
          go_roundw
          case rel => exact ⟨i + 1, by omega, by go_num, Or.inr (by omega), bb, HNX.out (fun ⟨_, _, _, _, k, _⟩ => by omega)⟩
          case measure => simp [intOf]; omega
    · have hend : ¬ ((i : Int) + 1 < (s.size : Int)) := by omega
      have HE := noD HN0.out (fun j j1 j2 => HX.out j j1 (by omega))
      have v0 := qR.cell 0
      have v1 := qR.cell 1
      have v2 := qR.cell 2
      have v3 := qR.cell 3
      have v4 := qR.cell 4
      have v5 := qR.cell 5
      simp only [List.getElem?_toArray, List.getElem?_cons_zero, List.getElem?_cons_succ] at v0 v1 v2 v3 v4 v5
      have fz := fun o => qR.frozen o
      go_wp2
      obtain ⟨c9, q9⟩ := qR.set6 (.bool false) (.slice none 0 0) (.slice none 0 0) (.bool false) (.slice none 0 0) (.slice none 0 0)
      have hno := qR.no (by simp)
      have z0 := q9.cell 0
      have z1 := q9.cell 1
      have z2 := q9.cell 2
      have z3 := q9.cell 3
      have z4 := q9.cell 4
      have z5 := q9.cell 5
      simp only [List.getElem?_toArray, List.getElem?_cons_zero, List.getElem?_cons_succ] at z0 z1 z2 z3 z4 z5
      refine bodyPost_ret (v := .tuple #[.agg #[.bool false, .slice none 0 0, .slice none 0 0, .bool false, .slice none 0 0, .slice none 0 0], .int .i64 50]) (by rw [results_ct rfl]; go_simp) rfl ?_
      exact Or.inr ⟨HE, rfl, bw.trans (c9.below (Nat.le_refl _))⟩

end Go.Proofs.YtjbeagbkjmaeeaaGreatDoor
