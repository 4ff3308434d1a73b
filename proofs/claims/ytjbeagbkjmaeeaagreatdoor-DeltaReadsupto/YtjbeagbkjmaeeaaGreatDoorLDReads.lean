/-
  DeltaReads, second form.
-/
import Derived.Test.YtjbeagbkjmaeeaaGreatDoorWV6
import Derived.Test.YtjbeagbkjmaeeaaGreatDoorWQN
import Derived.Test.YtjbeagbkjmaeeaaGreatDoorWD0
import Derived.Test.YtjbeagbkjmaeeaaGreatDoorWEI
import Derived.Test.YtjbeagbkjmaeeaaGreatDoorRows
import Derived.Test.YtjbeagbkjmaeeaaGreatDoorMem
import Derived.ProofKit
import Derived.OpenShut
import Derived.ShutString
import Derived.ChangeOld
import Derived.JoinedCond
import Derived.Deep.CondSized
import Derived.Sort.Row
import Derived.ChangeSame
import Derived.Lib.LaidU8T
import Derived.Test.YtjbeagbkjmaeeaaGreatDoorCards
import Derived.Test.YtjbeagbkjmaeeaaGreatDoorTie
import Derived.Deep.DeepHandedRow
import Derived.Lib.LaidTab
import Derived.ChangeMaps5
namespace Go.Proofs.YtjbeagbkjmaeeaaGreatDoor
open Go.RowKit
set_option linter.unusedVariables false

set_option maxHeartbeats 1000000 in
set_option maxRecDepth 100000 in
theorem wText_3 (a : Option Addr) (w : World) (h : Digits w) (hS : Seg w a 3 1) : Calls Tryz.prog 52 #[.agg #[.bool false, .slice a 1 1]] w fun e w' => e = .returned (.string ⟨#[51]⟩) ∧ Below w.heap.size w w' := by
  have H1 := hide' (fun w' k1 k2 => nText_3 a w' k1 k2)
  have H2' := fun w' k => wSign_is false a 1 1 3 3 w' (Nat.le_refl _) (by omega) k (by decide)
  rw [show sgn 3 = 1 from rfl] at H2'
  have H2 := hide' H2'
  clear H2'
  have HD := hide' h
  clear h
  have e1 : (⟨#[45]⟩ : ByteArray) ++ ⟨#[50]⟩ = ⟨#[45, 50]⟩ := by decide +kernel
  go_enter Tryz.func52, Tryz.ntmps52
  go_wp2_with fail
  obtain ⟨W, hW⟩ : ∃ W, (w.alloc (.cells #[.bool false, .slice a 1 1] 25)) = W := ⟨_, rfl⟩
  have q00 : W.cell? ⟨w.heap.size, 0, none⟩ = some (.bool false) := by subst hW; go_simp
  have q01 : W.cell? ⟨w.heap.size, 1, none⟩ = some (.slice a 1 1) := by subst hW; go_simp
  have hB : Below w.heap.size w W := by subst hW; exact ((Below.refl _ _).alloc (by (try simp only [World.size_alloc]); omega) _)
  have hz : W.heap.size = w.heap.size + 1 := by subst hW; simp only [World.size_alloc]
  rw [hW]
  clear hW
  have hBW : Below W.heap.size W W := Below.refl _ _
  refine (H1.out _ (HD.out.below (hB.trans (hBW.mono hB.size))) (sb hS hB hBW)).mono ?_
  rintro e w41 ⟨rfl, b41⟩
  replace hBW := hBW.trans (b41.mono hBW.size)
  replace q00 := below_cell b41 q00
  replace q01 := below_cell b41 q01
  go_wp2_with fail
  refine (H2.out _ (sb hS hB hBW)).mono ?_
  rintro e w42 ⟨rfl, b42⟩
  replace hBW := hBW.trans (b42.mono hBW.size)
  replace q00 := below_cell b42 q00
  replace q01 := below_cell b42 q01
  go_wp2
  go_ret
  exact ⟨by first | rfl | simp only [e1], hB.trans (hBW.mono hB.size)⟩

set_option maxHeartbeats 1000000 in
set_option maxRecDepth 100000 in
theorem wText_m2 (a : Option Addr) (w : World) (h : Digits w) (hS : Seg w a 2 1) : Calls Tryz.prog 52 #[.agg #[.bool true, .slice a 1 1]] w fun e w' => e = .returned (.string ⟨#[45, 50]⟩) ∧ Below w.heap.size w w' := by
  have H1 := hide' (fun w' k1 k2 => nText_2 a w' k1 k2)
  have H2' := fun w' k => wSign_is true a 1 1 2 (-2) w' (Nat.le_refl _) (by omega) k (by decide)
  rw [show sgn (-2) = -1 from rfl] at H2'
  have H2 := hide' H2'
  clear H2'
  have HD := hide' h
  clear h
  have e1 : (⟨#[45]⟩ : ByteArray) ++ ⟨#[50]⟩ = ⟨#[45, 50]⟩ := by decide +kernel
  go_enter Tryz.func52, Tryz.ntmps52
  go_wp2_with fail
  obtain ⟨W, hW⟩ : ∃ W, (w.alloc (.cells #[.bool true, .slice a 1 1] 25)) = W := ⟨_, rfl⟩
  have q00 : W.cell? ⟨w.heap.size, 0, none⟩ = some (.bool true) := by subst hW; go_simp
  have q01 : W.cell? ⟨w.heap.size, 1, none⟩ = some (.slice a 1 1) := by subst hW; go_simp
  have hB : Below w.heap.size w W := by subst hW; exact ((Below.refl _ _).alloc (by (try simp only [World.size_alloc]); omega) _)
  have hz : W.heap.size = w.heap.size + 1 := by subst hW; simp only [World.size_alloc]
  rw [hW]
  clear hW
  have hBW : Below W.heap.size W W := Below.refl _ _
  refine (H1.out _ (HD.out.below (hB.trans (hBW.mono hB.size))) (sb hS hB hBW)).mono ?_
  rintro e w41 ⟨rfl, b41⟩
  replace hBW := hBW.trans (b41.mono hBW.size)
  replace q00 := below_cell b41 q00
  replace q01 := below_cell b41 q01
  go_wp2_with fail
  refine (H2.out _ (sb hS hB hBW)).mono ?_
  rintro e w42 ⟨rfl, b42⟩
  replace hBW := hBW.trans (b42.mono hBW.size)
  replace q00 := below_cell b42 q00
  replace q01 := below_cell b42 q01
  go_wp2
  go_ret
  exact ⟨by first | rfl | simp only [e1], hB.trans (hBW.mono hB.size)⟩

set_option maxHeartbeats 1000000 in
theorem isOne_1 (q : Option Addr) (w : World) (hS : Seg w q 1 1) : Calls Tryz.prog 51 #[.slice q 1 1] w fun e w' => e = .returned (.bool true) ∧ w' = w := by
  obtain ⟨b, off, rfl, hb, hc⟩ := hS.2 (by omega)
  have h0 := hc 0 (by omega)
  rw [dg0, Nat.add_zero] at h0
  clear hc
  go_enter Tryz.func51, Tryz.ntmps51
  go_wp2
  go_ret
  exact ⟨rfl, rfl⟩
theorem lowN_3 : Low (rn false 3 1) ((rd 1 : Nat) : Int) 3 1 := ⟨by decide, by omega, by decide, by decide⟩
set_option maxHeartbeats 1000000 in
set_option maxRecDepth 100000 in
theorem qText_3 (p q : Option Addr) (w : World) (h : Digits w) (hS : Seg w p 3 1) (hT : Seg w q 1 1) : Calls Tryz.prog 24 #[Value.agg #[Value.bool false, Value.slice p 1 1, Value.slice q 1 1]] w fun e w' => e = .returned (.string ⟨#[51]⟩) ∧ Below w.heap.size w w' := by
  have P1 : ∀ w', Seg w' p 3 1 → Seg w' q 1 1 → Calls Tryz.prog 50 #[Value.agg #[Value.bool false, Value.slice p 1 1, Value.slice q 1 1]] w' fun e w'' => ∃ p q, e = .returned (Value.agg #[Value.bool false, Value.slice p 1 1, Value.slice q 1 1]) ∧ New w' w'' p 3 1 ∧ New w' w'' q 1 1 := fun w' k1 k2 => by
    have := qNorm_is false p 1 1 3 q 1 1 1 3 1 w' (Nat.le_refl _) (by omega) k1 (Nat.le_refl _) (by omega) k2 lowN_3
    rw [show ng 3 = false from rfl, show am 3 = 3 from rfl, ln_1, ln_3] at this
    exact this
  have H1 := hide' P1
  clear P1
  have H2 := hide' (fun q w' k => isOne_1 q w' k)
  have H3 := hide' (fun a w' k1 k2 => wText_3 a w' k1 k2)
  have HD := hide' h
  clear h
  go_enter Tryz.func24, Tryz.ntmps24
  go_wp2_with fail
  obtain ⟨W, hW⟩ : ∃ W, (w.alloc (.cells #[.bool false, .slice p 1 1, .slice q 1 1] 27)) = W := ⟨_, rfl⟩
  have q00 : W.cell? ⟨w.heap.size, 0, none⟩ = some (.bool false) := by subst hW; go_simp
  have q01 : W.cell? ⟨w.heap.size, 1, none⟩ = some (.slice p 1 1) := by subst hW; go_simp
  have q02 : W.cell? ⟨w.heap.size, 2, none⟩ = some (.slice q 1 1) := by subst hW; go_simp
  have hB : Below w.heap.size w W := by subst hW; exact ((Below.refl _ _).alloc (by (try simp only [World.size_alloc]); omega) _)
  have hz : W.heap.size = w.heap.size + 1 := by subst hW; simp only [World.size_alloc]
  rw [hW]
  clear hW
  have hBW : Below W.heap.size W W := Below.refl _ _
  refine (H1.out _ (sb hS hB hBW) (sb hT hB hBW)).mono ?_
  rintro e w41 ⟨p41, q41, rfl, hp41, hq41⟩
  have b41 := hp41.below
  replace hp41 := hp41.back hBW
  replace hq41 := hq41.back hBW
  replace hBW := hBW.trans (b41.mono hBW.size)
  replace q00 := below_cell b41 q00
  replace q01 := below_cell b41 q01
  replace q02 := below_cell b41 q02
  have hsz41 := hBW.size
  have l4100 : ((w41.alloc (.cells #[.bool false, .slice p41 1 1, .slice q41 1 1] 27))).cell? ⟨w41.heap.size, 0, none⟩ = some (.bool false) := by go_simp
  have l4101 : ((w41.alloc (.cells #[.bool false, .slice p41 1 1, .slice q41 1 1] 27))).cell? ⟨w41.heap.size, 1, none⟩ = some (.slice p41 1 1) := by go_simp
  have l4102 : ((w41.alloc (.cells #[.bool false, .slice p41 1 1, .slice q41 1 1] 27))).cell? ⟨w41.heap.size, 2, none⟩ = some (.slice q41 1 1) := by go_simp
  have cb41 : Below w41.heap.size w41 ((w41.alloc (.cells #[.bool false, .slice p41 1 1, .slice q41 1 1] 27))) := ((Below.refl _ _).alloc (by (try simp only [World.size_alloc]); omega) _)
  replace hBW := hBW.trans (cb41.mono hBW.size)
  replace q00 := below_cell cb41 q00
  replace q01 := below_cell cb41 q01
  replace q02 := below_cell cb41 q02
  replace hp41 := hp41.later cb41
  replace hq41 := hq41.later cb41
  have hL410 : Row ((w41.alloc (.cells #[.bool false, .slice p41 1 1, .slice q41 1 1] 27))) (w41.heap.size) := by
    have := row_new (w41) #[.bool false, .slice p41 1 1, .slice q41 1 1] 27
    try simp only [World.size_alloc] at this
    exact this
  go_wp2_with fail
  generalize (w41.alloc (.cells #[.bool false, .slice p41 1 1, .slice q41 1 1] 27)) = w41x at q00 q01 q02 l4100 l4101 l4102 hL410 hp41 hq41 hBW cb41 ⊢
  clear cb41
  refine (H2.out _ _ hq41.seg).mono ?_
  rintro e w42 ⟨rfl, rfl⟩
  go_wp2_with fail
  refine (H3.out _ _ (HD.out.below (hB.trans (hBW.mono hB.size))) hp41.seg).mono ?_
  rintro e w43 ⟨rfl, b43⟩
  replace hBW := hBW.trans (b43.mono hBW.size)
  replace q00 := below_cell b43 q00
  replace q01 := below_cell b43 q01
  replace q02 := below_cell b43 q02
  replace l4100 := below_cell b43 l4100
  replace l4101 := below_cell b43 l4101
  replace l4102 := below_cell b43 l4102
  replace hL410 := below_row b43 hL410
  replace hp41 := hp41.later b43
  replace hq41 := hq41.later b43
  go_wp2
  go_ret
  exact ⟨rfl, hB.trans (hBW.mono hB.size)⟩

theorem lowN_m2 : Low (rn true 2 1) ((rd 1 : Nat) : Int) (-2) 1 := ⟨by decide, by omega, by decide, by decide⟩
set_option maxHeartbeats 1000000 in
set_option maxRecDepth 100000 in
theorem qText_m2 (p q : Option Addr) (w : World) (h : Digits w) (hS : Seg w p 2 1) (hT : Seg w q 1 1) : Calls Tryz.prog 24 #[Value.agg #[Value.bool true, Value.slice p 1 1, Value.slice q 1 1]] w fun e w' => e = .returned (.string ⟨#[45, 50]⟩) ∧ Below w.heap.size w w' := by
  have P1 : ∀ w', Seg w' p 2 1 → Seg w' q 1 1 → Calls Tryz.prog 50 #[Value.agg #[Value.bool true, Value.slice p 1 1, Value.slice q 1 1]] w' fun e w'' => ∃ p q, e = .returned (Value.agg #[Value.bool true, Value.slice p 1 1, Value.slice q 1 1]) ∧ New w' w'' p 2 1 ∧ New w' w'' q 1 1 := fun w' k1 k2 => by
    have := qNorm_is true p 1 1 2 q 1 1 1 (-2) 1 w' (Nat.le_refl _) (by omega) k1 (Nat.le_refl _) (by omega) k2 lowN_m2
    rw [show ng (-2) = true from rfl, show am (-2) = 2 from rfl, ln_1, ln_2] at this
    exact this
  have H1 := hide' P1
  clear P1
  have H2 := hide' (fun q w' k => isOne_1 q w' k)
  have H3 := hide' (fun a w' k1 k2 => wText_m2 a w' k1 k2)
  have HD := hide' h
  clear h
  go_enter Tryz.func24, Tryz.ntmps24
  go_wp2_with fail
  obtain ⟨W, hW⟩ : ∃ W, (w.alloc (.cells #[.bool true, .slice p 1 1, .slice q 1 1] 27)) = W := ⟨_, rfl⟩
  have q00 : W.cell? ⟨w.heap.size, 0, none⟩ = some (.bool true) := by subst hW; go_simp
  have q01 : W.cell? ⟨w.heap.size, 1, none⟩ = some (.slice p 1 1) := by subst hW; go_simp
  have q02 : W.cell? ⟨w.heap.size, 2, none⟩ = some (.slice q 1 1) := by subst hW; go_simp
  have hB : Below w.heap.size w W := by subst hW; exact ((Below.refl _ _).alloc (by (try simp only [World.size_alloc]); omega) _)
  have hz : W.heap.size = w.heap.size + 1 := by subst hW; simp only [World.size_alloc]
  rw [hW]
  clear hW
  have hBW : Below W.heap.size W W := Below.refl _ _
  refine (H1.out _ (sb hS hB hBW) (sb hT hB hBW)).mono ?_
  rintro e w41 ⟨p41, q41, rfl, hp41, hq41⟩
  have b41 := hp41.below
  replace hp41 := hp41.back hBW
  replace hq41 := hq41.back hBW
  replace hBW := hBW.trans (b41.mono hBW.size)
  replace q00 := below_cell b41 q00
  replace q01 := below_cell b41 q01
  replace q02 := below_cell b41 q02
  have hsz41 := hBW.size
  have l4100 : ((w41.alloc (.cells #[.bool true, .slice p41 1 1, .slice q41 1 1] 27))).cell? ⟨w41.heap.size, 0, none⟩ = some (.bool true) := by go_simp
  have l4101 : ((w41.alloc (.cells #[.bool true, .slice p41 1 1, .slice q41 1 1] 27))).cell? ⟨w41.heap.size, 1, none⟩ = some (.slice p41 1 1) := by go_simp
  have l4102 : ((w41.alloc (.cells #[.bool true, .slice p41 1 1, .slice q41 1 1] 27))).cell? ⟨w41.heap.size, 2, none⟩ = some (.slice q41 1 1) := by go_simp
  have cb41 : Below w41.heap.size w41 ((w41.alloc (.cells #[.bool true, .slice p41 1 1, .slice q41 1 1] 27))) := ((Below.refl _ _).alloc (by (try simp only [World.size_alloc]); omega) _)
  replace hBW := hBW.trans (cb41.mono hBW.size)
  replace q00 := below_cell cb41 q00
  replace q01 := below_cell cb41 q01
  replace q02 := below_cell cb41 q02
  replace hp41 := hp41.later cb41
  replace hq41 := hq41.later cb41
  have hL410 : Row ((w41.alloc (.cells #[.bool true, .slice p41 1 1, .slice q41 1 1] 27))) (w41.heap.size) := by
    have := row_new (w41) #[.bool true, .slice p41 1 1, .slice q41 1 1] 27
    try simp only [World.size_alloc] at this
    exact this
  go_wp2_with fail
  generalize (w41.alloc (.cells #[.bool true, .slice p41 1 1, .slice q41 1 1] 27)) = w41x at q00 q01 q02 l4100 l4101 l4102 hL410 hp41 hq41 hBW cb41 ⊢
  clear cb41
  refine (H2.out _ _ hq41.seg).mono ?_
  rintro e w42 ⟨rfl, rfl⟩
  go_wp2_with fail
  refine (H3.out _ _ (HD.out.below (hB.trans (hBW.mono hB.size))) hp41.seg).mono ?_
  rintro e w43 ⟨rfl, b43⟩
  replace hBW := hBW.trans (b43.mono hBW.size)
  replace q00 := below_cell b43 q00
  replace q01 := below_cell b43 q01
  replace q02 := below_cell b43 q02
  replace l4100 := below_cell b43 l4100
  replace l4101 := below_cell b43 l4101
  replace l4102 := below_cell b43 l4102
  replace hL410 := below_row b43 hL410
  replace hp41 := hp41.later b43
  replace hq41 := hq41.later b43
  go_wp2
  go_ret
  exact ⟨rfl, hB.trans (hBW.mono hB.size)⟩

set_option maxHeartbeats 2000000 in
set_option maxRecDepth 100000 in
theorem dText_v (p q r t : Option Addr) (w : World) (h : Digits w) (hS : Seg w p 3 1) (hT : Seg w q 1 1) (hU : Seg w r 2 1) (hV : Seg w t 1 1) : Calls Tryz.prog 11 #[Value.agg #[Value.bool false, Value.slice p 1 1, Value.slice q 1 1, Value.bool true, Value.slice r 1 1, Value.slice t 1 1]] w fun e w' => e = .returned (.string ⟨#[51, 45, 50, 100]⟩) ∧ Below w.heap.size w w' := by
  have H1 := hide' (fun w' k1 k2 k3 => qText_3 p q w' k1 k2 k3)
  have H2 := hide' (fun w' k1 k2 => qSign_is true r 1 1 2 t 1 1 1 (-1) w' (Nat.le_refl _) (by omega) k1 (Nat.le_refl _) (by omega) k2 (by decide))
  have H3 := hide' (fun w' k1 k2 k3 => qText_m2 r t w' k1 k2 k3)
  have HD := hide' h
  clear h
  have e1 : (⟨#[45, 50]⟩ : ByteArray) ++ ⟨#[100]⟩ = ⟨#[45, 50, 100]⟩ := by decide +kernel
  have e2 : (⟨#[51]⟩ : ByteArray) ++ ⟨#[45, 50, 100]⟩ = ⟨#[51, 45, 50, 100]⟩ := by decide +kernel
  go_enter Tryz.func11, Tryz.ntmps11
  go_wp2_with fail
  obtain ⟨W, hW⟩ : ∃ W, (w.alloc (.cells #[.bool false, .slice p 1 1, .slice q 1 1, .bool true, .slice r 1 1, .slice t 1 1] 29)) = W := ⟨_, rfl⟩
  have q00 : W.cell? ⟨w.heap.size, 0, none⟩ = some (.bool false) := by subst hW; go_simp
  have q01 : W.cell? ⟨w.heap.size, 1, none⟩ = some (.slice p 1 1) := by subst hW; go_simp
  have q02 : W.cell? ⟨w.heap.size, 2, none⟩ = some (.slice q 1 1) := by subst hW; go_simp
  have q03 : W.cell? ⟨w.heap.size, 3, none⟩ = some (.bool true) := by subst hW; go_simp
  have q04 : W.cell? ⟨w.heap.size, 4, none⟩ = some (.slice r 1 1) := by subst hW; go_simp
  have q05 : W.cell? ⟨w.heap.size, 5, none⟩ = some (.slice t 1 1) := by subst hW; go_simp
  have hB : Below w.heap.size w W := by subst hW; exact ((Below.refl _ _).alloc (by (try simp only [World.size_alloc]); omega) _)
  have hz : W.heap.size = w.heap.size + 1 := by subst hW; simp only [World.size_alloc]
  rw [hW]
  clear hW
  have hBW : Below W.heap.size W W := Below.refl _ _
  refine (H1.out _ (HD.out.below (hB.trans (hBW.mono hB.size))) (sb hS hB hBW) (sb hT hB hBW)).mono ?_
  rintro e w41 ⟨rfl, b41⟩
  replace hBW := hBW.trans (b41.mono hBW.size)
  replace q00 := below_cell b41 q00
  replace q01 := below_cell b41 q01
  replace q02 := below_cell b41 q02
  replace q03 := below_cell b41 q03
  replace q04 := below_cell b41 q04
  replace q05 := below_cell b41 q05
  go_wp2_with fail
  refine (H2.out _ (sb hU hB hBW) (sb hV hB hBW)).mono ?_
  rintro e w42 ⟨rfl, b42⟩
  replace hBW := hBW.trans (b42.mono hBW.size)
  replace q00 := below_cell b42 q00
  replace q01 := below_cell b42 q01
  replace q02 := below_cell b42 q02
  replace q03 := below_cell b42 q03
  replace q04 := below_cell b42 q04
  replace q05 := below_cell b42 q05
  go_wp2_with fail
  refine (H3.out _ (HD.out.below (hB.trans (hBW.mono hB.size))) (sb hU hB hBW) (sb hV hB hBW)).mono ?_
  rintro e w43 ⟨rfl, b43⟩
  replace hBW := hBW.trans (b43.mono hBW.size)
  replace q00 := below_cell b43 q00
  replace q01 := below_cell b43 q01
  replace q02 := below_cell b43 q02
  replace q03 := below_cell b43 q03
  replace q04 := below_cell b43 q04
  replace q05 := below_cell b43 q05
  go_wp2
  go_ret
  exact ⟨by first | rfl | simp only [e1, e2], hB.trans (hBW.mono hB.size)⟩

end Go.Proofs.YtjbeagbkjmaeeaaGreatDoor

namespace Go.Proofs.YtjbeagbkjmaeeaaGreatDoor
open Go.RowKit
set_option linter.unusedVariables false

set_option maxHeartbeats 4000000 in
set_option maxRecDepth 100000 in
theorem dParse_v (w : World) (h : Digits w) : Calls Tryz.prog 4 #[.string ⟨#[51, 45, 50, 100]⟩] w fun e w' => ∃ p q r t, e = .returned (.tuple #[Value.agg #[Value.bool false, Value.slice p 1 1, Value.slice q 1 1, Value.bool true, Value.slice r 1 1, Value.slice t 1 1], .int .i64 0]) ∧ New w w' p 3 1 ∧ New w w' q 1 1 ∧ New w w' r 2 1 ∧ New w w' t 1 1 := by
  have H0 := hide' dcut_v
  have H1 := hide' qParse_v3
  have H2 := hide' qParse_vm2
  have H3 := hide' (fun p q r t w' k1 k2 k3 k4 k5 => dText_v p q r t w' k1 k2 k3 k4 k5)
  have HD := hide' h
  clear h
  have hne : ((⟨#[51, 45, 50, 100]⟩ : ByteArray) != ⟨#[51, 45, 50, 100]⟩) = false := by decide
  have hne2 : ((⟨#[51, 45, 50, 100]⟩ : ByteArray).toList != (⟨#[51, 45, 50, 100]⟩ : ByteArray).toList) = false := by simp
  go_enter Tryz.func4, Tryz.ntmps4
  go_wp2_with fail
  obtain ⟨W, hW⟩ : ∃ W, (w.alloc (.cells #[.bool false, .slice none 0 0, .slice none 0 0, .bool false, .slice none 0 0, .slice none 0 0] 29)) = W := ⟨_, rfl⟩
  have r00 : W.cell? ⟨w.heap.size, 0, none⟩ = some (.bool false) := by subst hW; go_simp
  have r01 : W.cell? ⟨w.heap.size, 1, none⟩ = some (.slice none 0 0) := by subst hW; go_simp
  have r02 : W.cell? ⟨w.heap.size, 2, none⟩ = some (.slice none 0 0) := by subst hW; go_simp
  have r03 : W.cell? ⟨w.heap.size, 3, none⟩ = some (.bool false) := by subst hW; go_simp
  have r04 : W.cell? ⟨w.heap.size, 4, none⟩ = some (.slice none 0 0) := by subst hW; go_simp
  have r05 : W.cell? ⟨w.heap.size, 5, none⟩ = some (.slice none 0 0) := by subst hW; go_simp
  have hB : Below w.heap.size w W := by subst hW; exact ((Below.refl _ _).alloc (by (try simp only [World.size_alloc]); omega) _)
  have hR0 : Row W (w.heap.size) := by
    have := row_new (w) #[.bool false, .slice none 0 0, .slice none 0 0, .bool false, .slice none 0 0, .slice none 0 0] 29
    try simp only [World.size_alloc] at this
    subst hW; exact this
  have hz : W.heap.size = w.heap.size + 1 := by subst hW; simp only [World.size_alloc]
  rw [hW]
  clear hW
  have hBW : Below W.heap.size W W := Below.refl _ _
  refine (H0.out _).mono ?_
  rintro e w41 ⟨rfl, dd41⟩
  have b41 := dd41.below W.heap.size
  replace hBW := hBW.trans (b41.mono hBW.size)
  replace r00 := below_cell b41 r00
  replace r01 := below_cell b41 r01
  replace r02 := below_cell b41 r02
  replace r03 := below_cell b41 r03
  replace r04 := below_cell b41 r04
  replace r05 := below_cell b41 r05
  replace hR0 := below_row b41 hR0
  go_wp2_with fail
  refine (H1.out _ (HD.out.below (hB.trans (hBW.mono hB.size)))).mono ?_
  rintro e w42 ⟨p42, q42, rfl, hp42, hq42⟩
  have b42 := hp42.below
  replace hp42 := hp42.back hBW
  replace hq42 := hq42.back hBW
  replace hBW := hBW.trans (b42.mono hBW.size)
  replace r00 := below_cell b42 r00
  replace r01 := below_cell b42 r01
  replace r02 := below_cell b42 r02
  replace r03 := below_cell b42 r03
  replace r04 := below_cell b42 r04
  replace r05 := below_cell b42 r05
  replace hR0 := below_row b42 hR0
  have hsz42 := hBW.size
  have hlt42hR0 := hR0.lt
  have l4200 : ((w42.alloc (.cells #[.bool false, .slice p42 1 1, .slice q42 1 1] 27))).cell? ⟨w42.heap.size, 0, none⟩ = some (.bool false) := by go_simp
  have l4201 : ((w42.alloc (.cells #[.bool false, .slice p42 1 1, .slice q42 1 1] 27))).cell? ⟨w42.heap.size, 1, none⟩ = some (.slice p42 1 1) := by go_simp
  have l4202 : ((w42.alloc (.cells #[.bool false, .slice p42 1 1, .slice q42 1 1] 27))).cell? ⟨w42.heap.size, 2, none⟩ = some (.slice q42 1 1) := by go_simp
  have cb42 : Below w42.heap.size w42 ((w42.alloc (.cells #[.bool false, .slice p42 1 1, .slice q42 1 1] 27))) := ((Below.refl _ _).alloc (by (try simp only [World.size_alloc]); omega) _)
  replace hBW := hBW.trans (cb42.mono hBW.size)
  replace r00 := below_cell cb42 r00
  replace r01 := below_cell cb42 r01
  replace r02 := below_cell cb42 r02
  replace r03 := below_cell cb42 r03
  replace r04 := below_cell cb42 r04
  replace r05 := below_cell cb42 r05
  replace hR0 := below_row cb42 hR0
  replace hp42 := hp42.later cb42
  replace hq42 := hq42.later cb42
  have hL420 : Row ((w42.alloc (.cells #[.bool false, .slice p42 1 1, .slice q42 1 1] 27))) (w42.heap.size) := by
    have := row_new (w42) #[.bool false, .slice p42 1 1, .slice q42 1 1] 27
    try simp only [World.size_alloc] at this
    exact this
  go_wp2_with fail
  generalize (w42.alloc (.cells #[.bool false, .slice p42 1 1, .slice q42 1 1] 27)) = w42x at r00 r01 r02 r03 r04 r05 l4200 l4201 l4202 hR0 hL420 hp42 hq42 hBW cb42 ⊢
  clear cb42
  refine (H2.out _ (HD.out.below (hB.trans (hBW.mono hB.size)))).mono ?_
  rintro e w43 ⟨p43, q43, rfl, hp43, hq43⟩
  have b43 := hp43.below
  replace hp43 := hp43.back hBW
  replace hq43 := hq43.back hBW
  replace hBW := hBW.trans (b43.mono hBW.size)
  replace r00 := below_cell b43 r00
  replace r01 := below_cell b43 r01
  replace r02 := below_cell b43 r02
  replace r03 := below_cell b43 r03
  replace r04 := below_cell b43 r04
  replace r05 := below_cell b43 r05
  replace l4200 := below_cell b43 l4200
  replace l4201 := below_cell b43 l4201
  replace l4202 := below_cell b43 l4202
  replace hR0 := below_row b43 hR0
  replace hL420 := below_row b43 hL420
  replace hp42 := hp42.later b43
  replace hq42 := hq42.later b43
  have j0 := below_cell (below_alloc (w := w43) (.cells #[.bool true, .slice p43 1 1, .slice q43 1 1] 27)) l4200
  have j1 := below_cell (below_alloc (w := w43) (.cells #[.bool true, .slice p43 1 1, .slice q43 1 1] 27)) l4201
  have j2 := below_cell (below_alloc (w := w43) (.cells #[.bool true, .slice p43 1 1, .slice q43 1 1] 27)) l4202
  have hsz43 := hBW.size
  have hlt43hR0 := hR0.lt
  have hlt43hL420 := hL420.lt
  have l4300 : (((w43.alloc (.cells #[.bool true, .slice p43 1 1, .slice q43 1 1] 27)).alloc (.cells #[.bool false, .slice p42 1 1, .slice q42 1 1, .bool true, .slice p43 1 1, .slice q43 1 1] 29))).cell? ⟨w43.heap.size, 0, none⟩ = some (.bool true) := by go_simp
  have l4301 : (((w43.alloc (.cells #[.bool true, .slice p43 1 1, .slice q43 1 1] 27)).alloc (.cells #[.bool false, .slice p42 1 1, .slice q42 1 1, .bool true, .slice p43 1 1, .slice q43 1 1] 29))).cell? ⟨w43.heap.size, 1, none⟩ = some (.slice p43 1 1) := by go_simp
  have l4302 : (((w43.alloc (.cells #[.bool true, .slice p43 1 1, .slice q43 1 1] 27)).alloc (.cells #[.bool false, .slice p42 1 1, .slice q42 1 1, .bool true, .slice p43 1 1, .slice q43 1 1] 29))).cell? ⟨w43.heap.size, 2, none⟩ = some (.slice q43 1 1) := by go_simp
  have l4310 : (((w43.alloc (.cells #[.bool true, .slice p43 1 1, .slice q43 1 1] 27)).alloc (.cells #[.bool false, .slice p42 1 1, .slice q42 1 1, .bool true, .slice p43 1 1, .slice q43 1 1] 29))).cell? ⟨w43.heap.size + 1, 0, none⟩ = some (.bool false) := by go_simp
  have l4311 : (((w43.alloc (.cells #[.bool true, .slice p43 1 1, .slice q43 1 1] 27)).alloc (.cells #[.bool false, .slice p42 1 1, .slice q42 1 1, .bool true, .slice p43 1 1, .slice q43 1 1] 29))).cell? ⟨w43.heap.size + 1, 1, none⟩ = some (.slice p42 1 1) := by go_simp
  have l4312 : (((w43.alloc (.cells #[.bool true, .slice p43 1 1, .slice q43 1 1] 27)).alloc (.cells #[.bool false, .slice p42 1 1, .slice q42 1 1, .bool true, .slice p43 1 1, .slice q43 1 1] 29))).cell? ⟨w43.heap.size + 1, 2, none⟩ = some (.slice q42 1 1) := by go_simp
  have l4313 : (((w43.alloc (.cells #[.bool true, .slice p43 1 1, .slice q43 1 1] 27)).alloc (.cells #[.bool false, .slice p42 1 1, .slice q42 1 1, .bool true, .slice p43 1 1, .slice q43 1 1] 29))).cell? ⟨w43.heap.size + 1, 3, none⟩ = some (.bool true) := by go_simp
  have l4314 : (((w43.alloc (.cells #[.bool true, .slice p43 1 1, .slice q43 1 1] 27)).alloc (.cells #[.bool false, .slice p42 1 1, .slice q42 1 1, .bool true, .slice p43 1 1, .slice q43 1 1] 29))).cell? ⟨w43.heap.size + 1, 4, none⟩ = some (.slice p43 1 1) := by go_simp
  have l4315 : (((w43.alloc (.cells #[.bool true, .slice p43 1 1, .slice q43 1 1] 27)).alloc (.cells #[.bool false, .slice p42 1 1, .slice q42 1 1, .bool true, .slice p43 1 1, .slice q43 1 1] 29))).cell? ⟨w43.heap.size + 1, 5, none⟩ = some (.slice q43 1 1) := by go_simp
  have cb43 : Below w43.heap.size w43 (((w43.alloc (.cells #[.bool true, .slice p43 1 1, .slice q43 1 1] 27)).alloc (.cells #[.bool false, .slice p42 1 1, .slice q42 1 1, .bool true, .slice p43 1 1, .slice q43 1 1] 29))) := (((Below.refl _ _).alloc (by (try simp only [World.size_alloc]); omega) _).alloc (by (try simp only [World.size_alloc]); omega) _)
  replace hBW := hBW.trans (cb43.mono hBW.size)
  replace r00 := below_cell cb43 r00
  replace r01 := below_cell cb43 r01
  replace r02 := below_cell cb43 r02
  replace r03 := below_cell cb43 r03
  replace r04 := below_cell cb43 r04
  replace r05 := below_cell cb43 r05
  replace l4200 := below_cell cb43 l4200
  replace l4201 := below_cell cb43 l4201
  replace l4202 := below_cell cb43 l4202
  replace hR0 := below_row cb43 hR0
  replace hL420 := below_row cb43 hL420
  replace hp42 := hp42.later cb43
  replace hq42 := hq42.later cb43
  replace hp43 := hp43.later cb43
  replace hq43 := hq43.later cb43
  have hL430 : Row (((w43.alloc (.cells #[.bool true, .slice p43 1 1, .slice q43 1 1] 27)).alloc (.cells #[.bool false, .slice p42 1 1, .slice q42 1 1, .bool true, .slice p43 1 1, .slice q43 1 1] 29))) (w43.heap.size) := by
    have := row_new (w43) #[.bool true, .slice p43 1 1, .slice q43 1 1] 27
    try simp only [World.size_alloc] at this
    exact (this.alloc _)
  have hL431 : Row (((w43.alloc (.cells #[.bool true, .slice p43 1 1, .slice q43 1 1] 27)).alloc (.cells #[.bool false, .slice p42 1 1, .slice q42 1 1, .bool true, .slice p43 1 1, .slice q43 1 1] 29))) (w43.heap.size + 1) := by
    have := row_new ((w43.alloc (.cells #[.bool true, .slice p43 1 1, .slice q43 1 1] 27))) #[.bool false, .slice p42 1 1, .slice q42 1 1, .bool true, .slice p43 1 1, .slice q43 1 1] 29
    try simp only [World.size_alloc] at this
    exact this
  go_wp2_with fail
  generalize ((w43.alloc (.cells #[.bool true, .slice p43 1 1, .slice q43 1 1] 27)).alloc (.cells #[.bool false, .slice p42 1 1, .slice q42 1 1, .bool true, .slice p43 1 1, .slice q43 1 1] 29)) = w43x at r00 r01 r02 r03 r04 r05 l4200 l4201 l4202 l4300 l4301 l4302 l4310 l4311 l4312 l4313 l4314 l4315 hR0 hL420 hL430 hL431 hp42 hq42 hp43 hq43 hBW cb43 ⊢
  clear cb43
  clear j0 j1 j2
  refine (H3.out _ _ _ _ _ (HD.out.below (hB.trans (hBW.mono hB.size))) hp42.seg hq42.seg hp43.seg hq43.seg).mono ?_
  rintro e w44 ⟨rfl, b44⟩
  replace hBW := hBW.trans (b44.mono hBW.size)
  replace r00 := below_cell b44 r00
  replace r01 := below_cell b44 r01
  replace r02 := below_cell b44 r02
  replace r03 := below_cell b44 r03
  replace r04 := below_cell b44 r04
  replace r05 := below_cell b44 r05
  replace l4200 := below_cell b44 l4200
  replace l4201 := below_cell b44 l4201
  replace l4202 := below_cell b44 l4202
  replace l4300 := below_cell b44 l4300
  replace l4301 := below_cell b44 l4301
  replace l4302 := below_cell b44 l4302
  replace l4310 := below_cell b44 l4310
  replace l4311 := below_cell b44 l4311
  replace l4312 := below_cell b44 l4312
  replace l4313 := below_cell b44 l4313
  replace l4314 := below_cell b44 l4314
  replace l4315 := below_cell b44 l4315
  replace hR0 := below_row b44 hR0
  replace hL420 := below_row b44 hL420
  replace hL430 := below_row b44 hL430
  replace hL431 := below_row b44 hL431
  replace hp42 := hp42.later b44
  replace hq42 := hq42.later b44
  replace hp43 := hp43.later b44
  replace hq43 := hq43.later b44
  have fz0 := fun o => hR0.frozen o
  go_wp2
  all_goals refine bodyPost_ret (v := .tuple #[Value.agg #[Value.bool false, Value.slice p42 1 1, Value.slice q42 1 1, Value.bool true, Value.slice p43 1 1, Value.slice q43 1 1], .int .i64 0]) (by rw [results_ct rfl]; go_simp) rfl ?_
  all_goals exact ⟨p42, q42, p43, q43, rfl, hp42.mid hB ((((((((Mid.refl _ _ _).set _ _ (by omega) (by omega) _).set _ _ (by omega) (by omega) _).set _ _ (by omega) (by omega) _).set _ _ (by omega) (by omega) _).set _ _ (by omega) (by omega) _).set _ _ (by omega) (by omega) _)), hq42.mid hB ((((((((Mid.refl _ _ _).set _ _ (by omega) (by omega) _).set _ _ (by omega) (by omega) _).set _ _ (by omega) (by omega) _).set _ _ (by omega) (by omega) _).set _ _ (by omega) (by omega) _).set _ _ (by omega) (by omega) _)), hp43.mid hB ((((((((Mid.refl _ _ _).set _ _ (by omega) (by omega) _).set _ _ (by omega) (by omega) _).set _ _ (by omega) (by omega) _).set _ _ (by omega) (by omega) _).set _ _ (by omega) (by omega) _).set _ _ (by omega) (by omega) _)), hq43.mid hB ((((((((Mid.refl _ _ _).set _ _ (by omega) (by omega) _).set _ _ (by omega) (by omega) _).set _ _ (by omega) (by omega) _).set _ _ (by omega) (by omega) _).set _ _ (by omega) (by omega) _).set _ _ (by omega) (by omega) _))⟩
set_option maxHeartbeats 4000000 in
set_option maxRecDepth 100000 in
theorem lives_is (w : World) (h : Digits w) : Calls Tryz.prog 7 #[] w fun e w' => e = .returned (.bool true) ∧ Below w.heap.size w w' := by
  have P3 : ∀ w', Calls Tryz.prog 17 #[.int .i64 3] w' fun e w'' => ∃ p q, e = .returned (Value.agg #[Value.bool false, Value.slice p 1 1, Value.slice q 1 1]) ∧ New w' w'' p 3 1 ∧ New w' w'' q 1 1 := fun w' => by
    have := vqWhole_is 3 w' (by omega) (by omega)
    rw [show ng 3 = false from rfl, show am 3 = 3 from rfl, ln_3, ln_1] at this
    exact this
  have P2 : ∀ w', Calls Tryz.prog 17 #[.int .i64 (-2)] w' fun e w'' => ∃ p q, e = .returned (Value.agg #[Value.bool true, Value.slice p 1 1, Value.slice q 1 1]) ∧ New w' w'' p 2 1 ∧ New w' w'' q 1 1 := fun w' => by
    have := vqWhole_is (-2) w' (by omega) (by omega)
    rw [show ng (-2) = true from rfl, show am (-2) = 2 from rfl, ln_2, ln_1] at this
    exact this
  have P4 : ∀ p q r t p2 q2 r2 t2 w', Seg w' p 3 1 → Seg w' q 1 1 → Seg w' r 2 1 → Seg w' t 1 1 → Seg w' p2 3 1 → Seg w' q2 1 1 → Seg w' r2 2 1 → Seg w' t2 1 1 → Calls Tryz.prog 6 #[Value.agg #[Value.bool false, Value.slice p 1 1, Value.slice q 1 1, Value.bool true, Value.slice r 1 1, Value.slice t 1 1], Value.agg #[Value.bool false, Value.slice p2 1 1, Value.slice q2 1 1, Value.bool true, Value.slice r2 1 1, Value.slice t2 1 1]] w' fun e w'' => e = .returned (.bool true) ∧ Below w'.heap.size w' w'' := fun p q r t p2 q2 r2 t2 w' k1 k2 k3 k4 k5 k6 k7 k8 => by
    have := dsame_is 3 1 (-2) 1 p q r t p2 q2 r2 t2 w'
    rw [show ng 3 = false from rfl, show am 3 = 3 from rfl, show ng (-2) = true from rfl, show am (-2) = 2 from rfl, ln_3, ln_2, ln_1] at this
    exact this (by omega) (by omega) (by omega) (by omega) k1 k2 k3 k4 k5 k6 k7 k8
  have H0 := hide' (dParse_v w h)
  have H1 := hide' P3
  have H2 := hide' P2
  have H3 := hide' P4
  clear P2 P3 P4 h
  go_enter Tryz.func7, Tryz.ntmps7
  go_wp2_with fail
  refine H0.out.mono ?_
  rintro e w40 ⟨p40, q40, r40, t40, rfl, hp40, hq40, hr40, ht40⟩
  have hB := hp40.below
  have hBW : Below w40.heap.size w40 w40 := Below.refl _ _
  have kp := hp40.seg
  clear hp40
  have kq := hq40.seg
  clear hq40
  have kr := hr40.seg
  clear hr40
  have kt := ht40.seg
  clear ht40
  have hsz40 := hBW.size
  have l4000 : ((w40.alloc (.cells #[.bool false, .slice p40 1 1, .slice q40 1 1, .bool true, .slice r40 1 1, .slice t40 1 1] 29))).cell? ⟨w40.heap.size, 0, none⟩ = some (.bool false) := by go_simp
  have l4001 : ((w40.alloc (.cells #[.bool false, .slice p40 1 1, .slice q40 1 1, .bool true, .slice r40 1 1, .slice t40 1 1] 29))).cell? ⟨w40.heap.size, 1, none⟩ = some (.slice p40 1 1) := by go_simp
  have l4002 : ((w40.alloc (.cells #[.bool false, .slice p40 1 1, .slice q40 1 1, .bool true, .slice r40 1 1, .slice t40 1 1] 29))).cell? ⟨w40.heap.size, 2, none⟩ = some (.slice q40 1 1) := by go_simp
  have l4003 : ((w40.alloc (.cells #[.bool false, .slice p40 1 1, .slice q40 1 1, .bool true, .slice r40 1 1, .slice t40 1 1] 29))).cell? ⟨w40.heap.size, 3, none⟩ = some (.bool true) := by go_simp
  have l4004 : ((w40.alloc (.cells #[.bool false, .slice p40 1 1, .slice q40 1 1, .bool true, .slice r40 1 1, .slice t40 1 1] 29))).cell? ⟨w40.heap.size, 4, none⟩ = some (.slice r40 1 1) := by go_simp
  have l4005 : ((w40.alloc (.cells #[.bool false, .slice p40 1 1, .slice q40 1 1, .bool true, .slice r40 1 1, .slice t40 1 1] 29))).cell? ⟨w40.heap.size, 5, none⟩ = some (.slice t40 1 1) := by go_simp
  have cb40 : Below w40.heap.size w40 ((w40.alloc (.cells #[.bool false, .slice p40 1 1, .slice q40 1 1, .bool true, .slice r40 1 1, .slice t40 1 1] 29))) := ((Below.refl _ _).alloc (by (try simp only [World.size_alloc]); omega) _)
  replace hBW := hBW.trans (cb40.mono hBW.size)
  replace kp := kp.later cb40
  replace kq := kq.later cb40
  replace kr := kr.later cb40
  replace kt := kt.later cb40
  have hL400 : Row ((w40.alloc (.cells #[.bool false, .slice p40 1 1, .slice q40 1 1, .bool true, .slice r40 1 1, .slice t40 1 1] 29))) (w40.heap.size) := by
    have := row_new (w40) #[.bool false, .slice p40 1 1, .slice q40 1 1, .bool true, .slice r40 1 1, .slice t40 1 1] 29
    try simp only [World.size_alloc] at this
    exact this
  go_wp2_with fail
  generalize (w40.alloc (.cells #[.bool false, .slice p40 1 1, .slice q40 1 1, .bool true, .slice r40 1 1, .slice t40 1 1] 29)) = w40x at l4000 l4001 l4002 l4003 l4004 l4005 hL400 kp kq kr kt hBW cb40 ⊢
  clear cb40
  replace hBW := hBW.drew
  replace kp := kp.drew
  replace kq := kq.drew
  replace kr := kr.drew
  replace kt := kt.drew
  first
    | go_region_held3 (fun w' => w'.cell? ⟨w40.heap.size, 0, none⟩ = some (.bool false) ∧ w'.cell? ⟨w40.heap.size, 1, none⟩ = some (.slice p40 1 1) ∧ w'.cell? ⟨w40.heap.size, 2, none⟩ = some (.slice q40 1 1) ∧ w'.cell? ⟨w40.heap.size, 3, none⟩ = some (.bool true) ∧ w'.cell? ⟨w40.heap.size, 4, none⟩ = some (.slice r40 1 1) ∧ w'.cell? ⟨w40.heap.size, 5, none⟩ = some (.slice t40 1 1) ∧ Below w.heap.size w w')
        (first | exact ⟨l4000, l4001, l4002, l4003, l4004, l4005, hB.trans (hBW.mono hB.size)⟩ | exact kp6 b41 (by assumption) | exact kp6 b42 (by assumption) | exact kp6 b43 (by assumption) | exact kp6 (below_alloc _) (by assumption))
        (first
          | (go_at_call 17; (fail_if_success clear b41); refine (H1.out _).mono ?_; rintro e w41 ⟨p41, q41, rfl, hp41, hq41⟩; have b41 := hp41.below; replace hp41 := hp41.back hBW; replace hq41 := hq41.back hBW; replace hBW := hBW.trans (b41.mono hBW.size); replace l4000 := below_cell b41 l4000; replace l4001 := below_cell b41 l4001; replace l4002 := below_cell b41 l4002; replace l4003 := below_cell b41 l4003; replace l4004 := below_cell b41 l4004; replace l4005 := below_cell b41 l4005; replace hL400 := below_row b41 hL400; replace kp := kp.later b41; replace kq := kq.later b41; replace kr := kr.later b41; replace kt := kt.later b41)
          | (go_at_call 17; (fail_if_success clear b42); refine (H2.out _).mono ?_; rintro e w42 ⟨p42, q42, rfl, hp42, hq42⟩; have b42 := hp42.below; replace hp42 := hp42.back hBW; replace hq42 := hq42.back hBW; replace hBW := hBW.trans (b42.mono hBW.size); replace l4000 := below_cell b42 l4000; replace l4001 := below_cell b42 l4001; replace l4002 := below_cell b42 l4002; replace l4003 := below_cell b42 l4003; replace l4004 := below_cell b42 l4004; replace l4005 := below_cell b42 l4005; replace hL400 := below_row b42 hL400; replace kp := kp.later b42; replace kq := kq.later b42; replace kr := kr.later b42; replace kt := kt.later b42; replace hp41 := hp41.later b42; replace hq41 := hq41.later b42)
          | (go_at_call 6; refine (H3.out _ _ _ _ _ _ _ _ _ kp kq kr kt hp41.seg hq41.seg hp42.seg hq42.seg).mono ?_; rintro e w43 ⟨rfl, b43⟩; replace hBW := hBW.trans (b43.mono hBW.size); replace l4000 := below_cell b43 l4000; replace l4001 := below_cell b43 l4001; replace l4002 := below_cell b43 l4002; replace l4003 := below_cell b43 l4003; replace l4004 := below_cell b43 l4004; replace l4005 := below_cell b43 l4005; replace hL400 := below_row b43 hL400; replace kp := kp.later b43; replace kq := kq.later b43; replace kr := kr.later b43; replace kt := kt.later b43; replace hp41 := hp41.later b43; replace hq41 := hq41.later b43; replace hp42 := hp42.later b43; replace hq42 := hq42.later b43))
    | fail
  go_wp2
  go_ret
  exact ⟨rfl, hB.trans (hBW.mono hB.size)⟩
end Go.Proofs.YtjbeagbkjmaeeaaGreatDoor

namespace Go.Proofs.YtjbeagbkjmaeeaaGreatDoor
open Go.RowKit
set_option linter.unusedVariables false
set_option linter.unusedSimpArgs false
namespace deltaReads
theorem five {w : World} (h : Digs w) : Digits w := ⟨h 0 (by omega), h 1 (by omega), h 2 (by omega), h 3 (by omega), h 4 (by omega)⟩
theorem none5_is (w : World) : Calls Tryz.prog 8 #[.agg #[.bool false, .slice none 0 0, .slice none 0 0]] w fun e w' => e = .returned (.bool true) ∧ Below w.heap.size w w' := by
  go_enter Tryz.func8, Tryz.ntmps8
  have hB : Below w.heap.size w (w.alloc (.cells #[.bool false, .slice none 0 0, .slice none 0 0] 27)) := below_alloc _
  go_wp2
  go_ret
  exact ⟨rfl, hB⟩
theorem tx_bd {ZA : Int} {VA : Nat} {ZB : Int} {VB : Nat} {s : ByteArray} (h : TxD ZA VA ZB VB s) (hN : NmD ZA VA ZB VB) (hs : s.size ≤ 1048576) : ln (am ZA) ≤ 67108864 ∧ ln VA ≤ 67108864 ∧ ln (am ZB) ≤ 67108864 ∧ ln VB ≤ 67108864 := by
  by_cases hz : ZB = 0
  · obtain ⟨_, a2, a3⟩ := h.first hN hz
    have := a2.low
    refine ⟨by omega, by omega, ?_, ?_⟩
    · rw [hz, show am 0 = 0 from rfl, ln_zero]; omega
    · rw [a3, ln_one]; omega
  · obtain ⟨i, i1, i2, _, _, a3, ⟨Z2, a4, a5⟩, _⟩ := h.parts hN hz
    have l1 := a3.low
    have l2 := a4.low
    simp only [ByteArray.size_extract] at l1 l2
    have aZ : am ZB = am Z2 := by rw [a5]; split; rfl; exact am_neg _
    rw [aZ]
    refine ⟨by omega, by omega, by omega, by omega⟩

theorem own_d (ZA : Int) (VA : Nat) (ZB : Int) (VB : Nat) (s : ByteArray) (hN : NmD ZA VA ZB VB) (hX : TxD ZA VA ZB VB s) (hs : s.size ≤ 1048576) (w : World) (h : Digs w) :
    Calls Tryz.prog 4 #[.string s] w fun e w' => ∃ p q r t, e = .returned (.tuple #[.agg #[.bool (ng ZA), .slice p (ln (am ZA)) (ln (am ZA)), .slice q (ln VA) (ln VA), .bool (ng ZB), .slice r (ln (am ZB)) (ln (am ZB)), .slice t (ln VB) (ln VB)], .int .i64 0]) ∧ Below w.heap.size w w' ∧ Seg w' p (am ZA) (ln (am ZA)) ∧ Seg w' q VA (ln VA) ∧ Seg w' r (am ZB) (ln (am ZB)) ∧ Seg w' t VB (ln VB) := by
  obtain ⟨l1, l2, l3, l4⟩ := tx_bd hX hN hs
  obtain ⟨uA, dA, uB, dB, huA, hdA, huB, hdB, hS⟩ := hX
  by_cases hz : ZB = 0
  · rw [if_pos hz] at hS
    rw [hS]
    exact own_z ZA VA uA dA ZB VB uB dB l1 l2 l3 l4 hN.pA hN.cA hN.pB hN.cB huA hdA huB hdB hz w h
  · by_cases hp : 0 < ZB
    · rw [if_neg hz, if_pos hp] at hS
      rw [hS]
      exact own_p ZA VA uA dA ZB VB uB dB l1 l2 l3 l4 hN.pA hN.cA hN.pB hN.cB huA hdA huB hdB hp w h
    · rw [if_neg hz, if_neg hp] at hS
      rw [hS]
      exact own_n ZA VA uA dA ZB VB uB dB l1 l2 l3 l4 hN.pA hN.cA hN.pB hN.cB huA hdA huB hdB (by omega) w h

set_option maxHeartbeats 4000000 in
set_option maxRecDepth 100000 in
theorem walk_yes (s : ByteArray) (w : World) (hs : s.size ≤ 1048576) (hDg : Digs w) (hT : UTab w) (ZA : Int) (VA : Nat) (ZB : Int) (VB : Nat) (hN : NmD ZA VA ZB VB) (hX : TxD ZA VA ZB VB s) : Calls Tryz.prog 3 #[.string s] w fun e w' => e = .returned (.bool true) ∧ Below w.heap.size w w' := by
  have G2 := hide' (fun w' => vdParse_is s (by omega) w')
  obtain ⟨l1, l2, l3, l4⟩ := tx_bd hX hN hs
  have G1 := hide' (fun w' k => own_d ZA VA ZB VB s hN hX hs w' k)
  have HF := hide' (And.intro hN hX)
  clear hN hX
  have GS := hide' (fun p q r t p2 q2 r2 t2 w' => dsame_is ZA VA ZB VB p q r t p2 q2 r2 t2 w' (by omega) (by omega) (by omega) (by omega))
  clear l1 l2 l3 l4
  have HD := hide' hDg
  clear hDg hT
  have bel := Below.refl w.heap.size w
  go_enter Tryz.func3, Tryz.ntmps3
  go_wp2_with fail
  refine (G1.out _ HD.out).mono ?_
  rintro e w1 ⟨p, q, r, t, rfl, bb, k1, k2, k3, k4⟩
  replace HD := hide' (HD.out.below bb)
  replace bel := bel.trans (bb.mono bel.size)
  clear bb
  have qX := Blk.new w1 #[.bool (ng ZA), .slice p (ln (am ZA)) (ln (am ZA)), .slice q (ln VA) (ln VA), .bool (ng ZB), .slice r (ln (am ZB)) (ln (am ZB)), .slice t (ln VB) (ln VB)] 29
  have bb := below_alloc (w := w1) (.cells #[.bool (ng ZA), .slice p (ln (am ZA)) (ln (am ZA)), .slice q (ln VA) (ln VA), .bool (ng ZB), .slice r (ln (am ZB)) (ln (am ZB)), .slice t (ln VB) (ln VB)] 29)
  replace k1 := k1.later bb
  replace k2 := k2.later bb
  replace k3 := k3.later bb
  replace k4 := k4.later bb
  replace HD := hide' (HD.out.below bb)
  replace bel := bel.trans (bb.mono bel.size)
  clear bb
  go_wp2_with fail
  refine (G2.out _).mono ?_
  rintro e w2 (⟨ZA9, VA9, ZB9, VB9, p2, q2, r2, t2, hN9, hX9, rfl, bb, k5, k6, k7, k8⟩ | ⟨hno, _⟩)
  rotate_left
  · exact absurd HF.out.2 (hno _ _ _ _ HF.out.1)
  obtain ⟨rfl, rfl, rfl, rfl⟩ := HF.out.2.uniq HF.out.1 hX9 hN9
  clear hX9 hN9 HF
  replace k1 := k1.later bb
  replace k2 := k2.later bb
  replace k3 := k3.later bb
  replace k4 := k4.later bb
  replace qX := qX.later bb
  replace HD := hide' (HD.out.below bb)
  replace bel := bel.trans (bb.mono bel.size)
  clear bb
  have qY := Blk.new w2 #[.bool (ng ZA), .slice p2 (ln (am ZA)) (ln (am ZA)), .slice q2 (ln VA) (ln VA), .bool (ng ZB), .slice r2 (ln (am ZB)) (ln (am ZB)), .slice t2 (ln VB) (ln VB)] 29
  have bb := below_alloc (w := w2) (.cells #[.bool (ng ZA), .slice p2 (ln (am ZA)) (ln (am ZA)), .slice q2 (ln VA) (ln VA), .bool (ng ZB), .slice r2 (ln (am ZB)) (ln (am ZB)), .slice t2 (ln VB) (ln VB)] 29)
  replace k1 := k1.later bb
  replace k2 := k2.later bb
  replace k3 := k3.later bb
  replace k4 := k4.later bb
  replace qX := qX.later bb
  replace k5 := k5.later bb
  replace k6 := k6.later bb
  replace k7 := k7.later bb
  replace k8 := k8.later bb
  replace HD := hide' (HD.out.below bb)
  replace bel := bel.trans (bb.mono bel.size)
  clear bb
  have x0 := qX.cell 0
  have x1 := qX.cell 1
  have x2 := qX.cell 2
  have x3 := qX.cell 3
  have x4 := qX.cell 4
  have x5 := qX.cell 5
  simp only [List.getElem?_toArray, List.getElem?_cons_zero, List.getElem?_cons_succ] at x0 x1 x2 x3 x4 x5
  have y0 := qY.cell 0
  have y1 := qY.cell 1
  have y2 := qY.cell 2
  have y3 := qY.cell 3
  have y4 := qY.cell 4
  have y5 := qY.cell 5
  simp only [List.getElem?_toArray, List.getElem?_cons_zero, List.getElem?_cons_succ] at y0 y1 y2 y3 y4 y5
  go_wp2_with fail
  refine (GS.out _ _ _ _ _ _ _ _ _ k1 k2 k3 k4 k5 k6 k7 k8).mono ?_
  rintro e w3 ⟨rfl, bb⟩
  clear x0 x1 x2 x3 x4 x5 y0 y1 y2 y3 y4 y5
  replace k1 := k1.later bb
  replace k2 := k2.later bb
  replace k3 := k3.later bb
  replace k4 := k4.later bb
  replace qX := qX.later bb
  replace k5 := k5.later bb
  replace k6 := k6.later bb
  replace k7 := k7.later bb
  replace k8 := k8.later bb
  replace qY := qY.later bb
  replace HD := hide' (HD.out.below bb)
  replace bel := bel.trans (bb.mono bel.size)
  clear bb
  go_wp2_with fail
  refine (lives_is _ (five HD.out)).mono ?_
  rintro e w4 ⟨rfl, bb⟩
  replace k1 := k1.later bb
  replace k2 := k2.later bb
  replace k3 := k3.later bb
  replace k4 := k4.later bb
  replace qX := qX.later bb
  replace k5 := k5.later bb
  replace k6 := k6.later bb
  replace k7 := k7.later bb
  replace k8 := k8.later bb
  replace qY := qY.later bb
  replace HD := hide' (HD.out.below bb)
  replace bel := bel.trans (bb.mono bel.size)
  clear bb
  go_wp2
  go_ret
  exact ⟨rfl, bel⟩

set_option maxHeartbeats 4000000 in
set_option maxRecDepth 100000 in
theorem walk_no (s : ByteArray) (w : World) (hs : s.size ≤ 1048576) (hDg : Digs w) (hT : UTab w) (hNo : ∀ ZA VA ZB VB, NmD ZA VA ZB VB → ¬ TxD ZA VA ZB VB s) : Calls Tryz.prog 3 #[.string s] w fun e w' => e = .returned (.bool true) ∧ Below w.heap.size w w' := by
  have G2 := hide' (fun w' => vdParse_is s (by omega) w')
  have G1 := hide' (dParse_none s (by omega) hNo w hDg hT)
  have HF := hide' hNo
  clear hNo
  have HD := hide' hDg
  clear hDg hT
  have bel := Below.refl w.heap.size w
  go_enter Tryz.func3, Tryz.ntmps3
  go_wp2_with fail
  refine G1.out.mono ?_
  rintro e w1 ⟨rfl, bb⟩
  replace HD := hide' (HD.out.below bb)
  replace bel := bel.trans (bb.mono bel.size)
  clear bb
  have qX := Blk.new w1 #[.bool false, .slice none 0 0, .slice none 0 0, .bool false, .slice none 0 0, .slice none 0 0] 29
  have bb := below_alloc (w := w1) (.cells #[.bool false, .slice none 0 0, .slice none 0 0, .bool false, .slice none 0 0, .slice none 0 0] 29)
  replace HD := hide' (HD.out.below bb)
  replace bel := bel.trans (bb.mono bel.size)
  clear bb
  go_wp2_with fail
  refine (G2.out _).mono ?_
  rintro e w2 (⟨ZA9, VA9, ZB9, VB9, p2, q2, r2, t2, hN9, hX9, _⟩ | ⟨_, rfl, bb⟩)
  · exact absurd hX9 (HF.out _ _ _ _ hN9)
  replace qX := qX.later bb
  replace HD := hide' (HD.out.below bb)
  replace bel := bel.trans (bb.mono bel.size)
  clear bb
  have qY := Blk.new w2 #[.bool false, .slice none 0 0, .slice none 0 0, .bool false, .slice none 0 0, .slice none 0 0] 29
  have bb := below_alloc (w := w2) (.cells #[.bool false, .slice none 0 0, .slice none 0 0, .bool false, .slice none 0 0, .slice none 0 0] 29)
  replace qX := qX.later bb
  replace HD := hide' (HD.out.below bb)
  replace bel := bel.trans (bb.mono bel.size)
  clear bb
  have x0 := qX.cell 0
  have x1 := qX.cell 1
  have x2 := qX.cell 2
  have x3 := qX.cell 3
  have x4 := qX.cell 4
  have x5 := qX.cell 5
  simp only [List.getElem?_toArray, List.getElem?_cons_zero, List.getElem?_cons_succ] at x0 x1 x2 x3 x4 x5
  have y0 := qY.cell 0
  have y1 := qY.cell 1
  have y2 := qY.cell 2
  have y3 := qY.cell 3
  have y4 := qY.cell 4
  have y5 := qY.cell 5
  simp only [List.getElem?_toArray, List.getElem?_cons_zero, List.getElem?_cons_succ] at y0 y1 y2 y3 y4 y5
  go_wp2_with fail
  refine (lives_is _ (five HD.out)).mono ?_
  rintro e w4 ⟨rfl, bb⟩
  clear x0 x1 x2 x3 x4 x5 y0 y1 y2 y3 y4 y5
  replace qX := qX.later bb
  replace qY := qY.later bb
  replace HD := hide' (HD.out.below bb)
  replace bel := bel.trans (bb.mono bel.size)
  clear bb
  have x0 := qX.cell 0
  have x1 := qX.cell 1
  have x2 := qX.cell 2
  have x3 := qX.cell 3
  have x4 := qX.cell 4
  have x5 := qX.cell 5
  simp only [List.getElem?_toArray, List.getElem?_cons_zero, List.getElem?_cons_succ] at x0 x1 x2 x3 x4 x5
  go_wp2_with fail
  refine (none5_is _).mono ?_
  rintro e w5 ⟨rfl, bb⟩
  clear x0 x1 x2 x3 x4 x5
  replace qX := qX.later bb
  replace qY := qY.later bb
  replace HD := hide' (HD.out.below bb)
  replace bel := bel.trans (bb.mono bel.size)
  clear bb
  have x0 := qX.cell 0
  have x1 := qX.cell 1
  have x2 := qX.cell 2
  have x3 := qX.cell 3
  have x4 := qX.cell 4
  have x5 := qX.cell 5
  simp only [List.getElem?_toArray, List.getElem?_cons_zero, List.getElem?_cons_succ] at x0 x1 x2 x3 x4 x5
  go_wp2_with fail
  refine (none5_is _).mono ?_
  rintro e w6 ⟨rfl, bb⟩
  clear x0 x1 x2 x3 x4 x5
  replace qX := qX.later bb
  replace qY := qY.later bb
  replace HD := hide' (HD.out.below bb)
  replace bel := bel.trans (bb.mono bel.size)
  clear bb
  go_wp2
  go_ret
  exact ⟨rfl, bel⟩

theorem walk (s : ByteArray) (w : World) (hs : s.size ≤ 1048576) (hDg : Digs w) (hT : UTab w) : Calls Tryz.prog 3 #[.string s] w fun e w' => e = .returned (.bool true) ∧ Below w.heap.size w w' := by
  by_cases h : ∃ ZA VA ZB VB, NmD ZA VA ZB VB ∧ TxD ZA VA ZB VB s
  · obtain ⟨ZA, VA, ZB, VB, hN, hX⟩ := h
    exact walk_yes s w hs hDg hT ZA VA ZB VB hN hX
  · exact walk_no s w hs hDg hT fun ZA VA ZB VB hN hX => h ⟨ZA, VA, ZB, VB, hN, hX⟩
end deltaReads
end Go.Proofs.YtjbeagbkjmaeeaaGreatDoor

namespace Go.Proofs.YtjbeagbkjmaeeaaGreatDoor
open Go.ChangeShapes Go.WideShapes Go.ChangeAt Go.RowKit
set_option linter.unusedVariables false

theorem own : ownKnob Tryz.prog.godebug = none := by kernel_rfl
end Go.Proofs.YtjbeagbkjmaeeaaGreatDoor

namespace Go.Proofs.YtjbeagbkjmaeeaaGreatDoor
open Go.ChangeShapes Go.WideShapes Go.ChangeAt Go.RowKit
set_option linter.unusedVariables false

end Go.Proofs.YtjbeagbkjmaeeaaGreatDoor

namespace Go.Proofs.YtjbeagbkjmaeeaaGreatDoor
open Go.ChangeShapes Go.WideShapes Go.ChangeAt Go.RowKit
set_option linter.unusedVariables false

end Go.Proofs.YtjbeagbkjmaeeaaGreatDoor

namespace Go.Proofs.YtjbeagbkjmaeeaaGreatDoor.deltaReads
open Go.ChangeShapes Go.WideShapes Go.ChangeAt Go.RowKit Go.Proofs.YtjbeagbkjmaeeaaGreatDoor
set_option linter.unusedVariables false

theorem first_eq : Go.Pinned.utf8First = Lib.firstData := by kernel_rfl
theorem acc_eq : (Rows.laid_unicode_utf8_acceptRanges : DataW Unit) = Lib.acceptData := by kernel_rfl
theorem utab_of {W : World} (h : laidMetH Tryz.prog Rows.deltaReadsUptoRow.laid W) : UTab W := by
  have hL : laidMet Tryz.prog Rows.deltaReadsUptoRow.laid W := h
  have h4 := Lib.laidMet.reads hL (.tail _ (.head _))
  have h3 := Lib.laidMet.reads hL (.tail _ (.tail _ (.head _)))
  rw [acc_eq] at h4
  rw [show (Rows.laid_unicode_utf8_first : DataW Unit) = Lib.firstData from first_eq] at h3
  exact utf8Tabs_of_readsT (ρ := Tryz.lays271_ren) { Tryz.lays271 with } ⟨by kernel_rfl, by kernel_rfl, by kernel_rfl, by kernel_rfl, by kernel_rfl, by kernel_rfl, by kernel_rfl⟩ h3 h4
theorem gTab : Tryz.prog.globalNamed "fulcrum/nat.digits" = some 3 := by kernel_rfl
theorem gTabType : (Tryz.prog.globals[3]?).map (·.type) = some 132 := by kernel_rfl
theorem cellsA : Tryz.prog.cellsOf 132 = 16 := by kernel_rfl
theorem cells8 : Tryz.prog.cellsOf 5 = 1 := by kernel_rfl
theorem table {W : World} (h : laidMetH Tryz.prog Rows.deltaReadsUptoRow.laid W) : Lib.TabIs Tryz.prog W "fulcrum/nat.digits" .u8 [48, 49, 50, 51, 52, 53, 54, 55, 56, 57, 97, 98, 99, 100, 101, 102] :=
  Lib.tabIs_of_head (rest := [("unicode/utf8.acceptRanges", Rows.laid_unicode_utf8_acceptRanges), ("unicode/utf8.first", Rows.laid_unicode_utf8_first)]) gTab gTabType Tryz.underlying132 Tryz.underlying5 cells8 cellsA h
theorem digs_of {W : World} (h : laidMetH Tryz.prog Rows.deltaReadsUptoRow.laid W) : Digs W
  | 0, _ => (table h).cell gTab 0 (by decide)
  | 1, _ => (table h).cell gTab 1 (by decide)
  | 2, _ => (table h).cell gTab 2 (by decide)
  | 3, _ => (table h).cell gTab 3 (by decide)
  | 4, _ => (table h).cell gTab 4 (by decide)
  | 5, _ => (table h).cell gTab 5 (by decide)
  | 6, _ => (table h).cell gTab 6 (by decide)
  | 7, _ => (table h).cell gTab 7 (by decide)
  | 8, _ => (table h).cell gTab 8 (by decide)
  | 9, _ => (table h).cell gTab 9 (by decide)
  | 10, _ => (table h).cell gTab 10 (by decide)
  | 11, _ => (table h).cell gTab 11 (by decide)
  | 12, _ => (table h).cell gTab 12 (by decide)
  | 13, _ => (table h).cell gTab 13 (by decide)
  | 14, _ => (table h).cell gTab 14 (by decide)
  | 15, _ => (table h).cell gTab 15 (by decide)
  | k + 16, hk => absurd hk (by omega)

set_option maxRecDepth 100000 in
theorem contract (H : Type) (enc : TypeId × Value → H) (W : World) (base : Nat) (args : Array Value) (ds gs : List (DataW H)) (before : List MemPlace)
    (hval : ∀ (j : Nat) t v, Tryz.f3.params[j]? = some t → args[j]? = some v → Value.okWide Tryz.prog W .any base t v)
    (hW : DataW.Whole enc Tryz.prog Tryz.f3.params.toList Rows.deltaReadsSpec.vars false W args.toList ds gs before)
    (hsz : (DataW.weightsEach Tryz.prog (Tryz.f3.params.toList ++ Rows.deltaReadsSpec.plain.varTypes Tryz.prog) (ds ++ gs)).all (· ≤ reachBytes) = true) (hk : Rows.uptoSmall H (ds ++ gs) = true) (hL : laidMetH Tryz.prog Rows.deltaReadsUptoRow.laid W) :
    Calls Tryz.prog 3 args W fun e W' => ∃ v, e = .returned v ∧ Rows.deltaReadsSpec.post enc Tryz.prog Tryz.f3 false true false false W args v W' := by
  have hW' := hW
  obtain ⟨p, q, hA0, hV, rfl, hfz, hnd⟩ := hW
  have hA : DataW.TrodAll enc Tryz.prog W 0 (fun _ => true) true Tryz.f3.params.toList args.toList ds p := hA0
  rw [Tryz.params3] at hA hval hsz
  obtain ⟨v0, vs0, d0, ds0, p0, q0, hargs, rfl, rfl, h0, r0⟩ := trodAll_cons hA
  obtain ⟨rfl, rfl, rfl⟩ := trodAll_nil r0
  obtain rfl : args = #[v0] := by cases args; simp_all
  obtain ⟨rfl, rfl⟩ := trodVars_none hV
  obtain ⟨n0, rfl, rfl, rfl, w0⟩ := Go.ChangeMaps.open_string Tryz.underlying9 (hval 0 9 v0 rfl rfl) h0
  have sz0 : n0.size = n0.data.toList.length := by rw [Array.length_toList]; rfl
  clear hA0
  have hbulk := of_decide_eq_true hk
  simp only [List.append_nil, Rows.uptoBulkAll, Rows.uptoBulk] at hbulk
  simp only [List.append_nil] at hW'
  refine (walk n0 W (by omega) (digs_of hL) (utab_of hL)).mono fun e W' ⟨he, bel⟩ => ?_
  subst he
  exact ⟨_, rfl, _, _, _, [], _, [], hW', trodAll_mk1 (shut_bool Tryz.underlying4 _), (trodAll_cons_mk (Go.ChangeMaps.shut_string Tryz.underlying9 w0) trodAll_mk0), rfl, bel.frame _, fun h => by cases h⟩

def setCells (cs : Array Value) : Obj → Obj
  | .cells _ t frozen => .cells cs t frozen
  | o => o
set_option maxRecDepth 100000 in
noncomputable def laidWorld (os : Os) : World :=
  { World.holding Tryz.prog os ⟨#[], #[], []⟩ with heap := ((((World.holding Tryz.prog os ⟨#[], #[], []⟩).heap.modify 3 (setCells #[.int .u8 48, .int .u8 49, .int .u8 50, .int .u8 51, .int .u8 52, .int .u8 53, .int .u8 54, .int .u8 55, .int .u8 56, .int .u8 57, .int .u8 97, .int .u8 98, .int .u8 99, .int .u8 100, .int .u8 101, .int .u8 102])).modify 2 (setCells #[.int .u8 128, .int .u8 191, .int .u8 160, .int .u8 191, .int .u8 128, .int .u8 159, .int .u8 144, .int .u8 191, .int .u8 128, .int .u8 143, .int .u8 0, .int .u8 0, .int .u8 0, .int .u8 0, .int .u8 0, .int .u8 0, .int .u8 0, .int .u8 0, .int .u8 0, .int .u8 0, .int .u8 0, .int .u8 0, .int .u8 0, .int .u8 0, .int .u8 0, .int .u8 0, .int .u8 0, .int .u8 0, .int .u8 0, .int .u8 0, .int .u8 0, .int .u8 0])).modify 1 (setCells #[.int .u8 240, .int .u8 240, .int .u8 240, .int .u8 240, .int .u8 240, .int .u8 240, .int .u8 240, .int .u8 240, .int .u8 240, .int .u8 240, .int .u8 240, .int .u8 240, .int .u8 240, .int .u8 240, .int .u8 240, .int .u8 240, .int .u8 240, .int .u8 240, .int .u8 240, .int .u8 240, .int .u8 240, .int .u8 240, .int .u8 240, .int .u8 240, .int .u8 240, .int .u8 240, .int .u8 240, .int .u8 240, .int .u8 240, .int .u8 240, .int .u8 240, .int .u8 240, .int .u8 240, .int .u8 240, .int .u8 240, .int .u8 240, .int .u8 240, .int .u8 240, .int .u8 240, .int .u8 240, .int .u8 240, .int .u8 240, .int .u8 240, .int .u8 240, .int .u8 240, .int .u8 240, .int .u8 240, .int .u8 240, .int .u8 240, .int .u8 240, .int .u8 240, .int .u8 240, .int .u8 240, .int .u8 240, .int .u8 240, .int .u8 240, .int .u8 240, .int .u8 240, .int .u8 240, .int .u8 240, .int .u8 240, .int .u8 240, .int .u8 240, .int .u8 240, .int .u8 240, .int .u8 240, .int .u8 240, .int .u8 240, .int .u8 240, .int .u8 240, .int .u8 240, .int .u8 240, .int .u8 240, .int .u8 240, .int .u8 240, .int .u8 240, .int .u8 240, .int .u8 240, .int .u8 240, .int .u8 240, .int .u8 240, .int .u8 240, .int .u8 240, .int .u8 240, .int .u8 240, .int .u8 240, .int .u8 240, .int .u8 240, .int .u8 240, .int .u8 240, .int .u8 240, .int .u8 240, .int .u8 240, .int .u8 240, .int .u8 240, .int .u8 240, .int .u8 240, .int .u8 240, .int .u8 240, .int .u8 240, .int .u8 240, .int .u8 240, .int .u8 240, .int .u8 240, .int .u8 240, .int .u8 240, .int .u8 240, .int .u8 240, .int .u8 240, .int .u8 240, .int .u8 240, .int .u8 240, .int .u8 240, .int .u8 240, .int .u8 240, .int .u8 240, .int .u8 240, .int .u8 240, .int .u8 240, .int .u8 240, .int .u8 240, .int .u8 240, .int .u8 240, .int .u8 240, .int .u8 240, .int .u8 240, .int .u8 240, .int .u8 240, .int .u8 241, .int .u8 241, .int .u8 241, .int .u8 241, .int .u8 241, .int .u8 241, .int .u8 241, .int .u8 241, .int .u8 241, .int .u8 241, .int .u8 241, .int .u8 241, .int .u8 241, .int .u8 241, .int .u8 241, .int .u8 241, .int .u8 241, .int .u8 241, .int .u8 241, .int .u8 241, .int .u8 241, .int .u8 241, .int .u8 241, .int .u8 241, .int .u8 241, .int .u8 241, .int .u8 241, .int .u8 241, .int .u8 241, .int .u8 241, .int .u8 241, .int .u8 241, .int .u8 241, .int .u8 241, .int .u8 241, .int .u8 241, .int .u8 241, .int .u8 241, .int .u8 241, .int .u8 241, .int .u8 241, .int .u8 241, .int .u8 241, .int .u8 241, .int .u8 241, .int .u8 241, .int .u8 241, .int .u8 241, .int .u8 241, .int .u8 241, .int .u8 241, .int .u8 241, .int .u8 241, .int .u8 241, .int .u8 241, .int .u8 241, .int .u8 241, .int .u8 241, .int .u8 241, .int .u8 241, .int .u8 241, .int .u8 241, .int .u8 241, .int .u8 241, .int .u8 241, .int .u8 241, .int .u8 2, .int .u8 2, .int .u8 2, .int .u8 2, .int .u8 2, .int .u8 2, .int .u8 2, .int .u8 2, .int .u8 2, .int .u8 2, .int .u8 2, .int .u8 2, .int .u8 2, .int .u8 2, .int .u8 2, .int .u8 2, .int .u8 2, .int .u8 2, .int .u8 2, .int .u8 2, .int .u8 2, .int .u8 2, .int .u8 2, .int .u8 2, .int .u8 2, .int .u8 2, .int .u8 2, .int .u8 2, .int .u8 2, .int .u8 2, .int .u8 19, .int .u8 3, .int .u8 3, .int .u8 3, .int .u8 3, .int .u8 3, .int .u8 3, .int .u8 3, .int .u8 3, .int .u8 3, .int .u8 3, .int .u8 3, .int .u8 3, .int .u8 35, .int .u8 3, .int .u8 3, .int .u8 52, .int .u8 4, .int .u8 4, .int .u8 4, .int .u8 68, .int .u8 241, .int .u8 241, .int .u8 241, .int .u8 241, .int .u8 241, .int .u8 241, .int .u8 241, .int .u8 241, .int .u8 241, .int .u8 241, .int .u8 241])) }
set_option maxRecDepth 100000 in
theorem laid_met (os : Os) : laidMet Tryz.prog Rows.deltaReadsUptoRow.laid ((laidWorld os).forCall (fun _ _ => 0) ⟨#[], #[.string ByteArray.empty], []⟩).memory :=
  laidMet_of_run' 8 (by kernel_rfl) (by kernel_rfl)
theorem reads (os : Os) {H : Type} (enc : TypeId × Value → H) : ∃ places, DataW.whole enc Tryz.prog ((laidWorld os).forCall (fun _ _ => 0) ⟨#[], #[.string ByteArray.empty], []⟩).memory Tryz.f3.params.toList Rows.deltaReadsSpec.vars false [Value.string ByteArray.empty] 8 = some ([.lit (.string [])], [], places) :=
  ⟨[], by kernel_rfl⟩

set_option maxRecDepth 100000 in
theorem liftedUpto (os : Os) (started : os.Started) (H : Type) (enc : TypeId × Value → H) (F : Stop.Interp) :
    ReturnsInHanded {} Tryz.checked os 3 .any ((Rows.OpenSpec.upto Rows.deltaReadsSpec).preRow enc Tryz.prog Tryz.f3 Rows.deltaReadsUptoRow.domain false Rows.deltaReadsUptoRow.laid) (((Rows.OpenSpec.upto Rows.deltaReadsSpec).at F).post enc Tryz.prog Tryz.f3 false true false false) := by
  obtain ⟨places, hx⟩ := reads os enc
  refine returnsInHanded_of_row (C := Tryz.checked) (s := Rows.OpenSpec.upto Rows.deltaReadsSpec) own started (by kernel_rfl) Tryz.func3
    (witness_row_at (enc := enc) (C := Tryz.checked) false (laidWorld os) #[.string ByteArray.empty] rfl (by kernel_rfl) (by kernel_rfl) (by kernel_rfl)
      (OpenSpec.preRow_of_cond 8 hx (by kernel_rfl) (fun k hk => by cases hk; kernel_rfl) (by kernel_rfl) (laid_met os))) ?_
  intro W base args ds gs before hval hW _ hk hsz hL hSh _
  exact contract H enc W base args ds gs before hval hW hsz (hk _ rfl) hL

theorem saidUpto : Rows.DeltaReadsUptoSaid :=
  OpenClaim.holds_of_cond 3 Tryz.f3 rfl rfl rfl rfl rfl rfl rfl ⟨rfl, rfl, rfl, rfl, rfl⟩ rfl rfl rfl rfl rfl (by kernel_rfl) Tryz.func3 (by kernel_rfl)
    (of_decide_eq_true (by kernel_rfl)) (by unfold Func.isWrapper; first | (rw [if_pos (by decide +kernel)]; kernel_rfl) | (rw [if_neg (by decide +kernel)]; exact ⟨rfl, rfl⟩))
    (fun os started H enc _ F => by rw [OpenClaim.pre_eq_preRow]; exact liftedUpto os started H enc F)

theorem plain (f : FuncId) (fn : Func) (hf : Tryz.pinned.checked.prog.funcNamed "fulcrum/fulcrumlaw05.DeltaReads" = some f) (hfn : Tryz.pinned.checked.prog.funcs[f]? = some fn) :
    false = Tryz.pinned.checked.prog.looks [] ∧ ∀ (j : Nat) t, fn.params[j]? = some t → Tryz.pinned.checked.prog.wantsStandIn t = false := by
  obtain rfl : f = 3 := Option.some.inj ((show Tryz.prog.funcNamed "fulcrum/fulcrumlaw05.DeltaReads" = some 3 by kernel_rfl).symm.trans hf) |>.symm
  obtain rfl : fn = Tryz.f3 := (Option.some.inj (Tryz.func3.symm.trans hfn)).symm
  refine ⟨by kernel_rfl, fun j t ht => ?_⟩
  rw [Tryz.params3] at ht
  have hm := Array.mem_of_getElem? ht
  simp only [List.mem_toArray, List.mem_cons, List.not_mem_nil, or_false] at hm
  subst hm
  · exact (show Tryz.prog.wantsStandIn 9 = false by kernel_rfl)

theorem cardUpto : Rows.DeltaReadsUptoCardSaid :=
  Claim7.holds_tied_plain_at .later [] _ _ _ _ saidUpto (fun _ h => by cases h) (by kernel_rfl) (fun _ h => by cases h) deltaReadsUpto_row_tie rfl ⟨rfl, rfl⟩ (by kernel_rfl) rfl plain (by kernel_rfl)
end Go.Proofs.YtjbeagbkjmaeeaaGreatDoor.deltaReads
namespace Go.Proofs.YtjbeagbkjmaeeaaGreatDoor
theorem deltaReads_holds : Rows.DeltaReadsUptoCardSaid := deltaReads.cardUpto
#print axioms deltaReads_holds
end Go.Proofs.YtjbeagbkjmaeeaaGreatDoor
