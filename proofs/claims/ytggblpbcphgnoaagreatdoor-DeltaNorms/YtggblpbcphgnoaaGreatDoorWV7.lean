/-
  lives: the texts of 3, of -2 and of 3 - 2 d.
-/
import Derived.Test.YtggblpbcphgnoaaGreatDoorWV6
import Derived.Test.YtggblpbcphgnoaaGreatDoorWQN
namespace Go.Proofs.YtggblpbcphgnoaaGreatDoor
open Go.RowKit
set_option linter.unusedVariables false

set_option maxHeartbeats 1000000 in
set_option maxRecDepth 100000 in
theorem wText_3 (a : Option Addr) (w : World) (h : Digits w) (hS : Seg w a 3 1) : Calls Tryz.prog 80 #[.agg #[.bool false, .slice a 1 1]] w fun e w' => e = .returned (.string ⟨#[51]⟩) ∧ Below w.heap.size w w' := by
  have H1 := hide' (fun w' k1 k2 => nText_3 a w' k1 k2)
  have H2' := fun w' k => wSign_is false a 1 1 3 3 w' (Nat.le_refl _) (by omega) k (by decide)
  rw [show sgn 3 = 1 from rfl] at H2'
  have H2 := hide' H2'
  clear H2'
  have HD := hide' h
  clear h
  have e1 : (⟨#[45]⟩ : ByteArray) ++ ⟨#[50]⟩ = ⟨#[45, 50]⟩ := by decide +kernel
  go_enter Tryz.func80, Tryz.ntmps80
  go_wp2_with fail
  obtain ⟨W, hW⟩ : ∃ W, (w.alloc (.cells #[.bool false, .slice a 1 1] 25)) = W := ⟨_, rfl⟩
  have q00 : W.cell? ⟨w.heap.size, 0, none⟩ = some (.bool false) := by subst hW; go_simp
  have q01 : W.cell? ⟨w.heap.size, 1, none⟩ = some (.slice a 1 1) := by subst hW; go_simp
  have hB : Below w.heap.size w W := by subst hW; exact ((Below.refl _ _).alloc (by (try simp only [World.size_alloc]); omega) _)
  have hz : W.heap.size = w.heap.size + 1 := by subst hW; simp only [World.size_alloc]
  rw [hW]
  clear hW
  have hBW : Below W.heap.size W W := Below.refl _ _
  refine (H1.out _ (HD.out.below (hB.trans (hBW.mono hB.size))) (sb hS hB hBW)).mono ?_
  rintro e w41 ⟨rfl, b41⟩
  replace hBW := hBW.trans (b41.mono hBW.size)
  replace q00 := below_cell b41 q00
  replace q01 := below_cell b41 q01
  go_wp2_with fail
  refine (H2.out _ (sb hS hB hBW)).mono ?_
  rintro e w42 ⟨rfl, b42⟩
  replace hBW := hBW.trans (b42.mono hBW.size)
  replace q00 := below_cell b42 q00
  replace q01 := below_cell b42 q01
  go_wp2
  go_ret
  exact ⟨by first | rfl | simp only [e1], hB.trans (hBW.mono hB.size)⟩

set_option maxHeartbeats 1000000 in
set_option maxRecDepth 100000 in
theorem wText_m2 (a : Option Addr) (w : World) (h : Digits w) (hS : Seg w a 2 1) : Calls Tryz.prog 80 #[.agg #[.bool true, .slice a 1 1]] w fun e w' => e = .returned (.string ⟨#[45, 50]⟩) ∧ Below w.heap.size w w' := by
  have H1 := hide' (fun w' k1 k2 => nText_2 a w' k1 k2)
  have H2' := fun w' k => wSign_is true a 1 1 2 (-2) w' (Nat.le_refl _) (by omega) k (by decide)
  rw [show sgn (-2) = -1 from rfl] at H2'
  have H2 := hide' H2'
  clear H2'
  have HD := hide' h
  clear h
  have e1 : (⟨#[45]⟩ : ByteArray) ++ ⟨#[50]⟩ = ⟨#[45, 50]⟩ := by decide +kernel
  go_enter Tryz.func80, Tryz.ntmps80
  go_wp2_with fail
  obtain ⟨W, hW⟩ : ∃ W, (w.alloc (.cells #[.bool true, .slice a 1 1] 25)) = W := ⟨_, rfl⟩
  have q00 : W.cell? ⟨w.heap.size, 0, none⟩ = some (.bool true) := by subst hW; go_simp
  have q01 : W.cell? ⟨w.heap.size, 1, none⟩ = some (.slice a 1 1) := by subst hW; go_simp
  have hB : Below w.heap.size w W := by subst hW; exact ((Below.refl _ _).alloc (by (try simp only [World.size_alloc]); omega) _)
  have hz : W.heap.size = w.heap.size + 1 := by subst hW; simp only [World.size_alloc]
  rw [hW]
  clear hW
  have hBW : Below W.heap.size W W := Below.refl _ _
  refine (H1.out _ (HD.out.below (hB.trans (hBW.mono hB.size))) (sb hS hB hBW)).mono ?_
  rintro e w41 ⟨rfl, b41⟩
  replace hBW := hBW.trans (b41.mono hBW.size)
  replace q00 := below_cell b41 q00
  replace q01 := below_cell b41 q01
  go_wp2_with fail
  refine (H2.out _ (sb hS hB hBW)).mono ?_
  rintro e w42 ⟨rfl, b42⟩
  replace hBW := hBW.trans (b42.mono hBW.size)
  replace q00 := below_cell b42 q00
  replace q01 := below_cell b42 q01
  go_wp2
  go_ret
  exact ⟨by first | rfl | simp only [e1], hB.trans (hBW.mono hB.size)⟩

set_option maxHeartbeats 1000000 in
theorem isOne_1 (q : Option Addr) (w : World) (hS : Seg w q 1 1) : Calls Tryz.prog 79 #[.slice q 1 1] w fun e w' => e = .returned (.bool true) ∧ w' = w := by
  obtain ⟨b, off, rfl, hb, hc⟩ := hS.2 (by omega)
  have h0 := hc 0 (by omega)
  rw [dg0, Nat.add_zero] at h0
  clear hc
  go_enter Tryz.func79, Tryz.ntmps79
  go_wp2
  go_ret
  exact ⟨rfl, rfl⟩
theorem lowN_3 : Low (rn false 3 1) ((rd 1 : Nat) : Int) 3 1 := ⟨by decide, by omega, by decide, by decide⟩
set_option maxHeartbeats 1000000 in
set_option maxRecDepth 100000 in
theorem qText_3 (p q : Option Addr) (w : World) (h : Digits w) (hS : Seg w p 3 1) (hT : Seg w q 1 1) : Calls Tryz.prog 48 #[Value.agg #[Value.bool false, Value.slice p 1 1, Value.slice q 1 1]] w fun e w' => e = .returned (.string ⟨#[51]⟩) ∧ Below w.heap.size w w' := by
  have P1 : ∀ w', Seg w' p 3 1 → Seg w' q 1 1 → Calls Tryz.prog 19 #[Value.agg #[Value.bool false, Value.slice p 1 1, Value.slice q 1 1]] w' fun e w'' => ∃ p q, e = .returned (Value.agg #[Value.bool false, Value.slice p 1 1, Value.slice q 1 1]) ∧ New w' w'' p 3 1 ∧ New w' w'' q 1 1 := fun w' k1 k2 => by
    have := qNorm_is false p 1 1 3 q 1 1 1 3 1 w' (Nat.le_refl _) (by omega) k1 (Nat.le_refl _) (by omega) k2 lowN_3
    rw [show ng 3 = false from rfl, show am 3 = 3 from rfl, ln_1, ln_3] at this
    exact this
  have H1 := hide' P1
  clear P1
  have H2 := hide' (fun q w' k => isOne_1 q w' k)
  have H3 := hide' (fun a w' k1 k2 => wText_3 a w' k1 k2)
  have HD := hide' h
  clear h
  go_enter Tryz.func48, Tryz.ntmps48
  go_wp2_with fail
  obtain ⟨W, hW⟩ : ∃ W, (w.alloc (.cells #[.bool false, .slice p 1 1, .slice q 1 1] 27)) = W := ⟨_, rfl⟩
  have q00 : W.cell? ⟨w.heap.size, 0, none⟩ = some (.bool false) := by subst hW; go_simp
  have q01 : W.cell? ⟨w.heap.size, 1, none⟩ = some (.slice p 1 1) := by subst hW; go_simp
  have q02 : W.cell? ⟨w.heap.size, 2, none⟩ = some (.slice q 1 1) := by subst hW; go_simp
  have hB : Below w.heap.size w W := by subst hW; exact ((Below.refl _ _).alloc (by (try simp only [World.size_alloc]); omega) _)
  have hz : W.heap.size = w.heap.size + 1 := by subst hW; simp only [World.size_alloc]
  rw [hW]
  clear hW
  have hBW : Below W.heap.size W W := Below.refl _ _
  refine (H1.out _ (sb hS hB hBW) (sb hT hB hBW)).mono ?_
  rintro e w41 ⟨p41, q41, rfl, hp41, hq41⟩
  have b41 := hp41.below
  replace hp41 := hp41.back hBW
  replace hq41 := hq41.back hBW
  replace hBW := hBW.trans (b41.mono hBW.size)
  replace q00 := below_cell b41 q00
  replace q01 := below_cell b41 q01
  replace q02 := below_cell b41 q02
  have hsz41 := hBW.size
  have l4100 : ((w41.alloc (.cells #[.bool false, .slice p41 1 1, .slice q41 1 1] 27))).cell? ⟨w41.heap.size, 0, none⟩ = some (.bool false) := by go_simp
  have l4101 : ((w41.alloc (.cells #[.bool false, .slice p41 1 1, .slice q41 1 1] 27))).cell? ⟨w41.heap.size, 1, none⟩ = some (.slice p41 1 1) := by go_simp
  have l4102 : ((w41.alloc (.cells #[.bool false, .slice p41 1 1, .slice q41 1 1] 27))).cell? ⟨w41.heap.size, 2, none⟩ = some (.slice q41 1 1) := by go_simp
  have cb41 : Below w41.heap.size w41 ((w41.alloc (.cells #[.bool false, .slice p41 1 1, .slice q41 1 1] 27))) := ((Below.refl _ _).alloc (by (try simp only [World.size_alloc]); omega) _)
  replace hBW := hBW.trans (cb41.mono hBW.size)
  replace q00 := below_cell cb41 q00
  replace q01 := below_cell cb41 q01
  replace q02 := below_cell cb41 q02
  replace hp41 := hp41.later cb41
  replace hq41 := hq41.later cb41
  have hL410 : Row ((w41.alloc (.cells #[.bool false, .slice p41 1 1, .slice q41 1 1] 27))) (w41.heap.size) := by
    have := row_new (w41) #[.bool false, .slice p41 1 1, .slice q41 1 1] 27
    try simp only [World.size_alloc] at this
    exact this
  go_wp2_with fail
  generalize (w41.alloc (.cells #[.bool false, .slice p41 1 1, .slice q41 1 1] 27)) = w41x at q00 q01 q02 l4100 l4101 l4102 hL410 hp41 hq41 hBW cb41 ⊢
  clear cb41
  refine (H2.out _ _ hq41.seg).mono ?_
  rintro e w42 ⟨rfl, rfl⟩
  go_wp2_with fail
  refine (H3.out _ _ (HD.out.below (hB.trans (hBW.mono hB.size))) hp41.seg).mono ?_
  rintro e w43 ⟨rfl, b43⟩
  replace hBW := hBW.trans (b43.mono hBW.size)
  replace q00 := below_cell b43 q00
  replace q01 := below_cell b43 q01
  replace q02 := below_cell b43 q02
  replace l4100 := below_cell b43 l4100
  replace l4101 := below_cell b43 l4101
  replace l4102 := below_cell b43 l4102
  replace hL410 := below_row b43 hL410
  replace hp41 := hp41.later b43
  replace hq41 := hq41.later b43
  go_wp2
  go_ret
  exact ⟨rfl, hB.trans (hBW.mono hB.size)⟩

theorem lowN_m2 : Low (rn true 2 1) ((rd 1 : Nat) : Int) (-2) 1 := ⟨by decide, by omega, by decide, by decide⟩
set_option maxHeartbeats 1000000 in
set_option maxRecDepth 100000 in
theorem qText_m2 (p q : Option Addr) (w : World) (h : Digits w) (hS : Seg w p 2 1) (hT : Seg w q 1 1) : Calls Tryz.prog 48 #[Value.agg #[Value.bool true, Value.slice p 1 1, Value.slice q 1 1]] w fun e w' => e = .returned (.string ⟨#[45, 50]⟩) ∧ Below w.heap.size w w' := by
  have P1 : ∀ w', Seg w' p 2 1 → Seg w' q 1 1 → Calls Tryz.prog 19 #[Value.agg #[Value.bool true, Value.slice p 1 1, Value.slice q 1 1]] w' fun e w'' => ∃ p q, e = .returned (Value.agg #[Value.bool true, Value.slice p 1 1, Value.slice q 1 1]) ∧ New w' w'' p 2 1 ∧ New w' w'' q 1 1 := fun w' k1 k2 => by
    have := qNorm_is true p 1 1 2 q 1 1 1 (-2) 1 w' (Nat.le_refl _) (by omega) k1 (Nat.le_refl _) (by omega) k2 lowN_m2
    rw [show ng (-2) = true from rfl, show am (-2) = 2 from rfl, ln_1, ln_2] at this
    exact this
  have H1 := hide' P1
  clear P1
  have H2 := hide' (fun q w' k => isOne_1 q w' k)
  have H3 := hide' (fun a w' k1 k2 => wText_m2 a w' k1 k2)
  have HD := hide' h
  clear h
  go_enter Tryz.func48, Tryz.ntmps48
  go_wp2_with fail
  obtain ⟨W, hW⟩ : ∃ W, (w.alloc (.cells #[.bool true, .slice p 1 1, .slice q 1 1] 27)) = W := ⟨_, rfl⟩
  have q00 : W.cell? ⟨w.heap.size, 0, none⟩ = some (.bool true) := by subst hW; go_simp
  have q01 : W.cell? ⟨w.heap.size, 1, none⟩ = some (.slice p 1 1) := by subst hW; go_simp
  have q02 : W.cell? ⟨w.heap.size, 2, none⟩ = some (.slice q 1 1) := by subst hW; go_simp
  have hB : Below w.heap.size w W := by subst hW; exact ((Below.refl _ _).alloc (by (try simp only [World.size_alloc]); omega) _)
  have hz : W.heap.size = w.heap.size + 1 := by subst hW; simp only [World.size_alloc]
  rw [hW]
  clear hW
  have hBW : Below W.heap.size W W := Below.refl _ _
  refine (H1.out _ (sb hS hB hBW) (sb hT hB hBW)).mono ?_
  rintro e w41 ⟨p41, q41, rfl, hp41, hq41⟩
  have b41 := hp41.below
  replace hp41 := hp41.back hBW
  replace hq41 := hq41.back hBW
  replace hBW := hBW.trans (b41.mono hBW.size)
  replace q00 := below_cell b41 q00
  replace q01 := below_cell b41 q01
  replace q02 := below_cell b41 q02
  have hsz41 := hBW.size
  have l4100 : ((w41.alloc (.cells #[.bool true, .slice p41 1 1, .slice q41 1 1] 27))).cell? ⟨w41.heap.size, 0, none⟩ = some (.bool true) := by go_simp
  have l4101 : ((w41.alloc (.cells #[.bool true, .slice p41 1 1, .slice q41 1 1] 27))).cell? ⟨w41.heap.size, 1, none⟩ = some (.slice p41 1 1) := by go_simp
  have l4102 : ((w41.alloc (.cells #[.bool true, .slice p41 1 1, .slice q41 1 1] 27))).cell? ⟨w41.heap.size, 2, none⟩ = some (.slice q41 1 1) := by go_simp
  have cb41 : Below w41.heap.size w41 ((w41.alloc (.cells #[.bool true, .slice p41 1 1, .slice q41 1 1] 27))) := ((Below.refl _ _).alloc (by (try simp only [World.size_alloc]); omega) _)
  replace hBW := hBW.trans (cb41.mono hBW.size)
  replace q00 := below_cell cb41 q00
  replace q01 := below_cell cb41 q01
  replace q02 := below_cell cb41 q02
  replace hp41 := hp41.later cb41
  replace hq41 := hq41.later cb41
  have hL410 : Row ((w41.alloc (.cells #[.bool true, .slice p41 1 1, .slice q41 1 1] 27))) (w41.heap.size) := by
    have := row_new (w41) #[.bool true, .slice p41 1 1, .slice q41 1 1] 27
    try simp only [World.size_alloc] at this
    exact this
  go_wp2_with fail
  generalize (w41.alloc (.cells #[.bool true, .slice p41 1 1, .slice q41 1 1] 27)) = w41x at q00 q01 q02 l4100 l4101 l4102 hL410 hp41 hq41 hBW cb41 ⊢
  clear cb41
  refine (H2.out _ _ hq41.seg).mono ?_
  rintro e w42 ⟨rfl, rfl⟩
  go_wp2_with fail
  refine (H3.out _ _ (HD.out.below (hB.trans (hBW.mono hB.size))) hp41.seg).mono ?_
  rintro e w43 ⟨rfl, b43⟩
  replace hBW := hBW.trans (b43.mono hBW.size)
  replace q00 := below_cell b43 q00
  replace q01 := below_cell b43 q01
  replace q02 := below_cell b43 q02
  replace l4100 := below_cell b43 l4100
  replace l4101 := below_cell b43 l4101
  replace l4102 := below_cell b43 l4102
  replace hL410 := below_row b43 hL410
  replace hp41 := hp41.later b43
  replace hq41 := hq41.later b43
  go_wp2
  go_ret
  exact ⟨rfl, hB.trans (hBW.mono hB.size)⟩

set_option maxHeartbeats 2000000 in
set_option maxRecDepth 100000 in
theorem dText_v (p q r t : Option Addr) (w : World) (h : Digits w) (hS : Seg w p 3 1) (hT : Seg w q 1 1) (hU : Seg w r 2 1) (hV : Seg w t 1 1) : Calls Tryz.prog 29 #[Value.agg #[Value.bool false, Value.slice p 1 1, Value.slice q 1 1, Value.bool true, Value.slice r 1 1, Value.slice t 1 1]] w fun e w' => e = .returned (.string ⟨#[51, 45, 50, 100]⟩) ∧ Below w.heap.size w w' := by
  have H1 := hide' (fun w' k1 k2 k3 => qText_3 p q w' k1 k2 k3)
  have H2 := hide' (fun w' k1 k2 => qSign_is true r 1 1 2 t 1 1 1 (-1) w' (Nat.le_refl _) (by omega) k1 (Nat.le_refl _) (by omega) k2 (by decide))
  have H3 := hide' (fun w' k1 k2 k3 => qText_m2 r t w' k1 k2 k3)
  have HD := hide' h
  clear h
  have e1 : (⟨#[45, 50]⟩ : ByteArray) ++ ⟨#[100]⟩ = ⟨#[45, 50, 100]⟩ := by decide +kernel
  have e2 : (⟨#[51]⟩ : ByteArray) ++ ⟨#[45, 50, 100]⟩ = ⟨#[51, 45, 50, 100]⟩ := by decide +kernel
  go_enter Tryz.func29, Tryz.ntmps29
  go_wp2_with fail
  obtain ⟨W, hW⟩ : ∃ W, (w.alloc (.cells #[.bool false, .slice p 1 1, .slice q 1 1, .bool true, .slice r 1 1, .slice t 1 1] 29)) = W := ⟨_, rfl⟩
  have q00 : W.cell? ⟨w.heap.size, 0, none⟩ = some (.bool false) := by subst hW; go_simp
  have q01 : W.cell? ⟨w.heap.size, 1, none⟩ = some (.slice p 1 1) := by subst hW; go_simp
  have q02 : W.cell? ⟨w.heap.size, 2, none⟩ = some (.slice q 1 1) := by subst hW; go_simp
  have q03 : W.cell? ⟨w.heap.size, 3, none⟩ = some (.bool true) := by subst hW; go_simp
  have q04 : W.cell? ⟨w.heap.size, 4, none⟩ = some (.slice r 1 1) := by subst hW; go_simp
  have q05 : W.cell? ⟨w.heap.size, 5, none⟩ = some (.slice t 1 1) := by subst hW; go_simp
  have hB : Below w.heap.size w W := by subst hW; exact ((Below.refl _ _).alloc (by (try simp only [World.size_alloc]); omega) _)
  have hz : W.heap.size = w.heap.size + 1 := by subst hW; simp only [World.size_alloc]
  rw [hW]
  clear hW
  have hBW : Below W.heap.size W W := Below.refl _ _
  refine (H1.out _ (HD.out.below (hB.trans (hBW.mono hB.size))) (sb hS hB hBW) (sb hT hB hBW)).mono ?_
  rintro e w41 ⟨rfl, b41⟩
  replace hBW := hBW.trans (b41.mono hBW.size)
  replace q00 := below_cell b41 q00
  replace q01 := below_cell b41 q01
  replace q02 := below_cell b41 q02
  replace q03 := below_cell b41 q03
  replace q04 := below_cell b41 q04
  replace q05 := below_cell b41 q05
  go_wp2_with fail
  refine (H2.out _ (sb hU hB hBW) (sb hV hB hBW)).mono ?_
  rintro e w42 ⟨rfl, b42⟩
  replace hBW := hBW.trans (b42.mono hBW.size)
  replace q00 := below_cell b42 q00
  replace q01 := below_cell b42 q01
  replace q02 := below_cell b42 q02
  replace q03 := below_cell b42 q03
  replace q04 := below_cell b42 q04
  replace q05 := below_cell b42 q05
  go_wp2_with fail
  refine (H3.out _ (HD.out.below (hB.trans (hBW.mono hB.size))) (sb hU hB hBW) (sb hV hB hBW)).mono ?_
  rintro e w43 ⟨rfl, b43⟩
  replace hBW := hBW.trans (b43.mono hBW.size)
  replace q00 := below_cell b43 q00
  replace q01 := below_cell b43 q01
  replace q02 := below_cell b43 q02
  replace q03 := below_cell b43 q03
  replace q04 := below_cell b43 q04
  replace q05 := below_cell b43 q05
  go_wp2
  go_ret
  exact ⟨by first | rfl | simp only [e1, e2], hB.trans (hBW.mono hB.size)⟩

end Go.Proofs.YtggblpbcphgnoaaGreatDoor
