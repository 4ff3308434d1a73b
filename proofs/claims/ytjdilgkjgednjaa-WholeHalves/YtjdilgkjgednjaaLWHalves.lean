/-
  WholeHalves: a shift up and down again is nothing; down it is Floor by the power of 2.
-/
import Derived.Test.YtjdilgkjgednjaaWS4
import Derived.Test.YtjdilgkjgednjaaWI6
import Derived.Test.YtjdilgkjgednjaaWI3
import Derived.Test.YtjdilgkjgednjaaOpenI
namespace Go.Proofs.Ytjdilgkjgednjaa.wholeHalves
open Go.ChangeShapes Go.WideShapes Go.ChangeAt Go.RowKit Go.Proofs.Ytjdilgkjgednjaa
set_option linter.unusedVariables false

set_option maxHeartbeats 8000000 in
set_option maxRecDepth 100000 in
theorem lo (s0 : Bool) (a0 : Option Addr) (len0 cap0 X0 : Nat) (z : Int) (hz : z < -1048576) (w : World) (hS0 : Seg w a0 X0 len0) (hc0 : len0 ≤ cap0) (hb0 : len0 ≤ 35184372087808) : Calls Try.prog 5 #[.agg #[.bool s0, .slice a0 len0 cap0], .int .i64 z] w fun e w' => e = .returned (.bool true) ∧ Below w.heap.size w w' := by
  have P0 := hide' (fun w' h => wShift_no s0 a0 len0 cap0 X0 w' hc0 (by omega) h z (Or.inl hz))
  go_enter Try.func5, Try.ntmps5
  go_wp2_with fail
  obtain ⟨W, hW⟩ : ∃ W, (w.alloc (.cells #[.bool s0, .slice a0 len0 cap0] 25)) = W := ⟨_, rfl⟩
  have q00 : W.cell? ⟨w.heap.size, 0, none⟩ = some (.bool s0) := by subst hW; go_simp
  have q01 : W.cell? ⟨w.heap.size, 1, none⟩ = some (.slice a0 len0 cap0) := by subst hW; go_simp
  have hB : Below w.heap.size w W := by subst hW; exact ((Below.refl _ _).alloc (by (try simp only [World.size_alloc]); omega) _)
  have hz : W.heap.size = w.heap.size + 1 := by subst hW; simp only [World.size_alloc]
  rw [hW]
  clear hW
  have hBW : Below W.heap.size W W := Below.refl _ _
  refine (P0.out _ (sb hS0 hB hBW)).mono ?_
  rintro e w41 ⟨rfl, b41⟩
  replace hBW := hBW.trans (b41.mono hBW.size)
  replace q00 := below_cell b41 q00
  replace q01 := below_cell b41 q01
  have hsz41 := hBW.size
  have l4100 : ((w41.alloc (.cells #[.bool false, .slice none 0 0] 25))).cell? ⟨w41.heap.size, 0, none⟩ = some (.bool false) := by go_simp
  have l4101 : ((w41.alloc (.cells #[.bool false, .slice none 0 0] 25))).cell? ⟨w41.heap.size, 1, none⟩ = some (.slice none 0 0) := by go_simp
  have cb41 : Below w41.heap.size w41 ((w41.alloc (.cells #[.bool false, .slice none 0 0] 25))) := ((Below.refl _ _).alloc (by (try simp only [World.size_alloc]); omega) _)
  replace hBW := hBW.trans (cb41.mono hBW.size)
  replace q00 := below_cell cb41 q00
  replace q01 := below_cell cb41 q01
  have hL410 : Row ((w41.alloc (.cells #[.bool false, .slice none 0 0] 25))) (w41.heap.size) := by
    have := row_new (w41) #[.bool false, .slice none 0 0] 25
    try simp only [World.size_alloc] at this
    exact this
  go_wp2_with fail
  generalize (w41.alloc (.cells #[.bool false, .slice none 0 0] 25)) = w41x at q00 q01 l4100 l4101 hL410 hBW cb41 ⊢
  clear cb41
  refine (awake_is _).mono ?_
  rintro e w42 ⟨rfl, b42⟩
  replace hBW := hBW.trans (b42.mono hBW.size)
  replace q00 := below_cell b42 q00
  replace q01 := below_cell b42 q01
  replace l4100 := below_cell b42 l4100
  replace l4101 := below_cell b42 l4101
  replace hL410 := below_row b42 hL410
  go_wp2
  go_ret
  exact ⟨rfl, hB.trans (hBW.mono hB.size)⟩

set_option maxHeartbeats 8000000 in
set_option maxRecDepth 100000 in
theorem hi (s0 : Bool) (a0 : Option Addr) (len0 cap0 X0 : Nat) (z : Int) (hz : 1048576 < z) (w : World) (hS0 : Seg w a0 X0 len0) (hc0 : len0 ≤ cap0) (hb0 : len0 ≤ 35184372087808) : Calls Try.prog 5 #[.agg #[.bool s0, .slice a0 len0 cap0], .int .i64 z] w fun e w' => e = .returned (.bool true) ∧ Below w.heap.size w w' := by
  have P0 := hide' (fun w' h => wShift_no s0 a0 len0 cap0 X0 w' hc0 (by omega) h z (Or.inr hz))
  have hz2 : ¬ (z < -1048576) := by omega
  go_enter Try.func5, Try.ntmps5
  go_wp2_with fail
  obtain ⟨W, hW⟩ : ∃ W, (w.alloc (.cells #[.bool s0, .slice a0 len0 cap0] 25)) = W := ⟨_, rfl⟩
  have q00 : W.cell? ⟨w.heap.size, 0, none⟩ = some (.bool s0) := by subst hW; go_simp
  have q01 : W.cell? ⟨w.heap.size, 1, none⟩ = some (.slice a0 len0 cap0) := by subst hW; go_simp
  have hB : Below w.heap.size w W := by subst hW; exact ((Below.refl _ _).alloc (by (try simp only [World.size_alloc]); omega) _)
  have hz : W.heap.size = w.heap.size + 1 := by subst hW; simp only [World.size_alloc]
  rw [hW]
  clear hW
  have hBW : Below W.heap.size W W := Below.refl _ _
  refine (P0.out _ (sb hS0 hB hBW)).mono ?_
  rintro e w41 ⟨rfl, b41⟩
  replace hBW := hBW.trans (b41.mono hBW.size)
  replace q00 := below_cell b41 q00
  replace q01 := below_cell b41 q01
  have hsz41 := hBW.size
  have l4100 : ((w41.alloc (.cells #[.bool false, .slice none 0 0] 25))).cell? ⟨w41.heap.size, 0, none⟩ = some (.bool false) := by go_simp
  have l4101 : ((w41.alloc (.cells #[.bool false, .slice none 0 0] 25))).cell? ⟨w41.heap.size, 1, none⟩ = some (.slice none 0 0) := by go_simp
  have cb41 : Below w41.heap.size w41 ((w41.alloc (.cells #[.bool false, .slice none 0 0] 25))) := ((Below.refl _ _).alloc (by (try simp only [World.size_alloc]); omega) _)
  replace hBW := hBW.trans (cb41.mono hBW.size)
  replace q00 := below_cell cb41 q00
  replace q01 := below_cell cb41 q01
  have hL410 : Row ((w41.alloc (.cells #[.bool false, .slice none 0 0] 25))) (w41.heap.size) := by
    have := row_new (w41) #[.bool false, .slice none 0 0] 25
    try simp only [World.size_alloc] at this
    exact this
  go_wp2_with fail
  generalize (w41.alloc (.cells #[.bool false, .slice none 0 0] 25)) = w41x at q00 q01 l4100 l4101 hL410 hBW cb41 ⊢
  clear cb41
  refine (awake_is _).mono ?_
  rintro e w42 ⟨rfl, b42⟩
  replace hBW := hBW.trans (b42.mono hBW.size)
  replace q00 := below_cell b42 q00
  replace q01 := below_cell b42 q01
  replace l4100 := below_cell b42 l4100
  replace l4101 := below_cell b42 l4101
  replace hL410 := below_row b42 hL410
  go_wp2
  go_ret
  exact ⟨rfl, hB.trans (hBW.mono hB.size)⟩

set_option maxHeartbeats 8000000 in
set_option maxRecDepth 100000 in
theorem zero (s0 : Bool) (a0 : Option Addr) (len0 cap0 X0 : Nat)  (w : World) (hS0 : Seg w a0 X0 len0) (hc0 : len0 ≤ cap0) (hb0 : len0 ≤ 35184372087808) : Calls Try.prog 5 #[.agg #[.bool s0, .slice a0 len0 cap0], .int .i64 0] w fun e w' => e = .returned (.bool true) ∧ Below w.heap.size w w' := by
  obtain ⟨k, hk0⟩ : ∃ k : Nat, k = 0 := ⟨_, rfl⟩
  have hk : k ≤ 1048576 := by omega
  obtain ⟨P, hP⟩ : ∃ P, 2 ^ k = P := ⟨_, rfl⟩
  have lP : ln P ≤ 32769 := by rw [← hP]; exact ln_pow (by omega)
  obtain ⟨Z0, hZ0⟩ : ∃ Z, sg s0 X0 = Z := ⟨_, rfl⟩
  obtain ⟨Zu, hZu⟩ : ∃ Z, sg s0 (X0 * 2 ^ k) = Z := ⟨_, rfl⟩
  obtain ⟨Zd, hZd⟩ : ∃ Z, sg s0 (dnA s0 X0 k) = Z := ⟨_, rfl⟩
  obtain ⟨Zp, hZp⟩ : ∃ Z : Int, (P : Int) = Z := ⟨_, rfl⟩
  have aP : am Zp = P := by rw [← hZp]; rfl
  have nP : ng Zp = false := by rw [← hZp]; unfold ng; rw [decide_eq_false_iff_not]; omega
  have l0 : ln (am Z0) ≤ 35184372087808 := by rw [← hZ0, am_sg]; have := ln_le_of_lt hS0.1; omega
  have lu : ln (am Zu) ≤ 35184372187808 := by rw [← hZu, am_sg]; have := ln_shl_le hS0.1 hk; omega
  have ld : ln (am Zd) ≤ 35184372087808 := by rw [← hZd, am_sg]; have := ln_le_of_lt (Nat.lt_of_le_of_lt (dnA_le s0 X0 k) hS0.1); omega
  have lp : ln (am Zp) ≤ 32769 := by rw [aP]; exact lP
  obtain ⟨G, hF⟩ := wfloor_pow s0 a0 len0 cap0 X0 k (ng Zp) (am Zp) Zd nP (by rw [aP]; exact hP) hc0 (by omega) (by omega) hZd
  have U0 := fun w' h => wShift_up s0 a0 len0 cap0 X0 w' hc0 (by omega) h k hk Zu hZu
  subst hk0
  have hZ2 : Zu = Z0 := by rw [← hZu, ← hZ0, Nat.pow_zero, Nat.mul_one]
  have hZ3 : Zd = Z0 := by rw [← hZd, ← hZ0, dnA_zero]
  have hZ4 : Zp = 1 := by rw [← hZp, ← hP]; rfl
  subst hZ2
  subst hZ3
  subst hZ4
  have B0 := fun w' p h => wShift_up (ng Zd) p (ln (am Zd)) (ln (am Zd)) (am Zd) w' (Nat.le_refl _) (by omega) h 0 (by omega) Zd (by rw [Nat.pow_zero, Nat.mul_one, sg_na])
  have D0 := fun w' h => wShift_up s0 a0 len0 cap0 X0 w' hc0 (by omega) h 0 (by omega) Zd (by rw [Nat.pow_zero, Nat.mul_one]; exact hZ0)
  have O0 := fun w' p h => wShift_up (ng 1) p (ln (am 1)) (ln (am 1)) (am 1) w' (Nat.le_refl _) (by omega) h 0 (by omega) 1 (by rw [Nat.pow_zero, Nat.mul_one, sg_na])
  have eM : Hid (sg s0 X0 * sg (ng 1) (am 1) = Zd) := by show _ = _; rw [sg_na, Int.mul_one]; exact hZ0
  have Q0 := hide' hZ0
  have HU := hide' U0
  have HB := hide' B0
  have HD := hide' D0
  have HO := hide' O0
  have HF := hide' hF
  clear U0 B0 D0 O0 hF hZ0 hZu hZd hZp hP aP nP
  go_enter Try.func5, Try.ntmps5
  go_wp2_with fail
  obtain ⟨W, hW⟩ : ∃ W, (w.alloc (.cells #[.bool s0, .slice a0 len0 cap0] 25)) = W := ⟨_, rfl⟩
  have q00 : W.cell? ⟨w.heap.size, 0, none⟩ = some (.bool s0) := by subst hW; go_simp
  have q01 : W.cell? ⟨w.heap.size, 1, none⟩ = some (.slice a0 len0 cap0) := by subst hW; go_simp
  have hB : Below w.heap.size w W := by subst hW; exact ((Below.refl _ _).alloc (by (try simp only [World.size_alloc]); omega) _)
  have hz : W.heap.size = w.heap.size + 1 := by subst hW; simp only [World.size_alloc]
  rw [hW]
  clear hW
  have hBW : Below W.heap.size W W := Below.refl _ _
  refine (HU.out _ (sb hS0 hB hBW)).mono ?_
  rintro e w41 ⟨a41, rfl, h41⟩
  have b41 := h41.below
  replace h41 := h41.back hBW
  replace hBW := hBW.trans (b41.mono hBW.size)
  replace q00 := below_cell b41 q00
  replace q01 := below_cell b41 q01
  have hsz41 := hBW.size
  have l4100 : ((w41.alloc (.cells #[.bool (ng Zd), .slice a41 (ln (am Zd)) (ln (am Zd))] 25))).cell? ⟨w41.heap.size, 0, none⟩ = some (.bool (ng Zd)) := by go_simp
  have l4101 : ((w41.alloc (.cells #[.bool (ng Zd), .slice a41 (ln (am Zd)) (ln (am Zd))] 25))).cell? ⟨w41.heap.size, 1, none⟩ = some (.slice a41 (ln (am Zd)) (ln (am Zd))) := by go_simp
  have cb41 : Below w41.heap.size w41 ((w41.alloc (.cells #[.bool (ng Zd), .slice a41 (ln (am Zd)) (ln (am Zd))] 25))) := ((Below.refl _ _).alloc (by (try simp only [World.size_alloc]); omega) _)
  replace hBW := hBW.trans (cb41.mono hBW.size)
  replace q00 := below_cell cb41 q00
  replace q01 := below_cell cb41 q01
  replace h41 := h41.later cb41
  have hL410 : Row ((w41.alloc (.cells #[.bool (ng Zd), .slice a41 (ln (am Zd)) (ln (am Zd))] 25))) (w41.heap.size) := by
    have := row_new (w41) #[.bool (ng Zd), .slice a41 (ln (am Zd)) (ln (am Zd))] 25
    try simp only [World.size_alloc] at this
    exact this
  go_wp2_with fail
  generalize (w41.alloc (.cells #[.bool (ng Zd), .slice a41 (ln (am Zd)) (ln (am Zd))] 25)) = w41x at q00 q01 l4100 l4101 hL410 h41 hBW cb41 ⊢
  clear cb41
  refine (HB.out _ a41 h41.seg).mono ?_
  rintro e w42 ⟨a42, rfl, h42⟩
  have b42 := h42.below
  replace h42 := h42.back hBW
  replace hBW := hBW.trans (b42.mono hBW.size)
  replace q00 := below_cell b42 q00
  replace q01 := below_cell b42 q01
  replace l4100 := below_cell b42 l4100
  replace l4101 := below_cell b42 l4101
  replace hL410 := below_row b42 hL410
  replace h41 := h41.later b42
  have hsz42 := hBW.size
  have hlt42hL410 := hL410.lt
  have l4200 : ((w42.alloc (.cells #[.bool (ng Zd), .slice a42 (ln (am Zd)) (ln (am Zd))] 25))).cell? ⟨w42.heap.size, 0, none⟩ = some (.bool (ng Zd)) := by go_simp
  have l4201 : ((w42.alloc (.cells #[.bool (ng Zd), .slice a42 (ln (am Zd)) (ln (am Zd))] 25))).cell? ⟨w42.heap.size, 1, none⟩ = some (.slice a42 (ln (am Zd)) (ln (am Zd))) := by go_simp
  have cb42 : Below w42.heap.size w42 ((w42.alloc (.cells #[.bool (ng Zd), .slice a42 (ln (am Zd)) (ln (am Zd))] 25))) := ((Below.refl _ _).alloc (by (try simp only [World.size_alloc]); omega) _)
  replace hBW := hBW.trans (cb42.mono hBW.size)
  replace q00 := below_cell cb42 q00
  replace q01 := below_cell cb42 q01
  replace l4100 := below_cell cb42 l4100
  replace l4101 := below_cell cb42 l4101
  replace hL410 := below_row cb42 hL410
  replace h41 := h41.later cb42
  replace h42 := h42.later cb42
  have hL420 : Row ((w42.alloc (.cells #[.bool (ng Zd), .slice a42 (ln (am Zd)) (ln (am Zd))] 25))) (w42.heap.size) := by
    have := row_new (w42) #[.bool (ng Zd), .slice a42 (ln (am Zd)) (ln (am Zd))] 25
    try simp only [World.size_alloc] at this
    exact this
  go_wp2_with fail
  generalize (w42.alloc (.cells #[.bool (ng Zd), .slice a42 (ln (am Zd)) (ln (am Zd))] 25)) = w42x at q00 q01 l4100 l4101 l4200 l4201 hL410 hL420 h41 h42 hBW cb42 ⊢
  clear cb42
  refine (one_is _).mono ?_
  rintro e w43 ⟨a43, rfl, h43⟩
  have b43 := h43.below
  replace h43 := h43.back hBW
  replace hBW := hBW.trans (b43.mono hBW.size)
  replace q00 := below_cell b43 q00
  replace q01 := below_cell b43 q01
  replace l4100 := below_cell b43 l4100
  replace l4101 := below_cell b43 l4101
  replace l4200 := below_cell b43 l4200
  replace l4201 := below_cell b43 l4201
  replace hL410 := below_row b43 hL410
  replace hL420 := below_row b43 hL420
  replace h41 := h41.later b43
  replace h42 := h42.later b43
  go_wp2_with fail
  refine (HO.out _ a43 h43.seg).mono ?_
  rintro e w44 ⟨a44, rfl, h44⟩
  have b44 := h44.below
  replace h44 := h44.back hBW
  replace hBW := hBW.trans (b44.mono hBW.size)
  replace q00 := below_cell b44 q00
  replace q01 := below_cell b44 q01
  replace l4100 := below_cell b44 l4100
  replace l4101 := below_cell b44 l4101
  replace l4200 := below_cell b44 l4200
  replace l4201 := below_cell b44 l4201
  replace hL410 := below_row b44 hL410
  replace hL420 := below_row b44 hL420
  replace h41 := h41.later b44
  replace h42 := h42.later b44
  replace h43 := h43.later b44
  have hsz44 := hBW.size
  have hlt44hL410 := hL410.lt
  have hlt44hL420 := hL420.lt
  have l4400 : ((w44.alloc (.cells #[.bool (ng 1), .slice a44 (ln (am 1)) (ln (am 1))] 25))).cell? ⟨w44.heap.size, 0, none⟩ = some (.bool (ng 1)) := by go_simp
  have l4401 : ((w44.alloc (.cells #[.bool (ng 1), .slice a44 (ln (am 1)) (ln (am 1))] 25))).cell? ⟨w44.heap.size, 1, none⟩ = some (.slice a44 (ln (am 1)) (ln (am 1))) := by go_simp
  have cb44 : Below w44.heap.size w44 ((w44.alloc (.cells #[.bool (ng 1), .slice a44 (ln (am 1)) (ln (am 1))] 25))) := ((Below.refl _ _).alloc (by (try simp only [World.size_alloc]); omega) _)
  replace hBW := hBW.trans (cb44.mono hBW.size)
  replace q00 := below_cell cb44 q00
  replace q01 := below_cell cb44 q01
  replace l4100 := below_cell cb44 l4100
  replace l4101 := below_cell cb44 l4101
  replace l4200 := below_cell cb44 l4200
  replace l4201 := below_cell cb44 l4201
  replace hL410 := below_row cb44 hL410
  replace hL420 := below_row cb44 hL420
  replace h41 := h41.later cb44
  replace h42 := h42.later cb44
  replace h43 := h43.later cb44
  replace h44 := h44.later cb44
  have hL440 : Row ((w44.alloc (.cells #[.bool (ng 1), .slice a44 (ln (am 1)) (ln (am 1))] 25))) (w44.heap.size) := by
    have := row_new (w44) #[.bool (ng 1), .slice a44 (ln (am 1)) (ln (am 1))] 25
    try simp only [World.size_alloc] at this
    exact this
  go_wp2_with fail
  generalize (w44.alloc (.cells #[.bool (ng 1), .slice a44 (ln (am 1)) (ln (am 1))] 25)) = w44x at q00 q01 l4100 l4101 l4200 l4201 l4400 l4401 hL410 hL420 hL440 h41 h42 h43 h44 hBW cb44 ⊢
  clear cb44
  refine (HD.out _ (sb hS0 hB hBW)).mono ?_
  rintro e w45 ⟨a45, rfl, h45⟩
  have b45 := h45.below
  replace h45 := h45.back hBW
  replace hBW := hBW.trans (b45.mono hBW.size)
  replace q00 := below_cell b45 q00
  replace q01 := below_cell b45 q01
  replace l4100 := below_cell b45 l4100
  replace l4101 := below_cell b45 l4101
  replace l4200 := below_cell b45 l4200
  replace l4201 := below_cell b45 l4201
  replace l4400 := below_cell b45 l4400
  replace l4401 := below_cell b45 l4401
  replace hL410 := below_row b45 hL410
  replace hL420 := below_row b45 hL420
  replace hL440 := below_row b45 hL440
  replace h41 := h41.later b45
  replace h42 := h42.later b45
  replace h43 := h43.later b45
  replace h44 := h44.later b45
  have hsz45 := hBW.size
  have hlt45hL410 := hL410.lt
  have hlt45hL420 := hL420.lt
  have hlt45hL440 := hL440.lt
  have l4500 : ((w45.alloc (.cells #[.bool (ng Zd), .slice a45 (ln (am Zd)) (ln (am Zd))] 25))).cell? ⟨w45.heap.size, 0, none⟩ = some (.bool (ng Zd)) := by go_simp
  have l4501 : ((w45.alloc (.cells #[.bool (ng Zd), .slice a45 (ln (am Zd)) (ln (am Zd))] 25))).cell? ⟨w45.heap.size, 1, none⟩ = some (.slice a45 (ln (am Zd)) (ln (am Zd))) := by go_simp
  have cb45 : Below w45.heap.size w45 ((w45.alloc (.cells #[.bool (ng Zd), .slice a45 (ln (am Zd)) (ln (am Zd))] 25))) := ((Below.refl _ _).alloc (by (try simp only [World.size_alloc]); omega) _)
  replace hBW := hBW.trans (cb45.mono hBW.size)
  replace q00 := below_cell cb45 q00
  replace q01 := below_cell cb45 q01
  replace l4100 := below_cell cb45 l4100
  replace l4101 := below_cell cb45 l4101
  replace l4200 := below_cell cb45 l4200
  replace l4201 := below_cell cb45 l4201
  replace l4400 := below_cell cb45 l4400
  replace l4401 := below_cell cb45 l4401
  replace hL410 := below_row cb45 hL410
  replace hL420 := below_row cb45 hL420
  replace hL440 := below_row cb45 hL440
  replace h41 := h41.later cb45
  replace h42 := h42.later cb45
  replace h43 := h43.later cb45
  replace h44 := h44.later cb45
  replace h45 := h45.later cb45
  have hL450 : Row ((w45.alloc (.cells #[.bool (ng Zd), .slice a45 (ln (am Zd)) (ln (am Zd))] 25))) (w45.heap.size) := by
    have := row_new (w45) #[.bool (ng Zd), .slice a45 (ln (am Zd)) (ln (am Zd))] 25
    try simp only [World.size_alloc] at this
    exact this
  go_wp2_with fail
  generalize (w45.alloc (.cells #[.bool (ng Zd), .slice a45 (ln (am Zd)) (ln (am Zd))] 25)) = w45x at q00 q01 l4100 l4101 l4200 l4201 l4400 l4401 l4500 l4501 hL410 hL420 hL440 hL450 h41 h42 h43 h44 h45 hBW cb45 ⊢
  clear cb45
  refine (HF.out _ a44 (sb hS0 hB hBW) h44.seg).mono ?_
  rintro e w46 ⟨a46, c46, rfl, h46, hg46⟩
  have b46 := h46.below
  replace h46 := h46.back hBW
  replace hg46 := hg46.back hBW
  replace hBW := hBW.trans (b46.mono hBW.size)
  replace q00 := below_cell b46 q00
  replace q01 := below_cell b46 q01
  replace l4100 := below_cell b46 l4100
  replace l4101 := below_cell b46 l4101
  replace l4200 := below_cell b46 l4200
  replace l4201 := below_cell b46 l4201
  replace l4400 := below_cell b46 l4400
  replace l4401 := below_cell b46 l4401
  replace l4500 := below_cell b46 l4500
  replace l4501 := below_cell b46 l4501
  replace hL410 := below_row b46 hL410
  replace hL420 := below_row b46 hL420
  replace hL440 := below_row b46 hL440
  replace hL450 := below_row b46 hL450
  replace h41 := h41.later b46
  replace h42 := h42.later b46
  replace h43 := h43.later b46
  replace h44 := h44.later b46
  replace h45 := h45.later b46
  have hsz46 := hBW.size
  have hlt46hL410 := hL410.lt
  have hlt46hL420 := hL420.lt
  have hlt46hL440 := hL440.lt
  have hlt46hL450 := hL450.lt
  have l4600 : (((w46.alloc (.cells #[.bool (ng Zd), .slice a46 (ln (am Zd)) (ln (am Zd))] 25)).alloc (.cells #[.bool (ng G), .slice c46 (ln (am G)) (ln (am G))] 25))).cell? ⟨w46.heap.size, 0, none⟩ = some (.bool (ng Zd)) := by go_simp
  have l4601 : (((w46.alloc (.cells #[.bool (ng Zd), .slice a46 (ln (am Zd)) (ln (am Zd))] 25)).alloc (.cells #[.bool (ng G), .slice c46 (ln (am G)) (ln (am G))] 25))).cell? ⟨w46.heap.size, 1, none⟩ = some (.slice a46 (ln (am Zd)) (ln (am Zd))) := by go_simp
  have l4610 : (((w46.alloc (.cells #[.bool (ng Zd), .slice a46 (ln (am Zd)) (ln (am Zd))] 25)).alloc (.cells #[.bool (ng G), .slice c46 (ln (am G)) (ln (am G))] 25))).cell? ⟨w46.heap.size + 1, 0, none⟩ = some (.bool (ng G)) := by go_simp
  have l4611 : (((w46.alloc (.cells #[.bool (ng Zd), .slice a46 (ln (am Zd)) (ln (am Zd))] 25)).alloc (.cells #[.bool (ng G), .slice c46 (ln (am G)) (ln (am G))] 25))).cell? ⟨w46.heap.size + 1, 1, none⟩ = some (.slice c46 (ln (am G)) (ln (am G))) := by go_simp
  have cb46 : Below w46.heap.size w46 (((w46.alloc (.cells #[.bool (ng Zd), .slice a46 (ln (am Zd)) (ln (am Zd))] 25)).alloc (.cells #[.bool (ng G), .slice c46 (ln (am G)) (ln (am G))] 25))) := (((Below.refl _ _).alloc (by (try simp only [World.size_alloc]); omega) _).alloc (by (try simp only [World.size_alloc]); omega) _)
  replace hBW := hBW.trans (cb46.mono hBW.size)
  replace q00 := below_cell cb46 q00
  replace q01 := below_cell cb46 q01
  replace l4100 := below_cell cb46 l4100
  replace l4101 := below_cell cb46 l4101
  replace l4200 := below_cell cb46 l4200
  replace l4201 := below_cell cb46 l4201
  replace l4400 := below_cell cb46 l4400
  replace l4401 := below_cell cb46 l4401
  replace l4500 := below_cell cb46 l4500
  replace l4501 := below_cell cb46 l4501
  replace hL410 := below_row cb46 hL410
  replace hL420 := below_row cb46 hL420
  replace hL440 := below_row cb46 hL440
  replace hL450 := below_row cb46 hL450
  replace h41 := h41.later cb46
  replace h42 := h42.later cb46
  replace h43 := h43.later cb46
  replace h44 := h44.later cb46
  replace h45 := h45.later cb46
  replace h46 := h46.later cb46
  replace hg46 := hg46.later cb46
  have hL460 : Row (((w46.alloc (.cells #[.bool (ng Zd), .slice a46 (ln (am Zd)) (ln (am Zd))] 25)).alloc (.cells #[.bool (ng G), .slice c46 (ln (am G)) (ln (am G))] 25))) (w46.heap.size) := by
    have := row_new (w46) #[.bool (ng Zd), .slice a46 (ln (am Zd)) (ln (am Zd))] 25
    try simp only [World.size_alloc] at this
    exact (this.alloc _)
  have hL461 : Row (((w46.alloc (.cells #[.bool (ng Zd), .slice a46 (ln (am Zd)) (ln (am Zd))] 25)).alloc (.cells #[.bool (ng G), .slice c46 (ln (am G)) (ln (am G))] 25))) (w46.heap.size + 1) := by
    have := row_new ((w46.alloc (.cells #[.bool (ng Zd), .slice a46 (ln (am Zd)) (ln (am Zd))] 25))) #[.bool (ng G), .slice c46 (ln (am G)) (ln (am G))] 25
    try simp only [World.size_alloc] at this
    exact this
  go_wp2_with fail
  generalize ((w46.alloc (.cells #[.bool (ng Zd), .slice a46 (ln (am Zd)) (ln (am Zd))] 25)).alloc (.cells #[.bool (ng G), .slice c46 (ln (am G)) (ln (am G))] 25)) = w46x at q00 q01 l4100 l4101 l4200 l4201 l4400 l4401 l4500 l4501 l4600 l4601 l4610 l4611 hL410 hL420 hL440 hL450 hL460 hL461 h41 h42 h43 h44 h45 h46 hg46 hBW cb46 ⊢
  clear cb46
  replace hBW := hBW.drew
  replace h41 := h41.drew
  replace h42 := h42.drew
  replace h43 := h43.drew
  replace h44 := h44.drew
  replace h45 := h45.drew
  replace h46 := h46.drew
  replace hg46 := hg46.drew
  first
    | go_region_held3 (fun w' => w'.cell? ⟨w.heap.size, 0, none⟩ = some (.bool s0) ∧ w'.cell? ⟨w.heap.size, 1, none⟩ = some (.slice a0 len0 cap0) ∧ w'.cell? ⟨w41.heap.size, 0, none⟩ = some (.bool (ng Zd)) ∧ w'.cell? ⟨w41.heap.size, 1, none⟩ = some (.slice a41 (ln (am Zd)) (ln (am Zd))) ∧ w'.cell? ⟨w42.heap.size, 0, none⟩ = some (.bool (ng Zd)) ∧ w'.cell? ⟨w42.heap.size, 1, none⟩ = some (.slice a42 (ln (am Zd)) (ln (am Zd))) ∧ w'.cell? ⟨w44.heap.size, 0, none⟩ = some (.bool (ng 1)) ∧ w'.cell? ⟨w44.heap.size, 1, none⟩ = some (.slice a44 (ln (am 1)) (ln (am 1))) ∧ w'.cell? ⟨w45.heap.size, 0, none⟩ = some (.bool (ng Zd)) ∧ w'.cell? ⟨w45.heap.size, 1, none⟩ = some (.slice a45 (ln (am Zd)) (ln (am Zd))) ∧ w'.cell? ⟨w46.heap.size, 0, none⟩ = some (.bool (ng Zd)) ∧ w'.cell? ⟨w46.heap.size, 1, none⟩ = some (.slice a46 (ln (am Zd)) (ln (am Zd))) ∧ Below w.heap.size w w')
        (first | exact ⟨q00, q01, l4100, l4101, l4200, l4201, l4400, l4401, l4500, l4501, l4600, l4601, hB.trans (hBW.mono hB.size)⟩ | exact kp12 b47 (by assumption) | exact kp12 b48 (by assumption) | exact kp12 b49 (by assumption) | exact kp12 b50 (by assumption) | exact kp12 b51 (by assumption) | exact kp12 b52 (by assumption) | exact kp12 (below_alloc _) (by assumption))
        (first
          | (go_at_call 18; go_at_call_of 18 (Value.agg #[Value.bool s0, Value.slice a0 len0 cap0]); refine (wNorm_is s0 a0 len0 cap0 X0 Zd _ hc0 (by omega) (sb hS0 hB hBW) Q0.out).mono ?_; rintro e w47 ⟨a47, rfl, h47⟩; have b47 := h47.below; replace h47 := h47.back hBW; replace hBW := hBW.trans (b47.mono hBW.size); replace q00 := below_cell b47 q00; replace q01 := below_cell b47 q01; replace l4100 := below_cell b47 l4100; replace l4101 := below_cell b47 l4101; replace l4200 := below_cell b47 l4200; replace l4201 := below_cell b47 l4201; replace l4400 := below_cell b47 l4400; replace l4401 := below_cell b47 l4401; replace l4500 := below_cell b47 l4500; replace l4501 := below_cell b47 l4501; replace l4600 := below_cell b47 l4600; replace l4601 := below_cell b47 l4601; replace l4610 := below_cell b47 l4610; replace l4611 := below_cell b47 l4611; replace hL410 := below_row b47 hL410; replace hL420 := below_row b47 hL420; replace hL440 := below_row b47 hL440; replace hL450 := below_row b47 hL450; replace hL460 := below_row b47 hL460; replace hL461 := below_row b47 hL461; replace h41 := h41.later b47; replace h42 := h42.later b47; replace h43 := h43.later b47; replace h44 := h44.later b47; replace h45 := h45.later b47; replace h46 := h46.later b47; replace hg46 := hg46.later b47)
          | (go_at_call 9; go_at_call_of 9 (Value.agg #[Value.bool (ng Zd), Value.slice a42 (ln (am Zd)) (ln (am Zd))]); go_at_call_of 9 (Value.agg #[Value.bool (ng Zd), Value.slice a47 (ln (am Zd)) (ln (am Zd))]); refine (sameI_is Zd a42 a47 _ _ _ (by omega) h42.seg h47.seg).mono ?_; rintro e w48 ⟨rfl, b48⟩; replace hBW := hBW.trans (b48.mono hBW.size); replace q00 := below_cell b48 q00; replace q01 := below_cell b48 q01; replace l4100 := below_cell b48 l4100; replace l4101 := below_cell b48 l4101; replace l4200 := below_cell b48 l4200; replace l4201 := below_cell b48 l4201; replace l4400 := below_cell b48 l4400; replace l4401 := below_cell b48 l4401; replace l4500 := below_cell b48 l4500; replace l4501 := below_cell b48 l4501; replace l4600 := below_cell b48 l4600; replace l4601 := below_cell b48 l4601; replace l4610 := below_cell b48 l4610; replace l4611 := below_cell b48 l4611; replace hL410 := below_row b48 hL410; replace hL420 := below_row b48 hL420; replace hL440 := below_row b48 hL440; replace hL450 := below_row b48 hL450; replace hL460 := below_row b48 hL460; replace hL461 := below_row b48 hL461; replace h41 := h41.later b48; replace h42 := h42.later b48; replace h43 := h43.later b48; replace h44 := h44.later b48; replace h45 := h45.later b48; replace h46 := h46.later b48; replace hg46 := hg46.later b48; replace h47 := h47.later b48)
          | (go_at_call 9; go_at_call_of 9 (Value.agg #[Value.bool (ng Zd), Value.slice a45 (ln (am Zd)) (ln (am Zd))]); go_at_call_of 9 (Value.agg #[Value.bool (ng Zd), Value.slice a46 (ln (am Zd)) (ln (am Zd))]); refine (sameI_is Zd a45 a46 _ _ _ (by omega) h45.seg h46.seg).mono ?_; rintro e w49 ⟨rfl, b49⟩; replace hBW := hBW.trans (b49.mono hBW.size); replace q00 := below_cell b49 q00; replace q01 := below_cell b49 q01; replace l4100 := below_cell b49 l4100; replace l4101 := below_cell b49 l4101; replace l4200 := below_cell b49 l4200; replace l4201 := below_cell b49 l4201; replace l4400 := below_cell b49 l4400; replace l4401 := below_cell b49 l4401; replace l4500 := below_cell b49 l4500; replace l4501 := below_cell b49 l4501; replace l4600 := below_cell b49 l4600; replace l4601 := below_cell b49 l4601; replace l4610 := below_cell b49 l4610; replace l4611 := below_cell b49 l4611; replace hL410 := below_row b49 hL410; replace hL420 := below_row b49 hL420; replace hL440 := below_row b49 hL440; replace hL450 := below_row b49 hL450; replace hL460 := below_row b49 hL460; replace hL461 := below_row b49 hL461; replace h41 := h41.later b49; replace h42 := h42.later b49; replace h43 := h43.later b49; replace h44 := h44.later b49; replace h45 := h45.later b49; replace h46 := h46.later b49; replace hg46 := hg46.later b49; replace h47 := h47.later b49)
          | (go_at_call 19; go_at_call_of 19 (Value.agg #[Value.bool s0, Value.slice a0 len0 cap0]); go_at_call_of 19 (Value.agg #[Value.bool (ng 1), Value.slice a44 (ln (am 1)) (ln (am 1))]); refine (wMul_is s0 a0 len0 cap0 X0 (ng 1) a44 (ln (am 1)) (ln (am 1)) (am 1) Zd _ hc0 (by omega) (sb hS0 hB hBW) (Nat.le_refl _) (by omega) h44.seg eM.out).mono ?_; rintro e w50 ⟨a50, rfl, h50⟩; have b50 := h50.below; replace h50 := h50.back hBW; replace hBW := hBW.trans (b50.mono hBW.size); replace q00 := below_cell b50 q00; replace q01 := below_cell b50 q01; replace l4100 := below_cell b50 l4100; replace l4101 := below_cell b50 l4101; replace l4200 := below_cell b50 l4200; replace l4201 := below_cell b50 l4201; replace l4400 := below_cell b50 l4400; replace l4401 := below_cell b50 l4401; replace l4500 := below_cell b50 l4500; replace l4501 := below_cell b50 l4501; replace l4600 := below_cell b50 l4600; replace l4601 := below_cell b50 l4601; replace l4610 := below_cell b50 l4610; replace l4611 := below_cell b50 l4611; replace hL410 := below_row b50 hL410; replace hL420 := below_row b50 hL420; replace hL440 := below_row b50 hL440; replace hL450 := below_row b50 hL450; replace hL460 := below_row b50 hL460; replace hL461 := below_row b50 hL461; replace h41 := h41.later b50; replace h42 := h42.later b50; replace h43 := h43.later b50; replace h44 := h44.later b50; replace h45 := h45.later b50; replace h46 := h46.later b50; replace hg46 := hg46.later b50; replace h47 := h47.later b50)
          | (go_at_call 9; go_at_call_of 9 (Value.agg #[Value.bool (ng Zd), Value.slice a41 (ln (am Zd)) (ln (am Zd))]); go_at_call_of 9 (Value.agg #[Value.bool (ng Zd), Value.slice a50 (ln (am Zd)) (ln (am Zd))]); refine (sameI_is Zd a41 a50 _ _ _ (by omega) h41.seg h50.seg).mono ?_; rintro e w51 ⟨rfl, b51⟩; replace hBW := hBW.trans (b51.mono hBW.size); replace q00 := below_cell b51 q00; replace q01 := below_cell b51 q01; replace l4100 := below_cell b51 l4100; replace l4101 := below_cell b51 l4101; replace l4200 := below_cell b51 l4200; replace l4201 := below_cell b51 l4201; replace l4400 := below_cell b51 l4400; replace l4401 := below_cell b51 l4401; replace l4500 := below_cell b51 l4500; replace l4501 := below_cell b51 l4501; replace l4600 := below_cell b51 l4600; replace l4601 := below_cell b51 l4601; replace l4610 := below_cell b51 l4610; replace l4611 := below_cell b51 l4611; replace hL410 := below_row b51 hL410; replace hL420 := below_row b51 hL420; replace hL440 := below_row b51 hL440; replace hL450 := below_row b51 hL450; replace hL460 := below_row b51 hL460; replace hL461 := below_row b51 hL461; replace h41 := h41.later b51; replace h42 := h42.later b51; replace h43 := h43.later b51; replace h44 := h44.later b51; replace h45 := h45.later b51; replace h46 := h46.later b51; replace hg46 := hg46.later b51; replace h47 := h47.later b51; replace h50 := h50.later b51)
          | (go_at_call 15; refine (awake_is _).mono ?_; rintro e w52 ⟨rfl, b52⟩; replace hBW := hBW.trans (b52.mono hBW.size); replace q00 := below_cell b52 q00; replace q01 := below_cell b52 q01; replace l4100 := below_cell b52 l4100; replace l4101 := below_cell b52 l4101; replace l4200 := below_cell b52 l4200; replace l4201 := below_cell b52 l4201; replace l4400 := below_cell b52 l4400; replace l4401 := below_cell b52 l4401; replace l4500 := below_cell b52 l4500; replace l4501 := below_cell b52 l4501; replace l4600 := below_cell b52 l4600; replace l4601 := below_cell b52 l4601; replace l4610 := below_cell b52 l4610; replace l4611 := below_cell b52 l4611; replace hL410 := below_row b52 hL410; replace hL420 := below_row b52 hL420; replace hL440 := below_row b52 hL440; replace hL450 := below_row b52 hL450; replace hL460 := below_row b52 hL460; replace hL461 := below_row b52 hL461; replace h41 := h41.later b52; replace h42 := h42.later b52; replace h43 := h43.later b52; replace h44 := h44.later b52; replace h45 := h45.later b52; replace h46 := h46.later b52; replace hg46 := hg46.later b52; replace h47 := h47.later b52; replace h50 := h50.later b52))
    | fail
  go_wp2
  go_ret
  exact ⟨rfl, hB.trans (hBW.mono hB.size)⟩

set_option maxHeartbeats 8000000 in
set_option maxRecDepth 100000 in
theorem up (s0 : Bool) (a0 : Option Addr) (len0 cap0 X0 : Nat) (k : Nat) (h0 : 0 < k) (hk : k ≤ 1048576) (w : World) (hS0 : Seg w a0 X0 len0) (hc0 : len0 ≤ cap0) (hb0 : len0 ≤ 35184372087808) : Calls Try.prog 5 #[.agg #[.bool s0, .slice a0 len0 cap0], .int .i64 (k : Int)] w fun e w' => e = .returned (.bool true) ∧ Below w.heap.size w w' := by
  obtain ⟨P, hP⟩ : ∃ P, 2 ^ k = P := ⟨_, rfl⟩
  have lP : ln P ≤ 32769 := by rw [← hP]; exact ln_pow (by omega)
  obtain ⟨Z0, hZ0⟩ : ∃ Z, sg s0 X0 = Z := ⟨_, rfl⟩
  obtain ⟨Zu, hZu⟩ : ∃ Z, sg s0 (X0 * 2 ^ k) = Z := ⟨_, rfl⟩
  obtain ⟨Zd, hZd⟩ : ∃ Z, sg s0 (dnA s0 X0 k) = Z := ⟨_, rfl⟩
  obtain ⟨Zp, hZp⟩ : ∃ Z : Int, (P : Int) = Z := ⟨_, rfl⟩
  have aP : am Zp = P := by rw [← hZp]; rfl
  have nP : ng Zp = false := by rw [← hZp]; unfold ng; rw [decide_eq_false_iff_not]; omega
  have l0 : ln (am Z0) ≤ 35184372087808 := by rw [← hZ0, am_sg]; have := ln_le_of_lt hS0.1; omega
  have lu : ln (am Zu) ≤ 35184372187808 := by rw [← hZu, am_sg]; have := ln_shl_le hS0.1 hk; omega
  have ld : ln (am Zd) ≤ 35184372087808 := by rw [← hZd, am_sg]; have := ln_le_of_lt (Nat.lt_of_le_of_lt (dnA_le s0 X0 k) hS0.1); omega
  have lp : ln (am Zp) ≤ 32769 := by rw [aP]; exact lP
  obtain ⟨G, hF⟩ := wfloor_pow s0 a0 len0 cap0 X0 k (ng Zp) (am Zp) Zd nP (by rw [aP]; exact hP) hc0 (by omega) (by omega) hZd
  have U0 := fun w' h => wShift_up s0 a0 len0 cap0 X0 w' hc0 (by omega) h k hk Zu hZu
  have B0 := fun w' p h => wShift_dn (ng Zu) p (ln (am Zu)) (ln (am Zu)) (am Zu) w' (Nat.le_refl _) (by omega) h k h0 hk Z0 (by rw [← hZu, am_sg, dnA_up, sg_back]; exact hZ0)
  have D0 := fun w' h => wShift_dn s0 a0 len0 cap0 X0 w' hc0 (by omega) h k h0 hk Zd hZd
  have O0 := fun w' p h => wShift_up (ng 1) p (ln (am 1)) (ln (am 1)) (am 1) w' (Nat.le_refl _) (by rw [show am 1 = 1 from rfl, ln_one]; omega) h k hk Zp (by rw [← hZp, ← hP, show am 1 = 1 from rfl, Nat.one_mul]; rfl)
  have eM : Hid (sg s0 X0 * sg (ng Zp) (am Zp) = Zu) := by show _ = _; rw [sg_na, ← hZp, sg_mulP, ← hP]; exact hZu
  have Q0 := hide' hZ0
  have hk0 : ¬ (((k : Int) : Int) < -1048576) := by omega
  have hk1 : ¬ ((1048576 : Int) < (k : Int)) := by omega
  have hk2 : (0 : Int) - (k : Int) = -(k : Int) := by omega
  have hk4 : IntKind.i64.wrap (-(k : Int)) = -(k : Int) := by rw [IntKind.wrap_i64]; omega
  have hk5 : IntKind.i64.wrap (k : Int) = (k : Int) := by rw [IntKind.wrap_i64]; omega
  have hk3 : ¬ ((k : Int) < 0) := by omega
  have HU := hide' U0
  have HB := hide' B0
  have HD := hide' D0
  have HO := hide' O0
  have HF := hide' hF
  clear U0 B0 D0 O0 hF hZ0 hZu hZd hZp hP aP nP
  go_enter Try.func5, Try.ntmps5
  go_wp2_with fail
  obtain ⟨W, hW⟩ : ∃ W, (w.alloc (.cells #[.bool s0, .slice a0 len0 cap0] 25)) = W := ⟨_, rfl⟩
  have q00 : W.cell? ⟨w.heap.size, 0, none⟩ = some (.bool s0) := by subst hW; go_simp
  have q01 : W.cell? ⟨w.heap.size, 1, none⟩ = some (.slice a0 len0 cap0) := by subst hW; go_simp
  have hB : Below w.heap.size w W := by subst hW; exact ((Below.refl _ _).alloc (by (try simp only [World.size_alloc]); omega) _)
  have hz : W.heap.size = w.heap.size + 1 := by subst hW; simp only [World.size_alloc]
  rw [hW]
  clear hW
  have hBW : Below W.heap.size W W := Below.refl _ _
  refine (HU.out _ (sb hS0 hB hBW)).mono ?_
  rintro e w41 ⟨a41, rfl, h41⟩
  have b41 := h41.below
  replace h41 := h41.back hBW
  replace hBW := hBW.trans (b41.mono hBW.size)
  replace q00 := below_cell b41 q00
  replace q01 := below_cell b41 q01
  have hsz41 := hBW.size
  have l4100 : ((w41.alloc (.cells #[.bool (ng Zu), .slice a41 (ln (am Zu)) (ln (am Zu))] 25))).cell? ⟨w41.heap.size, 0, none⟩ = some (.bool (ng Zu)) := by go_simp
  have l4101 : ((w41.alloc (.cells #[.bool (ng Zu), .slice a41 (ln (am Zu)) (ln (am Zu))] 25))).cell? ⟨w41.heap.size, 1, none⟩ = some (.slice a41 (ln (am Zu)) (ln (am Zu))) := by go_simp
  have cb41 : Below w41.heap.size w41 ((w41.alloc (.cells #[.bool (ng Zu), .slice a41 (ln (am Zu)) (ln (am Zu))] 25))) := ((Below.refl _ _).alloc (by (try simp only [World.size_alloc]); omega) _)
  replace hBW := hBW.trans (cb41.mono hBW.size)
  replace q00 := below_cell cb41 q00
  replace q01 := below_cell cb41 q01
  replace h41 := h41.later cb41
  have hL410 : Row ((w41.alloc (.cells #[.bool (ng Zu), .slice a41 (ln (am Zu)) (ln (am Zu))] 25))) (w41.heap.size) := by
    have := row_new (w41) #[.bool (ng Zu), .slice a41 (ln (am Zu)) (ln (am Zu))] 25
    try simp only [World.size_alloc] at this
    exact this
  go_wp2_with fail
  generalize (w41.alloc (.cells #[.bool (ng Zu), .slice a41 (ln (am Zu)) (ln (am Zu))] 25)) = w41x at q00 q01 l4100 l4101 hL410 h41 hBW cb41 ⊢
  clear cb41
  refine (HB.out _ a41 h41.seg).mono ?_
  rintro e w42 ⟨a42, rfl, h42⟩
  have b42 := h42.below
  replace h42 := h42.back hBW
  replace hBW := hBW.trans (b42.mono hBW.size)
  replace q00 := below_cell b42 q00
  replace q01 := below_cell b42 q01
  replace l4100 := below_cell b42 l4100
  replace l4101 := below_cell b42 l4101
  replace hL410 := below_row b42 hL410
  replace h41 := h41.later b42
  have hsz42 := hBW.size
  have hlt42hL410 := hL410.lt
  have l4200 : ((w42.alloc (.cells #[.bool (ng Z0), .slice a42 (ln (am Z0)) (ln (am Z0))] 25))).cell? ⟨w42.heap.size, 0, none⟩ = some (.bool (ng Z0)) := by go_simp
  have l4201 : ((w42.alloc (.cells #[.bool (ng Z0), .slice a42 (ln (am Z0)) (ln (am Z0))] 25))).cell? ⟨w42.heap.size, 1, none⟩ = some (.slice a42 (ln (am Z0)) (ln (am Z0))) := by go_simp
  have cb42 : Below w42.heap.size w42 ((w42.alloc (.cells #[.bool (ng Z0), .slice a42 (ln (am Z0)) (ln (am Z0))] 25))) := ((Below.refl _ _).alloc (by (try simp only [World.size_alloc]); omega) _)
  replace hBW := hBW.trans (cb42.mono hBW.size)
  replace q00 := below_cell cb42 q00
  replace q01 := below_cell cb42 q01
  replace l4100 := below_cell cb42 l4100
  replace l4101 := below_cell cb42 l4101
  replace hL410 := below_row cb42 hL410
  replace h41 := h41.later cb42
  replace h42 := h42.later cb42
  have hL420 : Row ((w42.alloc (.cells #[.bool (ng Z0), .slice a42 (ln (am Z0)) (ln (am Z0))] 25))) (w42.heap.size) := by
    have := row_new (w42) #[.bool (ng Z0), .slice a42 (ln (am Z0)) (ln (am Z0))] 25
    try simp only [World.size_alloc] at this
    exact this
  go_wp2_with fail
  generalize (w42.alloc (.cells #[.bool (ng Z0), .slice a42 (ln (am Z0)) (ln (am Z0))] 25)) = w42x at q00 q01 l4100 l4101 l4200 l4201 hL410 hL420 h41 h42 hBW cb42 ⊢
  clear cb42
  refine (one_is _).mono ?_
  rintro e w43 ⟨a43, rfl, h43⟩
  have b43 := h43.below
  replace h43 := h43.back hBW
  replace hBW := hBW.trans (b43.mono hBW.size)
  replace q00 := below_cell b43 q00
  replace q01 := below_cell b43 q01
  replace l4100 := below_cell b43 l4100
  replace l4101 := below_cell b43 l4101
  replace l4200 := below_cell b43 l4200
  replace l4201 := below_cell b43 l4201
  replace hL410 := below_row b43 hL410
  replace hL420 := below_row b43 hL420
  replace h41 := h41.later b43
  replace h42 := h42.later b43
  go_wp2_with fail
  refine (HO.out _ a43 h43.seg).mono ?_
  rintro e w44 ⟨a44, rfl, h44⟩
  have b44 := h44.below
  replace h44 := h44.back hBW
  replace hBW := hBW.trans (b44.mono hBW.size)
  replace q00 := below_cell b44 q00
  replace q01 := below_cell b44 q01
  replace l4100 := below_cell b44 l4100
  replace l4101 := below_cell b44 l4101
  replace l4200 := below_cell b44 l4200
  replace l4201 := below_cell b44 l4201
  replace hL410 := below_row b44 hL410
  replace hL420 := below_row b44 hL420
  replace h41 := h41.later b44
  replace h42 := h42.later b44
  replace h43 := h43.later b44
  have hsz44 := hBW.size
  have hlt44hL410 := hL410.lt
  have hlt44hL420 := hL420.lt
  have l4400 : ((w44.alloc (.cells #[.bool (ng Zp), .slice a44 (ln (am Zp)) (ln (am Zp))] 25))).cell? ⟨w44.heap.size, 0, none⟩ = some (.bool (ng Zp)) := by go_simp
  have l4401 : ((w44.alloc (.cells #[.bool (ng Zp), .slice a44 (ln (am Zp)) (ln (am Zp))] 25))).cell? ⟨w44.heap.size, 1, none⟩ = some (.slice a44 (ln (am Zp)) (ln (am Zp))) := by go_simp
  have cb44 : Below w44.heap.size w44 ((w44.alloc (.cells #[.bool (ng Zp), .slice a44 (ln (am Zp)) (ln (am Zp))] 25))) := ((Below.refl _ _).alloc (by (try simp only [World.size_alloc]); omega) _)
  replace hBW := hBW.trans (cb44.mono hBW.size)
  replace q00 := below_cell cb44 q00
  replace q01 := below_cell cb44 q01
  replace l4100 := below_cell cb44 l4100
  replace l4101 := below_cell cb44 l4101
  replace l4200 := below_cell cb44 l4200
  replace l4201 := below_cell cb44 l4201
  replace hL410 := below_row cb44 hL410
  replace hL420 := below_row cb44 hL420
  replace h41 := h41.later cb44
  replace h42 := h42.later cb44
  replace h43 := h43.later cb44
  replace h44 := h44.later cb44
  have hL440 : Row ((w44.alloc (.cells #[.bool (ng Zp), .slice a44 (ln (am Zp)) (ln (am Zp))] 25))) (w44.heap.size) := by
    have := row_new (w44) #[.bool (ng Zp), .slice a44 (ln (am Zp)) (ln (am Zp))] 25
    try simp only [World.size_alloc] at this
    exact this
  go_wp2_with fail
  generalize (w44.alloc (.cells #[.bool (ng Zp), .slice a44 (ln (am Zp)) (ln (am Zp))] 25)) = w44x at q00 q01 l4100 l4101 l4200 l4201 l4400 l4401 hL410 hL420 hL440 h41 h42 h43 h44 hBW cb44 ⊢
  clear cb44
  refine (HD.out _ (sb hS0 hB hBW)).mono ?_
  rintro e w45 ⟨a45, rfl, h45⟩
  have b45 := h45.below
  replace h45 := h45.back hBW
  replace hBW := hBW.trans (b45.mono hBW.size)
  replace q00 := below_cell b45 q00
  replace q01 := below_cell b45 q01
  replace l4100 := below_cell b45 l4100
  replace l4101 := below_cell b45 l4101
  replace l4200 := below_cell b45 l4200
  replace l4201 := below_cell b45 l4201
  replace l4400 := below_cell b45 l4400
  replace l4401 := below_cell b45 l4401
  replace hL410 := below_row b45 hL410
  replace hL420 := below_row b45 hL420
  replace hL440 := below_row b45 hL440
  replace h41 := h41.later b45
  replace h42 := h42.later b45
  replace h43 := h43.later b45
  replace h44 := h44.later b45
  have hsz45 := hBW.size
  have hlt45hL410 := hL410.lt
  have hlt45hL420 := hL420.lt
  have hlt45hL440 := hL440.lt
  have l4500 : ((w45.alloc (.cells #[.bool (ng Zd), .slice a45 (ln (am Zd)) (ln (am Zd))] 25))).cell? ⟨w45.heap.size, 0, none⟩ = some (.bool (ng Zd)) := by go_simp
  have l4501 : ((w45.alloc (.cells #[.bool (ng Zd), .slice a45 (ln (am Zd)) (ln (am Zd))] 25))).cell? ⟨w45.heap.size, 1, none⟩ = some (.slice a45 (ln (am Zd)) (ln (am Zd))) := by go_simp
  have cb45 : Below w45.heap.size w45 ((w45.alloc (.cells #[.bool (ng Zd), .slice a45 (ln (am Zd)) (ln (am Zd))] 25))) := ((Below.refl _ _).alloc (by (try simp only [World.size_alloc]); omega) _)
  replace hBW := hBW.trans (cb45.mono hBW.size)
  replace q00 := below_cell cb45 q00
  replace q01 := below_cell cb45 q01
  replace l4100 := below_cell cb45 l4100
  replace l4101 := below_cell cb45 l4101
  replace l4200 := below_cell cb45 l4200
  replace l4201 := below_cell cb45 l4201
  replace l4400 := below_cell cb45 l4400
  replace l4401 := below_cell cb45 l4401
  replace hL410 := below_row cb45 hL410
  replace hL420 := below_row cb45 hL420
  replace hL440 := below_row cb45 hL440
  replace h41 := h41.later cb45
  replace h42 := h42.later cb45
  replace h43 := h43.later cb45
  replace h44 := h44.later cb45
  replace h45 := h45.later cb45
  have hL450 : Row ((w45.alloc (.cells #[.bool (ng Zd), .slice a45 (ln (am Zd)) (ln (am Zd))] 25))) (w45.heap.size) := by
    have := row_new (w45) #[.bool (ng Zd), .slice a45 (ln (am Zd)) (ln (am Zd))] 25
    try simp only [World.size_alloc] at this
    exact this
  go_wp2_with fail
  generalize (w45.alloc (.cells #[.bool (ng Zd), .slice a45 (ln (am Zd)) (ln (am Zd))] 25)) = w45x at q00 q01 l4100 l4101 l4200 l4201 l4400 l4401 l4500 l4501 hL410 hL420 hL440 hL450 h41 h42 h43 h44 h45 hBW cb45 ⊢
  clear cb45
  refine (HF.out _ a44 (sb hS0 hB hBW) h44.seg).mono ?_
  rintro e w46 ⟨a46, c46, rfl, h46, hg46⟩
  have b46 := h46.below
  replace h46 := h46.back hBW
  replace hg46 := hg46.back hBW
  replace hBW := hBW.trans (b46.mono hBW.size)
  replace q00 := below_cell b46 q00
  replace q01 := below_cell b46 q01
  replace l4100 := below_cell b46 l4100
  replace l4101 := below_cell b46 l4101
  replace l4200 := below_cell b46 l4200
  replace l4201 := below_cell b46 l4201
  replace l4400 := below_cell b46 l4400
  replace l4401 := below_cell b46 l4401
  replace l4500 := below_cell b46 l4500
  replace l4501 := below_cell b46 l4501
  replace hL410 := below_row b46 hL410
  replace hL420 := below_row b46 hL420
  replace hL440 := below_row b46 hL440
  replace hL450 := below_row b46 hL450
  replace h41 := h41.later b46
  replace h42 := h42.later b46
  replace h43 := h43.later b46
  replace h44 := h44.later b46
  replace h45 := h45.later b46
  have hsz46 := hBW.size
  have hlt46hL410 := hL410.lt
  have hlt46hL420 := hL420.lt
  have hlt46hL440 := hL440.lt
  have hlt46hL450 := hL450.lt
  have l4600 : (((w46.alloc (.cells #[.bool (ng Zd), .slice a46 (ln (am Zd)) (ln (am Zd))] 25)).alloc (.cells #[.bool (ng G), .slice c46 (ln (am G)) (ln (am G))] 25))).cell? ⟨w46.heap.size, 0, none⟩ = some (.bool (ng Zd)) := by go_simp
  have l4601 : (((w46.alloc (.cells #[.bool (ng Zd), .slice a46 (ln (am Zd)) (ln (am Zd))] 25)).alloc (.cells #[.bool (ng G), .slice c46 (ln (am G)) (ln (am G))] 25))).cell? ⟨w46.heap.size, 1, none⟩ = some (.slice a46 (ln (am Zd)) (ln (am Zd))) := by go_simp
  have l4610 : (((w46.alloc (.cells #[.bool (ng Zd), .slice a46 (ln (am Zd)) (ln (am Zd))] 25)).alloc (.cells #[.bool (ng G), .slice c46 (ln (am G)) (ln (am G))] 25))).cell? ⟨w46.heap.size + 1, 0, none⟩ = some (.bool (ng G)) := by go_simp
  have l4611 : (((w46.alloc (.cells #[.bool (ng Zd), .slice a46 (ln (am Zd)) (ln (am Zd))] 25)).alloc (.cells #[.bool (ng G), .slice c46 (ln (am G)) (ln (am G))] 25))).cell? ⟨w46.heap.size + 1, 1, none⟩ = some (.slice c46 (ln (am G)) (ln (am G))) := by go_simp
  have cb46 : Below w46.heap.size w46 (((w46.alloc (.cells #[.bool (ng Zd), .slice a46 (ln (am Zd)) (ln (am Zd))] 25)).alloc (.cells #[.bool (ng G), .slice c46 (ln (am G)) (ln (am G))] 25))) := (((Below.refl _ _).alloc (by (try simp only [World.size_alloc]); omega) _).alloc (by (try simp only [World.size_alloc]); omega) _)
  replace hBW := hBW.trans (cb46.mono hBW.size)
  replace q00 := below_cell cb46 q00
  replace q01 := below_cell cb46 q01
  replace l4100 := below_cell cb46 l4100
  replace l4101 := below_cell cb46 l4101
  replace l4200 := below_cell cb46 l4200
  replace l4201 := below_cell cb46 l4201
  replace l4400 := below_cell cb46 l4400
  replace l4401 := below_cell cb46 l4401
  replace l4500 := below_cell cb46 l4500
  replace l4501 := below_cell cb46 l4501
  replace hL410 := below_row cb46 hL410
  replace hL420 := below_row cb46 hL420
  replace hL440 := below_row cb46 hL440
  replace hL450 := below_row cb46 hL450
  replace h41 := h41.later cb46
  replace h42 := h42.later cb46
  replace h43 := h43.later cb46
  replace h44 := h44.later cb46
  replace h45 := h45.later cb46
  replace h46 := h46.later cb46
  replace hg46 := hg46.later cb46
  have hL460 : Row (((w46.alloc (.cells #[.bool (ng Zd), .slice a46 (ln (am Zd)) (ln (am Zd))] 25)).alloc (.cells #[.bool (ng G), .slice c46 (ln (am G)) (ln (am G))] 25))) (w46.heap.size) := by
    have := row_new (w46) #[.bool (ng Zd), .slice a46 (ln (am Zd)) (ln (am Zd))] 25
    try simp only [World.size_alloc] at this
    exact (this.alloc _)
  have hL461 : Row (((w46.alloc (.cells #[.bool (ng Zd), .slice a46 (ln (am Zd)) (ln (am Zd))] 25)).alloc (.cells #[.bool (ng G), .slice c46 (ln (am G)) (ln (am G))] 25))) (w46.heap.size + 1) := by
    have := row_new ((w46.alloc (.cells #[.bool (ng Zd), .slice a46 (ln (am Zd)) (ln (am Zd))] 25))) #[.bool (ng G), .slice c46 (ln (am G)) (ln (am G))] 25
    try simp only [World.size_alloc] at this
    exact this
  go_wp2_with fail
  generalize ((w46.alloc (.cells #[.bool (ng Zd), .slice a46 (ln (am Zd)) (ln (am Zd))] 25)).alloc (.cells #[.bool (ng G), .slice c46 (ln (am G)) (ln (am G))] 25)) = w46x at q00 q01 l4100 l4101 l4200 l4201 l4400 l4401 l4500 l4501 l4600 l4601 l4610 l4611 hL410 hL420 hL440 hL450 hL460 hL461 h41 h42 h43 h44 h45 h46 hg46 hBW cb46 ⊢
  clear cb46
  replace hBW := hBW.drew
  replace h41 := h41.drew
  replace h42 := h42.drew
  replace h43 := h43.drew
  replace h44 := h44.drew
  replace h45 := h45.drew
  replace h46 := h46.drew
  replace hg46 := hg46.drew
  first
    | go_region_held3 (fun w' => w'.cell? ⟨w.heap.size, 0, none⟩ = some (.bool s0) ∧ w'.cell? ⟨w.heap.size, 1, none⟩ = some (.slice a0 len0 cap0) ∧ w'.cell? ⟨w41.heap.size, 0, none⟩ = some (.bool (ng Zu)) ∧ w'.cell? ⟨w41.heap.size, 1, none⟩ = some (.slice a41 (ln (am Zu)) (ln (am Zu))) ∧ w'.cell? ⟨w42.heap.size, 0, none⟩ = some (.bool (ng Z0)) ∧ w'.cell? ⟨w42.heap.size, 1, none⟩ = some (.slice a42 (ln (am Z0)) (ln (am Z0))) ∧ w'.cell? ⟨w44.heap.size, 0, none⟩ = some (.bool (ng Zp)) ∧ w'.cell? ⟨w44.heap.size, 1, none⟩ = some (.slice a44 (ln (am Zp)) (ln (am Zp))) ∧ w'.cell? ⟨w45.heap.size, 0, none⟩ = some (.bool (ng Zd)) ∧ w'.cell? ⟨w45.heap.size, 1, none⟩ = some (.slice a45 (ln (am Zd)) (ln (am Zd))) ∧ w'.cell? ⟨w46.heap.size, 0, none⟩ = some (.bool (ng Zd)) ∧ w'.cell? ⟨w46.heap.size, 1, none⟩ = some (.slice a46 (ln (am Zd)) (ln (am Zd))) ∧ Below w.heap.size w w')
        (first | exact ⟨q00, q01, l4100, l4101, l4200, l4201, l4400, l4401, l4500, l4501, l4600, l4601, hB.trans (hBW.mono hB.size)⟩ | exact kp12 b47 (by assumption) | exact kp12 b48 (by assumption) | exact kp12 b49 (by assumption) | exact kp12 b50 (by assumption) | exact kp12 b51 (by assumption) | exact kp12 b52 (by assumption) | exact kp12 (below_alloc _) (by assumption))
        (first
          | (go_at_call 18; go_at_call_of 18 (Value.agg #[Value.bool s0, Value.slice a0 len0 cap0]); refine (wNorm_is s0 a0 len0 cap0 X0 Z0 _ hc0 (by omega) (sb hS0 hB hBW) Q0.out).mono ?_; rintro e w47 ⟨a47, rfl, h47⟩; have b47 := h47.below; replace h47 := h47.back hBW; replace hBW := hBW.trans (b47.mono hBW.size); replace q00 := below_cell b47 q00; replace q01 := below_cell b47 q01; replace l4100 := below_cell b47 l4100; replace l4101 := below_cell b47 l4101; replace l4200 := below_cell b47 l4200; replace l4201 := below_cell b47 l4201; replace l4400 := below_cell b47 l4400; replace l4401 := below_cell b47 l4401; replace l4500 := below_cell b47 l4500; replace l4501 := below_cell b47 l4501; replace l4600 := below_cell b47 l4600; replace l4601 := below_cell b47 l4601; replace l4610 := below_cell b47 l4610; replace l4611 := below_cell b47 l4611; replace hL410 := below_row b47 hL410; replace hL420 := below_row b47 hL420; replace hL440 := below_row b47 hL440; replace hL450 := below_row b47 hL450; replace hL460 := below_row b47 hL460; replace hL461 := below_row b47 hL461; replace h41 := h41.later b47; replace h42 := h42.later b47; replace h43 := h43.later b47; replace h44 := h44.later b47; replace h45 := h45.later b47; replace h46 := h46.later b47; replace hg46 := hg46.later b47)
          | (go_at_call 9; go_at_call_of 9 (Value.agg #[Value.bool (ng Z0), Value.slice a42 (ln (am Z0)) (ln (am Z0))]); go_at_call_of 9 (Value.agg #[Value.bool (ng Z0), Value.slice a47 (ln (am Z0)) (ln (am Z0))]); refine (sameI_is Z0 a42 a47 _ _ _ (by omega) h42.seg h47.seg).mono ?_; rintro e w48 ⟨rfl, b48⟩; replace hBW := hBW.trans (b48.mono hBW.size); replace q00 := below_cell b48 q00; replace q01 := below_cell b48 q01; replace l4100 := below_cell b48 l4100; replace l4101 := below_cell b48 l4101; replace l4200 := below_cell b48 l4200; replace l4201 := below_cell b48 l4201; replace l4400 := below_cell b48 l4400; replace l4401 := below_cell b48 l4401; replace l4500 := below_cell b48 l4500; replace l4501 := below_cell b48 l4501; replace l4600 := below_cell b48 l4600; replace l4601 := below_cell b48 l4601; replace l4610 := below_cell b48 l4610; replace l4611 := below_cell b48 l4611; replace hL410 := below_row b48 hL410; replace hL420 := below_row b48 hL420; replace hL440 := below_row b48 hL440; replace hL450 := below_row b48 hL450; replace hL460 := below_row b48 hL460; replace hL461 := below_row b48 hL461; replace h41 := h41.later b48; replace h42 := h42.later b48; replace h43 := h43.later b48; replace h44 := h44.later b48; replace h45 := h45.later b48; replace h46 := h46.later b48; replace hg46 := hg46.later b48; replace h47 := h47.later b48)
          | (go_at_call 9; go_at_call_of 9 (Value.agg #[Value.bool (ng Zd), Value.slice a45 (ln (am Zd)) (ln (am Zd))]); go_at_call_of 9 (Value.agg #[Value.bool (ng Zd), Value.slice a46 (ln (am Zd)) (ln (am Zd))]); refine (sameI_is Zd a45 a46 _ _ _ (by omega) h45.seg h46.seg).mono ?_; rintro e w49 ⟨rfl, b49⟩; replace hBW := hBW.trans (b49.mono hBW.size); replace q00 := below_cell b49 q00; replace q01 := below_cell b49 q01; replace l4100 := below_cell b49 l4100; replace l4101 := below_cell b49 l4101; replace l4200 := below_cell b49 l4200; replace l4201 := below_cell b49 l4201; replace l4400 := below_cell b49 l4400; replace l4401 := below_cell b49 l4401; replace l4500 := below_cell b49 l4500; replace l4501 := below_cell b49 l4501; replace l4600 := below_cell b49 l4600; replace l4601 := below_cell b49 l4601; replace l4610 := below_cell b49 l4610; replace l4611 := below_cell b49 l4611; replace hL410 := below_row b49 hL410; replace hL420 := below_row b49 hL420; replace hL440 := below_row b49 hL440; replace hL450 := below_row b49 hL450; replace hL460 := below_row b49 hL460; replace hL461 := below_row b49 hL461; replace h41 := h41.later b49; replace h42 := h42.later b49; replace h43 := h43.later b49; replace h44 := h44.later b49; replace h45 := h45.later b49; replace h46 := h46.later b49; replace hg46 := hg46.later b49; replace h47 := h47.later b49)
          | (go_at_call 19; go_at_call_of 19 (Value.agg #[Value.bool s0, Value.slice a0 len0 cap0]); go_at_call_of 19 (Value.agg #[Value.bool (ng Zp), Value.slice a44 (ln (am Zp)) (ln (am Zp))]); refine (wMul_is s0 a0 len0 cap0 X0 (ng Zp) a44 (ln (am Zp)) (ln (am Zp)) (am Zp) Zu _ hc0 (by omega) (sb hS0 hB hBW) (Nat.le_refl _) (by omega) h44.seg eM.out).mono ?_; rintro e w50 ⟨a50, rfl, h50⟩; have b50 := h50.below; replace h50 := h50.back hBW; replace hBW := hBW.trans (b50.mono hBW.size); replace q00 := below_cell b50 q00; replace q01 := below_cell b50 q01; replace l4100 := below_cell b50 l4100; replace l4101 := below_cell b50 l4101; replace l4200 := below_cell b50 l4200; replace l4201 := below_cell b50 l4201; replace l4400 := below_cell b50 l4400; replace l4401 := below_cell b50 l4401; replace l4500 := below_cell b50 l4500; replace l4501 := below_cell b50 l4501; replace l4600 := below_cell b50 l4600; replace l4601 := below_cell b50 l4601; replace l4610 := below_cell b50 l4610; replace l4611 := below_cell b50 l4611; replace hL410 := below_row b50 hL410; replace hL420 := below_row b50 hL420; replace hL440 := below_row b50 hL440; replace hL450 := below_row b50 hL450; replace hL460 := below_row b50 hL460; replace hL461 := below_row b50 hL461; replace h41 := h41.later b50; replace h42 := h42.later b50; replace h43 := h43.later b50; replace h44 := h44.later b50; replace h45 := h45.later b50; replace h46 := h46.later b50; replace hg46 := hg46.later b50; replace h47 := h47.later b50)
          | (go_at_call 9; go_at_call_of 9 (Value.agg #[Value.bool (ng Zu), Value.slice a41 (ln (am Zu)) (ln (am Zu))]); go_at_call_of 9 (Value.agg #[Value.bool (ng Zu), Value.slice a50 (ln (am Zu)) (ln (am Zu))]); refine (sameI_is Zu a41 a50 _ _ _ (by omega) h41.seg h50.seg).mono ?_; rintro e w51 ⟨rfl, b51⟩; replace hBW := hBW.trans (b51.mono hBW.size); replace q00 := below_cell b51 q00; replace q01 := below_cell b51 q01; replace l4100 := below_cell b51 l4100; replace l4101 := below_cell b51 l4101; replace l4200 := below_cell b51 l4200; replace l4201 := below_cell b51 l4201; replace l4400 := below_cell b51 l4400; replace l4401 := below_cell b51 l4401; replace l4500 := below_cell b51 l4500; replace l4501 := below_cell b51 l4501; replace l4600 := below_cell b51 l4600; replace l4601 := below_cell b51 l4601; replace l4610 := below_cell b51 l4610; replace l4611 := below_cell b51 l4611; replace hL410 := below_row b51 hL410; replace hL420 := below_row b51 hL420; replace hL440 := below_row b51 hL440; replace hL450 := below_row b51 hL450; replace hL460 := below_row b51 hL460; replace hL461 := below_row b51 hL461; replace h41 := h41.later b51; replace h42 := h42.later b51; replace h43 := h43.later b51; replace h44 := h44.later b51; replace h45 := h45.later b51; replace h46 := h46.later b51; replace hg46 := hg46.later b51; replace h47 := h47.later b51; replace h50 := h50.later b51)
          | (go_at_call 15; refine (awake_is _).mono ?_; rintro e w52 ⟨rfl, b52⟩; replace hBW := hBW.trans (b52.mono hBW.size); replace q00 := below_cell b52 q00; replace q01 := below_cell b52 q01; replace l4100 := below_cell b52 l4100; replace l4101 := below_cell b52 l4101; replace l4200 := below_cell b52 l4200; replace l4201 := below_cell b52 l4201; replace l4400 := below_cell b52 l4400; replace l4401 := below_cell b52 l4401; replace l4500 := below_cell b52 l4500; replace l4501 := below_cell b52 l4501; replace l4600 := below_cell b52 l4600; replace l4601 := below_cell b52 l4601; replace l4610 := below_cell b52 l4610; replace l4611 := below_cell b52 l4611; replace hL410 := below_row b52 hL410; replace hL420 := below_row b52 hL420; replace hL440 := below_row b52 hL440; replace hL450 := below_row b52 hL450; replace hL460 := below_row b52 hL460; replace hL461 := below_row b52 hL461; replace h41 := h41.later b52; replace h42 := h42.later b52; replace h43 := h43.later b52; replace h44 := h44.later b52; replace h45 := h45.later b52; replace h46 := h46.later b52; replace hg46 := hg46.later b52; replace h47 := h47.later b52; replace h50 := h50.later b52))
    | fail
  go_wp2
  go_ret
  exact ⟨rfl, hB.trans (hBW.mono hB.size)⟩

set_option maxHeartbeats 8000000 in
set_option maxRecDepth 100000 in
theorem dn (s0 : Bool) (a0 : Option Addr) (len0 cap0 X0 : Nat) (k : Nat) (h0 : 0 < k) (hk : k ≤ 1048576) (w : World) (hS0 : Seg w a0 X0 len0) (hc0 : len0 ≤ cap0) (hb0 : len0 ≤ 35184372087808) : Calls Try.prog 5 #[.agg #[.bool s0, .slice a0 len0 cap0], .int .i64 (-(k : Int))] w fun e w' => e = .returned (.bool true) ∧ Below w.heap.size w w' := by
  obtain ⟨P, hP⟩ : ∃ P, 2 ^ k = P := ⟨_, rfl⟩
  have lP : ln P ≤ 32769 := by rw [← hP]; exact ln_pow (by omega)
  obtain ⟨Z0, hZ0⟩ : ∃ Z, sg s0 X0 = Z := ⟨_, rfl⟩
  obtain ⟨Zu, hZu⟩ : ∃ Z, sg s0 (X0 * 2 ^ k) = Z := ⟨_, rfl⟩
  obtain ⟨Zd, hZd⟩ : ∃ Z, sg s0 (dnA s0 X0 k) = Z := ⟨_, rfl⟩
  obtain ⟨Zp, hZp⟩ : ∃ Z : Int, (P : Int) = Z := ⟨_, rfl⟩
  have aP : am Zp = P := by rw [← hZp]; rfl
  have nP : ng Zp = false := by rw [← hZp]; unfold ng; rw [decide_eq_false_iff_not]; omega
  have l0 : ln (am Z0) ≤ 35184372087808 := by rw [← hZ0, am_sg]; have := ln_le_of_lt hS0.1; omega
  have lu : ln (am Zu) ≤ 35184372187808 := by rw [← hZu, am_sg]; have := ln_shl_le hS0.1 hk; omega
  have ld : ln (am Zd) ≤ 35184372087808 := by rw [← hZd, am_sg]; have := ln_le_of_lt (Nat.lt_of_le_of_lt (dnA_le s0 X0 k) hS0.1); omega
  have lp : ln (am Zp) ≤ 32769 := by rw [aP]; exact lP
  obtain ⟨G, hF⟩ := wfloor_pow s0 a0 len0 cap0 X0 k (ng Zp) (am Zp) Zd nP (by rw [aP]; exact hP) hc0 (by omega) (by omega) hZd
  have U0 := fun w' h => wShift_up s0 a0 len0 cap0 X0 w' hc0 (by omega) h k hk Zu hZu
  have B0 := fun w' p h => wShift_dn (ng Zu) p (ln (am Zu)) (ln (am Zu)) (am Zu) w' (Nat.le_refl _) (by omega) h k h0 hk Z0 (by rw [← hZu, am_sg, dnA_up, sg_back]; exact hZ0)
  have D0 := fun w' h => wShift_dn s0 a0 len0 cap0 X0 w' hc0 (by omega) h k h0 hk Zd hZd
  have O0 := fun w' p h => wShift_up (ng 1) p (ln (am 1)) (ln (am 1)) (am 1) w' (Nat.le_refl _) (by rw [show am 1 = 1 from rfl, ln_one]; omega) h k hk Zp (by rw [← hZp, ← hP, show am 1 = 1 from rfl, Nat.one_mul]; rfl)
  have eM : Hid (sg s0 X0 * sg (ng Zp) (am Zp) = Zu) := by show _ = _; rw [sg_na, ← hZp, sg_mulP, ← hP]; exact hZu
  have Q0 := hide' hZ0
  have hk0 : ¬ (((-(k : Int)) : Int) < -1048576) := by omega
  have hk1 : ¬ ((1048576 : Int) < (-(k : Int))) := by omega
  have hk2 : (0 : Int) - (k : Int) = -(k : Int) := by omega
  have hk4 : IntKind.i64.wrap (-(k : Int)) = -(k : Int) := by rw [IntKind.wrap_i64]; omega
  have hk5 : IntKind.i64.wrap (k : Int) = (k : Int) := by rw [IntKind.wrap_i64]; omega
  have hk3 : (-(k : Int)) < 0 := by omega
  have hk6 : (0 : Int) - (-(k : Int)) = (k : Int) := by omega
  have HU := hide' U0
  have HB := hide' B0
  have HD := hide' D0
  have HO := hide' O0
  have HF := hide' hF
  clear U0 B0 D0 O0 hF hZ0 hZu hZd hZp hP aP nP
  go_enter Try.func5, Try.ntmps5
  go_wp2_with fail
  obtain ⟨W, hW⟩ : ∃ W, (w.alloc (.cells #[.bool s0, .slice a0 len0 cap0] 25)) = W := ⟨_, rfl⟩
  have q00 : W.cell? ⟨w.heap.size, 0, none⟩ = some (.bool s0) := by subst hW; go_simp
  have q01 : W.cell? ⟨w.heap.size, 1, none⟩ = some (.slice a0 len0 cap0) := by subst hW; go_simp
  have hB : Below w.heap.size w W := by subst hW; exact ((Below.refl _ _).alloc (by (try simp only [World.size_alloc]); omega) _)
  have hz : W.heap.size = w.heap.size + 1 := by subst hW; simp only [World.size_alloc]
  rw [hW]
  clear hW
  have hBW : Below W.heap.size W W := Below.refl _ _
  refine (HD.out _ (sb hS0 hB hBW)).mono ?_
  rintro e w41 ⟨a41, rfl, h41⟩
  have b41 := h41.below
  replace h41 := h41.back hBW
  replace hBW := hBW.trans (b41.mono hBW.size)
  replace q00 := below_cell b41 q00
  replace q01 := below_cell b41 q01
  have hsz41 := hBW.size
  have l4100 : ((w41.alloc (.cells #[.bool (ng Zd), .slice a41 (ln (am Zd)) (ln (am Zd))] 25))).cell? ⟨w41.heap.size, 0, none⟩ = some (.bool (ng Zd)) := by go_simp
  have l4101 : ((w41.alloc (.cells #[.bool (ng Zd), .slice a41 (ln (am Zd)) (ln (am Zd))] 25))).cell? ⟨w41.heap.size, 1, none⟩ = some (.slice a41 (ln (am Zd)) (ln (am Zd))) := by go_simp
  have cb41 : Below w41.heap.size w41 ((w41.alloc (.cells #[.bool (ng Zd), .slice a41 (ln (am Zd)) (ln (am Zd))] 25))) := ((Below.refl _ _).alloc (by (try simp only [World.size_alloc]); omega) _)
  replace hBW := hBW.trans (cb41.mono hBW.size)
  replace q00 := below_cell cb41 q00
  replace q01 := below_cell cb41 q01
  replace h41 := h41.later cb41
  have hL410 : Row ((w41.alloc (.cells #[.bool (ng Zd), .slice a41 (ln (am Zd)) (ln (am Zd))] 25))) (w41.heap.size) := by
    have := row_new (w41) #[.bool (ng Zd), .slice a41 (ln (am Zd)) (ln (am Zd))] 25
    try simp only [World.size_alloc] at this
    exact this
  go_wp2_with fail
  generalize (w41.alloc (.cells #[.bool (ng Zd), .slice a41 (ln (am Zd)) (ln (am Zd))] 25)) = w41x at q00 q01 l4100 l4101 hL410 h41 hBW cb41 ⊢
  clear cb41
  have hsB := hBW.size
  replace hB := hB.trans (hBW.mono hB.size)
  have hltBhL410 := hL410.lt
  clear hBW
  have hBW : Below w41x.heap.size w41x w41x := Below.refl _ _
  have kh41 := h41.seg
  clear h41
  clear kh41
  refine (HU.out _ (sb hS0 hB hBW)).mono ?_
  rintro e w42 ⟨a42, rfl, h42⟩
  have b42 := h42.below
  replace h42 := h42.back hBW
  replace hBW := hBW.trans (b42.mono hBW.size)
  replace q00 := below_cell b42 q00
  replace q01 := below_cell b42 q01
  replace l4100 := below_cell b42 l4100
  replace l4101 := below_cell b42 l4101
  replace hL410 := below_row b42 hL410
  have hwl : w41.heap.size < w41x.heap.size := by omega
  have hsB := hBW.size
  have hM : Mid w.heap.size w41x.heap.size w42 ((w42.setCell ⟨w41.heap.size, 0, none⟩ (.bool (ng Zu))).setCell ⟨w41.heap.size, 1, none⟩ (.slice a42 (ln (am Zu)) (ln (am Zu)))) := (((Mid.refl _ _ _).set _ _ (by omega) (by omega) _).set _ _ (by omega) (by omega) _)
  have eM := set2_same (w := w42) (c := w41.heap.size) (u := .bool (ng Zu)) (v := .slice a42 (ln (am Zu)) (ln (am Zu))) l4100 l4101
  have q00_ : (((w42.setCell ⟨w41.heap.size, 0, none⟩ (.bool (ng Zu))).setCell ⟨w41.heap.size, 1, none⟩ (.slice a42 (ln (am Zu)) (ln (am Zu))))).cell? ⟨w.heap.size, 0, none⟩ = some (.bool s0) := (set2_far (by omega)).trans q00
  have q01_ : (((w42.setCell ⟨w41.heap.size, 0, none⟩ (.bool (ng Zu))).setCell ⟨w41.heap.size, 1, none⟩ (.slice a42 (ln (am Zu)) (ln (am Zu))))).cell? ⟨w.heap.size, 1, none⟩ = some (.slice a0 len0 cap0) := (set2_far (by omega)).trans q01
  have l4100_ : (((w42.setCell ⟨w41.heap.size, 0, none⟩ (.bool (ng Zu))).setCell ⟨w41.heap.size, 1, none⟩ (.slice a42 (ln (am Zu)) (ln (am Zu))))).cell? ⟨w41.heap.size, 0, none⟩ = some (.bool (ng Zu)) := eM.1
  have l4101_ : (((w42.setCell ⟨w41.heap.size, 0, none⟩ (.bool (ng Zu))).setCell ⟨w41.heap.size, 1, none⟩ (.slice a42 (ln (am Zu)) (ln (am Zu))))).cell? ⟨w41.heap.size, 1, none⟩ = some (.slice a42 (ln (am Zu)) (ln (am Zu))) := eM.2
  have hL410_ := ((hL410.setCell ⟨w41.heap.size, 0, none⟩ (.bool (ng Zu))).setCell ⟨w41.heap.size, 1, none⟩ (.slice a42 (ln (am Zu)) (ln (am Zu))))
  have fzhL410 := fun o => hL410.frozen o
  have kh42 := (h42.mid hB hM).seg
  clear h42
  have hBn := (hB.trans (hBW.mono hB.size)).trans (hM.below (Nat.le_trans hB.size hBW.size))
  have hsM := hM.size
  clear hM eM
  go_wp2_with fail
  clear q00 q01 l4100 l4101 hL410 fzhL410 hB hBW
  generalize ((w42.setCell ⟨w41.heap.size, 0, none⟩ (.bool (ng Zu))).setCell ⟨w41.heap.size, 1, none⟩ (.slice a42 (ln (am Zu)) (ln (am Zu)))) = w42y at q00_ q01_ l4100_ l4101_ hL410_ kh42 hBn hsM ⊢
  have q00 := q00_
  clear q00_
  have q01 := q01_
  clear q01_
  have l4100 := l4100_
  clear l4100_
  have l4101 := l4101_
  clear l4101_
  have hL410 := hL410_
  clear hL410_
  have hB := hBn
  clear hBn
  have hBW : Below w42y.heap.size w42y w42y := Below.refl _ _
  refine (HB.out _ a42 kh42).mono ?_
  rintro e w43 ⟨a43, rfl, h43⟩
  have b43 := h43.below
  replace h43 := h43.back hBW
  replace hBW := hBW.trans (b43.mono hBW.size)
  replace q00 := below_cell b43 q00
  replace q01 := below_cell b43 q01
  replace l4100 := below_cell b43 l4100
  replace l4101 := below_cell b43 l4101
  replace hL410 := below_row b43 hL410
  replace kh42 := kh42.later b43
  have hsz43 := hBW.size
  have hlt43hL410 := hL410.lt
  have l4300 : ((w43.alloc (.cells #[.bool (ng Z0), .slice a43 (ln (am Z0)) (ln (am Z0))] 25))).cell? ⟨w43.heap.size, 0, none⟩ = some (.bool (ng Z0)) := by go_simp
  have l4301 : ((w43.alloc (.cells #[.bool (ng Z0), .slice a43 (ln (am Z0)) (ln (am Z0))] 25))).cell? ⟨w43.heap.size, 1, none⟩ = some (.slice a43 (ln (am Z0)) (ln (am Z0))) := by go_simp
  have cb43 : Below w43.heap.size w43 ((w43.alloc (.cells #[.bool (ng Z0), .slice a43 (ln (am Z0)) (ln (am Z0))] 25))) := ((Below.refl _ _).alloc (by (try simp only [World.size_alloc]); omega) _)
  replace hBW := hBW.trans (cb43.mono hBW.size)
  replace q00 := below_cell cb43 q00
  replace q01 := below_cell cb43 q01
  replace l4100 := below_cell cb43 l4100
  replace l4101 := below_cell cb43 l4101
  replace hL410 := below_row cb43 hL410
  replace kh42 := kh42.later cb43
  replace h43 := h43.later cb43
  have hL430 : Row ((w43.alloc (.cells #[.bool (ng Z0), .slice a43 (ln (am Z0)) (ln (am Z0))] 25))) (w43.heap.size) := by
    have := row_new (w43) #[.bool (ng Z0), .slice a43 (ln (am Z0)) (ln (am Z0))] 25
    try simp only [World.size_alloc] at this
    exact this
  go_wp2_with fail
  generalize (w43.alloc (.cells #[.bool (ng Z0), .slice a43 (ln (am Z0)) (ln (am Z0))] 25)) = w43x at q00 q01 l4100 l4101 l4300 l4301 hL410 hL430 kh42 h43 hBW cb43 ⊢
  clear cb43
  refine (one_is _).mono ?_
  rintro e w44 ⟨a44, rfl, h44⟩
  have b44 := h44.below
  replace h44 := h44.back hBW
  replace hBW := hBW.trans (b44.mono hBW.size)
  replace q00 := below_cell b44 q00
  replace q01 := below_cell b44 q01
  replace l4100 := below_cell b44 l4100
  replace l4101 := below_cell b44 l4101
  replace l4300 := below_cell b44 l4300
  replace l4301 := below_cell b44 l4301
  replace hL410 := below_row b44 hL410
  replace hL430 := below_row b44 hL430
  replace kh42 := kh42.later b44
  replace h43 := h43.later b44
  go_wp2_with fail
  refine (HO.out _ a44 h44.seg).mono ?_
  rintro e w45 ⟨a45, rfl, h45⟩
  have b45 := h45.below
  replace h45 := h45.back hBW
  replace hBW := hBW.trans (b45.mono hBW.size)
  replace q00 := below_cell b45 q00
  replace q01 := below_cell b45 q01
  replace l4100 := below_cell b45 l4100
  replace l4101 := below_cell b45 l4101
  replace l4300 := below_cell b45 l4300
  replace l4301 := below_cell b45 l4301
  replace hL410 := below_row b45 hL410
  replace hL430 := below_row b45 hL430
  replace kh42 := kh42.later b45
  replace h43 := h43.later b45
  replace h44 := h44.later b45
  have hsz45 := hBW.size
  have hlt45hL410 := hL410.lt
  have hlt45hL430 := hL430.lt
  have l4500 : ((w45.alloc (.cells #[.bool (ng Zp), .slice a45 (ln (am Zp)) (ln (am Zp))] 25))).cell? ⟨w45.heap.size, 0, none⟩ = some (.bool (ng Zp)) := by go_simp
  have l4501 : ((w45.alloc (.cells #[.bool (ng Zp), .slice a45 (ln (am Zp)) (ln (am Zp))] 25))).cell? ⟨w45.heap.size, 1, none⟩ = some (.slice a45 (ln (am Zp)) (ln (am Zp))) := by go_simp
  have cb45 : Below w45.heap.size w45 ((w45.alloc (.cells #[.bool (ng Zp), .slice a45 (ln (am Zp)) (ln (am Zp))] 25))) := ((Below.refl _ _).alloc (by (try simp only [World.size_alloc]); omega) _)
  replace hBW := hBW.trans (cb45.mono hBW.size)
  replace q00 := below_cell cb45 q00
  replace q01 := below_cell cb45 q01
  replace l4100 := below_cell cb45 l4100
  replace l4101 := below_cell cb45 l4101
  replace l4300 := below_cell cb45 l4300
  replace l4301 := below_cell cb45 l4301
  replace hL410 := below_row cb45 hL410
  replace hL430 := below_row cb45 hL430
  replace kh42 := kh42.later cb45
  replace h43 := h43.later cb45
  replace h44 := h44.later cb45
  replace h45 := h45.later cb45
  have hL450 : Row ((w45.alloc (.cells #[.bool (ng Zp), .slice a45 (ln (am Zp)) (ln (am Zp))] 25))) (w45.heap.size) := by
    have := row_new (w45) #[.bool (ng Zp), .slice a45 (ln (am Zp)) (ln (am Zp))] 25
    try simp only [World.size_alloc] at this
    exact this
  go_wp2_with fail
  generalize (w45.alloc (.cells #[.bool (ng Zp), .slice a45 (ln (am Zp)) (ln (am Zp))] 25)) = w45x at q00 q01 l4100 l4101 l4300 l4301 l4500 l4501 hL410 hL430 hL450 kh42 h43 h44 h45 hBW cb45 ⊢
  clear cb45
  refine (HD.out _ (sb hS0 hB hBW)).mono ?_
  rintro e w46 ⟨a46, rfl, h46⟩
  have b46 := h46.below
  replace h46 := h46.back hBW
  replace hBW := hBW.trans (b46.mono hBW.size)
  replace q00 := below_cell b46 q00
  replace q01 := below_cell b46 q01
  replace l4100 := below_cell b46 l4100
  replace l4101 := below_cell b46 l4101
  replace l4300 := below_cell b46 l4300
  replace l4301 := below_cell b46 l4301
  replace l4500 := below_cell b46 l4500
  replace l4501 := below_cell b46 l4501
  replace hL410 := below_row b46 hL410
  replace hL430 := below_row b46 hL430
  replace hL450 := below_row b46 hL450
  replace kh42 := kh42.later b46
  replace h43 := h43.later b46
  replace h44 := h44.later b46
  replace h45 := h45.later b46
  have hsz46 := hBW.size
  have hlt46hL410 := hL410.lt
  have hlt46hL430 := hL430.lt
  have hlt46hL450 := hL450.lt
  have l4600 : ((w46.alloc (.cells #[.bool (ng Zd), .slice a46 (ln (am Zd)) (ln (am Zd))] 25))).cell? ⟨w46.heap.size, 0, none⟩ = some (.bool (ng Zd)) := by go_simp
  have l4601 : ((w46.alloc (.cells #[.bool (ng Zd), .slice a46 (ln (am Zd)) (ln (am Zd))] 25))).cell? ⟨w46.heap.size, 1, none⟩ = some (.slice a46 (ln (am Zd)) (ln (am Zd))) := by go_simp
  have cb46 : Below w46.heap.size w46 ((w46.alloc (.cells #[.bool (ng Zd), .slice a46 (ln (am Zd)) (ln (am Zd))] 25))) := ((Below.refl _ _).alloc (by (try simp only [World.size_alloc]); omega) _)
  replace hBW := hBW.trans (cb46.mono hBW.size)
  replace q00 := below_cell cb46 q00
  replace q01 := below_cell cb46 q01
  replace l4100 := below_cell cb46 l4100
  replace l4101 := below_cell cb46 l4101
  replace l4300 := below_cell cb46 l4300
  replace l4301 := below_cell cb46 l4301
  replace l4500 := below_cell cb46 l4500
  replace l4501 := below_cell cb46 l4501
  replace hL410 := below_row cb46 hL410
  replace hL430 := below_row cb46 hL430
  replace hL450 := below_row cb46 hL450
  replace kh42 := kh42.later cb46
  replace h43 := h43.later cb46
  replace h44 := h44.later cb46
  replace h45 := h45.later cb46
  replace h46 := h46.later cb46
  have hL460 : Row ((w46.alloc (.cells #[.bool (ng Zd), .slice a46 (ln (am Zd)) (ln (am Zd))] 25))) (w46.heap.size) := by
    have := row_new (w46) #[.bool (ng Zd), .slice a46 (ln (am Zd)) (ln (am Zd))] 25
    try simp only [World.size_alloc] at this
    exact this
  go_wp2_with fail
  generalize (w46.alloc (.cells #[.bool (ng Zd), .slice a46 (ln (am Zd)) (ln (am Zd))] 25)) = w46x at q00 q01 l4100 l4101 l4300 l4301 l4500 l4501 l4600 l4601 hL410 hL430 hL450 hL460 kh42 h43 h44 h45 h46 hBW cb46 ⊢
  clear cb46
  refine (HF.out _ a45 (sb hS0 hB hBW) h45.seg).mono ?_
  rintro e w47 ⟨a47, c47, rfl, h47, hg47⟩
  have b47 := h47.below
  replace h47 := h47.back hBW
  replace hg47 := hg47.back hBW
  replace hBW := hBW.trans (b47.mono hBW.size)
  replace q00 := below_cell b47 q00
  replace q01 := below_cell b47 q01
  replace l4100 := below_cell b47 l4100
  replace l4101 := below_cell b47 l4101
  replace l4300 := below_cell b47 l4300
  replace l4301 := below_cell b47 l4301
  replace l4500 := below_cell b47 l4500
  replace l4501 := below_cell b47 l4501
  replace l4600 := below_cell b47 l4600
  replace l4601 := below_cell b47 l4601
  replace hL410 := below_row b47 hL410
  replace hL430 := below_row b47 hL430
  replace hL450 := below_row b47 hL450
  replace hL460 := below_row b47 hL460
  replace kh42 := kh42.later b47
  replace h43 := h43.later b47
  replace h44 := h44.later b47
  replace h45 := h45.later b47
  replace h46 := h46.later b47
  have hsz47 := hBW.size
  have hlt47hL410 := hL410.lt
  have hlt47hL430 := hL430.lt
  have hlt47hL450 := hL450.lt
  have hlt47hL460 := hL460.lt
  have l4700 : (((w47.alloc (.cells #[.bool (ng Zd), .slice a47 (ln (am Zd)) (ln (am Zd))] 25)).alloc (.cells #[.bool (ng G), .slice c47 (ln (am G)) (ln (am G))] 25))).cell? ⟨w47.heap.size, 0, none⟩ = some (.bool (ng Zd)) := by go_simp
  have l4701 : (((w47.alloc (.cells #[.bool (ng Zd), .slice a47 (ln (am Zd)) (ln (am Zd))] 25)).alloc (.cells #[.bool (ng G), .slice c47 (ln (am G)) (ln (am G))] 25))).cell? ⟨w47.heap.size, 1, none⟩ = some (.slice a47 (ln (am Zd)) (ln (am Zd))) := by go_simp
  have l4710 : (((w47.alloc (.cells #[.bool (ng Zd), .slice a47 (ln (am Zd)) (ln (am Zd))] 25)).alloc (.cells #[.bool (ng G), .slice c47 (ln (am G)) (ln (am G))] 25))).cell? ⟨w47.heap.size + 1, 0, none⟩ = some (.bool (ng G)) := by go_simp
  have l4711 : (((w47.alloc (.cells #[.bool (ng Zd), .slice a47 (ln (am Zd)) (ln (am Zd))] 25)).alloc (.cells #[.bool (ng G), .slice c47 (ln (am G)) (ln (am G))] 25))).cell? ⟨w47.heap.size + 1, 1, none⟩ = some (.slice c47 (ln (am G)) (ln (am G))) := by go_simp
  have cb47 : Below w47.heap.size w47 (((w47.alloc (.cells #[.bool (ng Zd), .slice a47 (ln (am Zd)) (ln (am Zd))] 25)).alloc (.cells #[.bool (ng G), .slice c47 (ln (am G)) (ln (am G))] 25))) := (((Below.refl _ _).alloc (by (try simp only [World.size_alloc]); omega) _).alloc (by (try simp only [World.size_alloc]); omega) _)
  replace hBW := hBW.trans (cb47.mono hBW.size)
  replace q00 := below_cell cb47 q00
  replace q01 := below_cell cb47 q01
  replace l4100 := below_cell cb47 l4100
  replace l4101 := below_cell cb47 l4101
  replace l4300 := below_cell cb47 l4300
  replace l4301 := below_cell cb47 l4301
  replace l4500 := below_cell cb47 l4500
  replace l4501 := below_cell cb47 l4501
  replace l4600 := below_cell cb47 l4600
  replace l4601 := below_cell cb47 l4601
  replace hL410 := below_row cb47 hL410
  replace hL430 := below_row cb47 hL430
  replace hL450 := below_row cb47 hL450
  replace hL460 := below_row cb47 hL460
  replace kh42 := kh42.later cb47
  replace h43 := h43.later cb47
  replace h44 := h44.later cb47
  replace h45 := h45.later cb47
  replace h46 := h46.later cb47
  replace h47 := h47.later cb47
  replace hg47 := hg47.later cb47
  have hL470 : Row (((w47.alloc (.cells #[.bool (ng Zd), .slice a47 (ln (am Zd)) (ln (am Zd))] 25)).alloc (.cells #[.bool (ng G), .slice c47 (ln (am G)) (ln (am G))] 25))) (w47.heap.size) := by
    have := row_new (w47) #[.bool (ng Zd), .slice a47 (ln (am Zd)) (ln (am Zd))] 25
    try simp only [World.size_alloc] at this
    exact (this.alloc _)
  have hL471 : Row (((w47.alloc (.cells #[.bool (ng Zd), .slice a47 (ln (am Zd)) (ln (am Zd))] 25)).alloc (.cells #[.bool (ng G), .slice c47 (ln (am G)) (ln (am G))] 25))) (w47.heap.size + 1) := by
    have := row_new ((w47.alloc (.cells #[.bool (ng Zd), .slice a47 (ln (am Zd)) (ln (am Zd))] 25))) #[.bool (ng G), .slice c47 (ln (am G)) (ln (am G))] 25
    try simp only [World.size_alloc] at this
    exact this
  go_wp2_with fail
  generalize ((w47.alloc (.cells #[.bool (ng Zd), .slice a47 (ln (am Zd)) (ln (am Zd))] 25)).alloc (.cells #[.bool (ng G), .slice c47 (ln (am G)) (ln (am G))] 25)) = w47x at q00 q01 l4100 l4101 l4300 l4301 l4500 l4501 l4600 l4601 l4700 l4701 l4710 l4711 hL410 hL430 hL450 hL460 hL470 hL471 kh42 h43 h44 h45 h46 h47 hg47 hBW cb47 ⊢
  clear cb47
  replace hBW := hBW.drew
  replace kh42 := kh42.drew
  replace h43 := h43.drew
  replace h44 := h44.drew
  replace h45 := h45.drew
  replace h46 := h46.drew
  replace h47 := h47.drew
  replace hg47 := hg47.drew
  first
    | go_region_held3 (fun w' => w'.cell? ⟨w.heap.size, 0, none⟩ = some (.bool s0) ∧ w'.cell? ⟨w.heap.size, 1, none⟩ = some (.slice a0 len0 cap0) ∧ w'.cell? ⟨w41.heap.size, 0, none⟩ = some (.bool (ng Zu)) ∧ w'.cell? ⟨w41.heap.size, 1, none⟩ = some (.slice a42 (ln (am Zu)) (ln (am Zu))) ∧ w'.cell? ⟨w43.heap.size, 0, none⟩ = some (.bool (ng Z0)) ∧ w'.cell? ⟨w43.heap.size, 1, none⟩ = some (.slice a43 (ln (am Z0)) (ln (am Z0))) ∧ w'.cell? ⟨w45.heap.size, 0, none⟩ = some (.bool (ng Zp)) ∧ w'.cell? ⟨w45.heap.size, 1, none⟩ = some (.slice a45 (ln (am Zp)) (ln (am Zp))) ∧ w'.cell? ⟨w46.heap.size, 0, none⟩ = some (.bool (ng Zd)) ∧ w'.cell? ⟨w46.heap.size, 1, none⟩ = some (.slice a46 (ln (am Zd)) (ln (am Zd))) ∧ w'.cell? ⟨w47.heap.size, 0, none⟩ = some (.bool (ng Zd)) ∧ w'.cell? ⟨w47.heap.size, 1, none⟩ = some (.slice a47 (ln (am Zd)) (ln (am Zd))) ∧ Below w.heap.size w w')
        (first | exact ⟨q00, q01, l4100, l4101, l4300, l4301, l4500, l4501, l4600, l4601, l4700, l4701, hB.trans (hBW.mono hB.size)⟩ | exact kp12 b48 (by assumption) | exact kp12 b49 (by assumption) | exact kp12 b50 (by assumption) | exact kp12 b51 (by assumption) | exact kp12 b52 (by assumption) | exact kp12 b53 (by assumption) | exact kp12 (below_alloc _) (by assumption))
        (first
          | (go_at_call 18; go_at_call_of 18 (Value.agg #[Value.bool s0, Value.slice a0 len0 cap0]); refine (wNorm_is s0 a0 len0 cap0 X0 Z0 _ hc0 (by omega) (sb hS0 hB hBW) Q0.out).mono ?_; rintro e w48 ⟨a48, rfl, h48⟩; have b48 := h48.below; replace h48 := h48.back hBW; replace hBW := hBW.trans (b48.mono hBW.size); replace q00 := below_cell b48 q00; replace q01 := below_cell b48 q01; replace l4100 := below_cell b48 l4100; replace l4101 := below_cell b48 l4101; replace l4300 := below_cell b48 l4300; replace l4301 := below_cell b48 l4301; replace l4500 := below_cell b48 l4500; replace l4501 := below_cell b48 l4501; replace l4600 := below_cell b48 l4600; replace l4601 := below_cell b48 l4601; replace l4700 := below_cell b48 l4700; replace l4701 := below_cell b48 l4701; replace l4710 := below_cell b48 l4710; replace l4711 := below_cell b48 l4711; replace hL410 := below_row b48 hL410; replace hL430 := below_row b48 hL430; replace hL450 := below_row b48 hL450; replace hL460 := below_row b48 hL460; replace hL470 := below_row b48 hL470; replace hL471 := below_row b48 hL471; replace kh42 := kh42.later b48; replace h43 := h43.later b48; replace h44 := h44.later b48; replace h45 := h45.later b48; replace h46 := h46.later b48; replace h47 := h47.later b48; replace hg47 := hg47.later b48)
          | (go_at_call 9; go_at_call_of 9 (Value.agg #[Value.bool (ng Z0), Value.slice a43 (ln (am Z0)) (ln (am Z0))]); go_at_call_of 9 (Value.agg #[Value.bool (ng Z0), Value.slice a48 (ln (am Z0)) (ln (am Z0))]); refine (sameI_is Z0 a43 a48 _ _ _ (by omega) h43.seg h48.seg).mono ?_; rintro e w49 ⟨rfl, b49⟩; replace hBW := hBW.trans (b49.mono hBW.size); replace q00 := below_cell b49 q00; replace q01 := below_cell b49 q01; replace l4100 := below_cell b49 l4100; replace l4101 := below_cell b49 l4101; replace l4300 := below_cell b49 l4300; replace l4301 := below_cell b49 l4301; replace l4500 := below_cell b49 l4500; replace l4501 := below_cell b49 l4501; replace l4600 := below_cell b49 l4600; replace l4601 := below_cell b49 l4601; replace l4700 := below_cell b49 l4700; replace l4701 := below_cell b49 l4701; replace l4710 := below_cell b49 l4710; replace l4711 := below_cell b49 l4711; replace hL410 := below_row b49 hL410; replace hL430 := below_row b49 hL430; replace hL450 := below_row b49 hL450; replace hL460 := below_row b49 hL460; replace hL470 := below_row b49 hL470; replace hL471 := below_row b49 hL471; replace kh42 := kh42.later b49; replace h43 := h43.later b49; replace h44 := h44.later b49; replace h45 := h45.later b49; replace h46 := h46.later b49; replace h47 := h47.later b49; replace hg47 := hg47.later b49; replace h48 := h48.later b49)
          | (go_at_call 9; go_at_call_of 9 (Value.agg #[Value.bool (ng Zd), Value.slice a46 (ln (am Zd)) (ln (am Zd))]); go_at_call_of 9 (Value.agg #[Value.bool (ng Zd), Value.slice a47 (ln (am Zd)) (ln (am Zd))]); refine (sameI_is Zd a46 a47 _ _ _ (by omega) h46.seg h47.seg).mono ?_; rintro e w50 ⟨rfl, b50⟩; replace hBW := hBW.trans (b50.mono hBW.size); replace q00 := below_cell b50 q00; replace q01 := below_cell b50 q01; replace l4100 := below_cell b50 l4100; replace l4101 := below_cell b50 l4101; replace l4300 := below_cell b50 l4300; replace l4301 := below_cell b50 l4301; replace l4500 := below_cell b50 l4500; replace l4501 := below_cell b50 l4501; replace l4600 := below_cell b50 l4600; replace l4601 := below_cell b50 l4601; replace l4700 := below_cell b50 l4700; replace l4701 := below_cell b50 l4701; replace l4710 := below_cell b50 l4710; replace l4711 := below_cell b50 l4711; replace hL410 := below_row b50 hL410; replace hL430 := below_row b50 hL430; replace hL450 := below_row b50 hL450; replace hL460 := below_row b50 hL460; replace hL470 := below_row b50 hL470; replace hL471 := below_row b50 hL471; replace kh42 := kh42.later b50; replace h43 := h43.later b50; replace h44 := h44.later b50; replace h45 := h45.later b50; replace h46 := h46.later b50; replace h47 := h47.later b50; replace hg47 := hg47.later b50; replace h48 := h48.later b50)
          | (go_at_call 19; go_at_call_of 19 (Value.agg #[Value.bool s0, Value.slice a0 len0 cap0]); go_at_call_of 19 (Value.agg #[Value.bool (ng Zp), Value.slice a45 (ln (am Zp)) (ln (am Zp))]); refine (wMul_is s0 a0 len0 cap0 X0 (ng Zp) a45 (ln (am Zp)) (ln (am Zp)) (am Zp) Zu _ hc0 (by omega) (sb hS0 hB hBW) (Nat.le_refl _) (by omega) h45.seg eM.out).mono ?_; rintro e w51 ⟨a51, rfl, h51⟩; have b51 := h51.below; replace h51 := h51.back hBW; replace hBW := hBW.trans (b51.mono hBW.size); replace q00 := below_cell b51 q00; replace q01 := below_cell b51 q01; replace l4100 := below_cell b51 l4100; replace l4101 := below_cell b51 l4101; replace l4300 := below_cell b51 l4300; replace l4301 := below_cell b51 l4301; replace l4500 := below_cell b51 l4500; replace l4501 := below_cell b51 l4501; replace l4600 := below_cell b51 l4600; replace l4601 := below_cell b51 l4601; replace l4700 := below_cell b51 l4700; replace l4701 := below_cell b51 l4701; replace l4710 := below_cell b51 l4710; replace l4711 := below_cell b51 l4711; replace hL410 := below_row b51 hL410; replace hL430 := below_row b51 hL430; replace hL450 := below_row b51 hL450; replace hL460 := below_row b51 hL460; replace hL470 := below_row b51 hL470; replace hL471 := below_row b51 hL471; replace kh42 := kh42.later b51; replace h43 := h43.later b51; replace h44 := h44.later b51; replace h45 := h45.later b51; replace h46 := h46.later b51; replace h47 := h47.later b51; replace hg47 := hg47.later b51; replace h48 := h48.later b51)
          | (go_at_call 9; go_at_call_of 9 (Value.agg #[Value.bool (ng Zu), Value.slice a42 (ln (am Zu)) (ln (am Zu))]); go_at_call_of 9 (Value.agg #[Value.bool (ng Zu), Value.slice a51 (ln (am Zu)) (ln (am Zu))]); refine (sameI_is Zu a42 a51 _ _ _ (by omega) kh42 h51.seg).mono ?_; rintro e w52 ⟨rfl, b52⟩; replace hBW := hBW.trans (b52.mono hBW.size); replace q00 := below_cell b52 q00; replace q01 := below_cell b52 q01; replace l4100 := below_cell b52 l4100; replace l4101 := below_cell b52 l4101; replace l4300 := below_cell b52 l4300; replace l4301 := below_cell b52 l4301; replace l4500 := below_cell b52 l4500; replace l4501 := below_cell b52 l4501; replace l4600 := below_cell b52 l4600; replace l4601 := below_cell b52 l4601; replace l4700 := below_cell b52 l4700; replace l4701 := below_cell b52 l4701; replace l4710 := below_cell b52 l4710; replace l4711 := below_cell b52 l4711; replace hL410 := below_row b52 hL410; replace hL430 := below_row b52 hL430; replace hL450 := below_row b52 hL450; replace hL460 := below_row b52 hL460; replace hL470 := below_row b52 hL470; replace hL471 := below_row b52 hL471; replace kh42 := kh42.later b52; replace h43 := h43.later b52; replace h44 := h44.later b52; replace h45 := h45.later b52; replace h46 := h46.later b52; replace h47 := h47.later b52; replace hg47 := hg47.later b52; replace h48 := h48.later b52; replace h51 := h51.later b52)
          | (go_at_call 15; refine (awake_is _).mono ?_; rintro e w53 ⟨rfl, b53⟩; replace hBW := hBW.trans (b53.mono hBW.size); replace q00 := below_cell b53 q00; replace q01 := below_cell b53 q01; replace l4100 := below_cell b53 l4100; replace l4101 := below_cell b53 l4101; replace l4300 := below_cell b53 l4300; replace l4301 := below_cell b53 l4301; replace l4500 := below_cell b53 l4500; replace l4501 := below_cell b53 l4501; replace l4600 := below_cell b53 l4600; replace l4601 := below_cell b53 l4601; replace l4700 := below_cell b53 l4700; replace l4701 := below_cell b53 l4701; replace l4710 := below_cell b53 l4710; replace l4711 := below_cell b53 l4711; replace hL410 := below_row b53 hL410; replace hL430 := below_row b53 hL430; replace hL450 := below_row b53 hL450; replace hL460 := below_row b53 hL460; replace hL470 := below_row b53 hL470; replace hL471 := below_row b53 hL471; replace kh42 := kh42.later b53; replace h43 := h43.later b53; replace h44 := h44.later b53; replace h45 := h45.later b53; replace h46 := h46.later b53; replace h47 := h47.later b53; replace hg47 := hg47.later b53; replace h48 := h48.later b53; replace h51 := h51.later b53))
    | fail
  go_wp2
  go_ret
  exact ⟨rfl, hB.trans (hBW.mono hB.size)⟩

theorem walk (s0 : Bool) (a0 : Option Addr) (len0 cap0 X0 : Nat) (z : Int) (w : World) (hS0 : Seg w a0 X0 len0) (hc0 : len0 ≤ cap0) (hb0 : len0 ≤ 35184372087808) (hz1 : -9223372036854775808 ≤ z) (hz2 : z ≤ 9223372036854775807) :
    Calls Try.prog 5 #[.agg #[.bool s0, .slice a0 len0 cap0], .int .i64 z] w fun e w' => e = .returned (.bool true) ∧ Below w.heap.size w w' := by
  by_cases h1 : z < -1048576
  · exact lo s0 a0 len0 cap0 X0 z h1 w hS0 hc0 hb0
  · by_cases h2 : 1048576 < z
    · exact hi s0 a0 len0 cap0 X0 z h2 w hS0 hc0 hb0
    · rcases Int.lt_trichotomy z 0 with h3 | h3 | h3
      · obtain ⟨k, rfl⟩ : ∃ k : Nat, z = -(k : Int) := ⟨(-z).toNat, by omega⟩
        exact dn s0 a0 len0 cap0 X0 k (by omega) (by omega) w hS0 hc0 hb0
      · subst h3
        exact zero s0 a0 len0 cap0 X0 w hS0 hc0 hb0
      · obtain ⟨k, rfl⟩ : ∃ k : Nat, z = (k : Int) := ⟨z.toNat, by omega⟩
        exact up s0 a0 len0 cap0 X0 k (by omega) (by omega) w hS0 hc0 hb0

set_option maxRecDepth 100000 in
theorem contract (H : Type) (enc : TypeId × Value → H) (W : World) (base : Nat) (args : Array Value) (ds gs : List (DataW H)) (before : List MemPlace)
    (hval : ∀ (j : Nat) t v, Try.f5.params[j]? = some t → args[j]? = some v → Value.okWide Try.prog W .any base t v)
    (hW : DataW.Whole enc Try.prog Try.f5.params.toList Rows.wholeHalvesSpec.vars false W args.toList ds gs before)
    (hsz : (DataW.weightsEach Try.prog (Try.f5.params.toList ++ Rows.wholeHalvesSpec.plain.varTypes Try.prog) (ds ++ gs)).all (· ≤ reachBytes) = true) :
    Calls Try.prog 5 args W fun e W' => ∃ v, e = .returned v ∧ Rows.wholeHalvesSpec.post enc Try.prog Try.f5 false true false false W args v W' := by
  have hW' := hW
  obtain ⟨p, q, hA0, hV, rfl, hfz, hnd⟩ := hW
  have hA : DataW.TrodAll enc Try.prog W 0 (fun _ => true) true Try.f5.params.toList args.toList ds p := hA0
  rw [Try.params5] at hA hval hsz
  obtain ⟨v0, vs0, d0, ds0, p0, q0, hargs, rfl, rfl, h0, r0⟩ := trodAll_cons hA
  obtain ⟨v1, vs1, d1, ds1, p1, q1, rfl, rfl, rfl, h1, r1⟩ := trodAll_cons r0
  obtain ⟨rfl, rfl, rfl⟩ := trodAll_nil r1
  obtain rfl : args = #[v0, v1] := by cases args; simp_all
  obtain ⟨rfl, rfl⟩ := trodVars_none hV
  have lt0 : ∀ x ∈ p0, x.block < W.heap.size := by obtain ⟨m, hm⟩ := h0; exact DataW.trod_lt m _ _ _ hm
  obtain ⟨s0, a0, len0, cap0, X0, rfl, hS0, hc0, hb0, hu0⟩ := open_Int (hval 0 25 v0 rfl rfl) h0 (sized_at 0 hsz rfl rfl)
  obtain ⟨z1, rfl, rfl, rfl, w1⟩ := open_int Try.underlying3 (hval 1 3 v1 rfl rfl) h1
  have bz1 := bounds_i64 w1
  clear hA0
  simp only [List.append_nil] at hW'
  refine (walk s0 a0 len0 cap0 X0 z1 W hS0 hc0 hb0 (by omega) (by omega)).mono fun e W' ⟨he, bel⟩ => ?_
  subst he
  exact ⟨_, rfl, _, _, _, [], _, [], hW', trodAll_mk1 (shut_bool Try.underlying4 _), (trodAll_cons_mk (Below.trod laidOut (by kernel_rfl) (of_decide_eq_true (by kernel_rfl)) h0 bel lt0) (trodAll_cons_mk (shut_int Try.underlying3 w1) trodAll_mk0)), rfl, bel.frame _, fun h => by cases h⟩

set_option maxRecDepth 100000 in
theorem lifted (os : Os) (started : os.Started) (H : Type) (enc : TypeId × Value → H) :
    ReturnsInHanded {} Try.checked os 5 .any (Rows.wholeHalvesSpec.pre6 enc Try.prog Try.f5 Rows.wholeHalvesRow.domain false) (Rows.wholeHalvesSpec.post enc Try.prog Try.f5 false true false false) := by
  refine returnsInHanded_of_change_sized (C := Try.checked) own started (by kernel_rfl) Try.func5
    (ChangeSpec.witness6 (enc := enc) (C := Try.checked) false ⟨#[], #[.agg #[.bool false, .slice none 0 0], .int .i64 0], []⟩ 8 (by kernel_rfl) (by kernel_rfl) (by kernel_rfl) (by kernel_rfl)) ?_
  intro W base args ds gs before hval hW _ hsz _
  exact contract H enc W base args ds gs before hval hW hsz

theorem over : Rows.wholeHalvesRow.holds Try.pinned (OpenSpec.ofChange Rows.wholeHalvesSpec) :=
  OpenClaim.holds_of_wide 5 Try.f5 rfl rfl rfl rfl rfl rfl rfl ⟨rfl, rfl, rfl, rfl, rfl⟩ rfl rfl rfl rfl rfl (by kernel_rfl) Try.func5 (by kernel_rfl)
    (of_decide_eq_true (by kernel_rfl)) (by unfold Func.isWrapper; first | (rw [if_pos (by decide +kernel)]; kernel_rfl) | (rw [if_neg (by decide +kernel)]; exact ⟨rfl, rfl⟩))
    (fun os started H enc _ => lifted os started H enc)

end Go.Proofs.Ytjdilgkjgednjaa.wholeHalves
namespace Go.Proofs.Ytjdilgkjgednjaa
theorem wholeHalves_holds : Rows.WholeHalvesSaid := wholeHalves.over
#print axioms wholeHalves_holds
end Go.Proofs.Ytjdilgkjgednjaa
