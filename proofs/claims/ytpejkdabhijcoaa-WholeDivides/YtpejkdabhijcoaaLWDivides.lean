/-
  WholeDivides: the three ways to divide.
-/
import Derived.Test.YtpejkdabhijcoaaWIE
import Derived.Test.YtpejkdabhijcoaaOpenI
namespace Go.Proofs.Ytpejkdabhijcoaa.wholeDivides
open Go.ChangeShapes Go.WideShapes Go.ChangeAt Go.RowKit Go.Proofs.Ytpejkdabhijcoaa
set_option linter.unusedVariables false

theorem lnX {X n c : Nat} (h : X < BB ^ n) (hc : c ≤ 2) : X + c < BB ^ (n + 1) := by
  rw [pow_succ']
  have h2 : BB ^ n * 4 ≤ BB ^ n * BB := Nat.mul_le_mul_left _ (by rw [BB_eq]; omega)
  have := BBp n
  omega
theorem lnY {X n : Nat} (h : X < BB ^ n) : X + X < BB ^ (n + 1) := by
  rw [pow_succ']
  have h2 : BB ^ n * 4 ≤ BB ^ n * BB := Nat.mul_le_mul_left _ (by rw [BB_eq]; omega)
  omega

set_option maxHeartbeats 8000000 in
set_option maxRecDepth 100000 in
theorem walk (s0 : Bool) (a0 : Option Addr) (len0 cap0 X0 : Nat) (s1 : Bool) (a1 : Option Addr) (len1 cap1 X1 : Nat) (w : World) (hS0 : Seg w a0 X0 len0) (hc0 : len0 ≤ cap0) (hb0 : len0 ≤ 35184372087808) (hS1 : Seg w a1 X1 len1) (hc1 : len1 ≤ cap1) (hb1 : len1 ≤ 35184372087808) :
    Calls Try.prog 5 #[.agg #[.bool s0, .slice a0 len0 cap0], .agg #[.bool s1, .slice a1 len1 cap1]] w fun e w' => e = .returned (.bool true) ∧ Below w.heap.size w w' := by
  by_cases hX1 : X1 = 0
  · subst hX1
    go_enter Try.func5, Try.ntmps5
    go_wp2_with fail
    have q00 : (((w.alloc (.cells #[.bool s0, .slice a0 len0 cap0] 25)).alloc (.cells #[.bool s1, .slice a1 len1 cap1] 25))).cell? ⟨w.heap.size, 0, none⟩ = some (.bool s0) := by go_simp
    have q01 : (((w.alloc (.cells #[.bool s0, .slice a0 len0 cap0] 25)).alloc (.cells #[.bool s1, .slice a1 len1 cap1] 25))).cell? ⟨w.heap.size, 1, none⟩ = some (.slice a0 len0 cap0) := by go_simp
    have q10 : (((w.alloc (.cells #[.bool s0, .slice a0 len0 cap0] 25)).alloc (.cells #[.bool s1, .slice a1 len1 cap1] 25))).cell? ⟨w.heap.size + 1, 0, none⟩ = some (.bool s1) := by go_simp
    have q11 : (((w.alloc (.cells #[.bool s0, .slice a0 len0 cap0] 25)).alloc (.cells #[.bool s1, .slice a1 len1 cap1] 25))).cell? ⟨w.heap.size + 1, 1, none⟩ = some (.slice a1 len1 cap1) := by go_simp
    have hB : Below w.heap.size w (((w.alloc (.cells #[.bool s0, .slice a0 len0 cap0] 25)).alloc (.cells #[.bool s1, .slice a1 len1 cap1] 25))) := (((Below.refl _ _).alloc (by (try simp only [World.size_alloc]); omega) _).alloc (by (try simp only [World.size_alloc]); omega) _)
    have hz : (((w.alloc (.cells #[.bool s0, .slice a0 len0 cap0] 25)).alloc (.cells #[.bool s1, .slice a1 len1 cap1] 25))).heap.size = w.heap.size + 1 + 1 := by simp only [World.size_alloc]
    generalize ((w.alloc (.cells #[.bool s0, .slice a0 len0 cap0] 25)).alloc (.cells #[.bool s1, .slice a1 len1 cap1] 25)) = W at q00 q01 q10 q11 hB hz ⊢
    have hBW : Below W.heap.size W W := Below.refl _ _
    refine (wQuo_zero s0 a0 len0 cap0 X0 s1 a1 len1 cap1 _ hc0 (by omega) (sb hS0 hB hBW) hc1 (by omega) (sb hS1 hB hBW)).mono ?_
    rintro e w3 ⟨rfl, b3⟩
    replace hBW := hBW.trans (b3.mono hBW.size)
    replace q00 := below_cell b3 q00
    replace q01 := below_cell b3 q01
    replace q10 := below_cell b3 q10
    replace q11 := below_cell b3 q11
    have l300 : (((w3.alloc (.cells #[.bool false, .slice none 0 0] 25)).alloc (.cells #[.bool false, .slice none 0 0] 25))).cell? ⟨w3.heap.size, 0, none⟩ = some (.bool false) := by go_simp
    have l301 : (((w3.alloc (.cells #[.bool false, .slice none 0 0] 25)).alloc (.cells #[.bool false, .slice none 0 0] 25))).cell? ⟨w3.heap.size, 1, none⟩ = some (.slice none 0 0) := by go_simp
    have l310 : (((w3.alloc (.cells #[.bool false, .slice none 0 0] 25)).alloc (.cells #[.bool false, .slice none 0 0] 25))).cell? ⟨w3.heap.size + 1, 0, none⟩ = some (.bool false) := by go_simp
    have l311 : (((w3.alloc (.cells #[.bool false, .slice none 0 0] 25)).alloc (.cells #[.bool false, .slice none 0 0] 25))).cell? ⟨w3.heap.size + 1, 1, none⟩ = some (.slice none 0 0) := by go_simp
    have cb3 : Below w3.heap.size w3 (((w3.alloc (.cells #[.bool false, .slice none 0 0] 25)).alloc (.cells #[.bool false, .slice none 0 0] 25))) := (((Below.refl _ _).alloc (by (try simp only [World.size_alloc]); omega) _).alloc (by (try simp only [World.size_alloc]); omega) _)
    replace hBW := hBW.trans (cb3.mono hBW.size)
    replace q00 := below_cell cb3 q00
    replace q01 := below_cell cb3 q01
    replace q10 := below_cell cb3 q10
    replace q11 := below_cell cb3 q11
    have hL30 : Row (((w3.alloc (.cells #[.bool false, .slice none 0 0] 25)).alloc (.cells #[.bool false, .slice none 0 0] 25))) (w3.heap.size) := by
      have := row_new (w3) #[.bool false, .slice none 0 0] 25
      try simp only [World.size_alloc] at this
      exact (this.alloc _)
    have hL31 : Row (((w3.alloc (.cells #[.bool false, .slice none 0 0] 25)).alloc (.cells #[.bool false, .slice none 0 0] 25))) (w3.heap.size + 1) := by
      have := row_new ((w3.alloc (.cells #[.bool false, .slice none 0 0] 25))) #[.bool false, .slice none 0 0] 25
      try simp only [World.size_alloc] at this
      exact this
    go_wp2_with fail
    generalize ((w3.alloc (.cells #[.bool false, .slice none 0 0] 25)).alloc (.cells #[.bool false, .slice none 0 0] 25)) = w3x at q00 q01 q10 q11 l300 l301 l310 l311 hL30 hL31 hBW cb3 ⊢
    clear cb3
    have hs4 := hL31.lt
    refine (vQuo_zero s0 a0 len0 cap0 X0 s1 a1 len1 cap1 _ (by omega) (sb hS1 hB hBW)).mono ?_
    rintro e w4 ⟨rfl, b4⟩
    replace hBW := hBW.trans (b4.mono hBW.size)
    replace q00 := below_cell b4 q00
    replace q01 := below_cell b4 q01
    replace q10 := below_cell b4 q10
    replace q11 := below_cell b4 q11
    replace l300 := below_cell b4 l300
    replace l301 := below_cell b4 l301
    replace l310 := below_cell b4 l310
    replace l311 := below_cell b4 l311
    replace hL30 := below_row b4 hL30
    replace hL31 := below_row b4 hL31
    have l400 : (((w4.alloc (.cells #[.bool false, .slice none 0 0] 25)).alloc (.cells #[.bool false, .slice none 0 0] 25))).cell? ⟨w4.heap.size, 0, none⟩ = some (.bool false) := by go_simp
    have l401 : (((w4.alloc (.cells #[.bool false, .slice none 0 0] 25)).alloc (.cells #[.bool false, .slice none 0 0] 25))).cell? ⟨w4.heap.size, 1, none⟩ = some (.slice none 0 0) := by go_simp
    have l410 : (((w4.alloc (.cells #[.bool false, .slice none 0 0] 25)).alloc (.cells #[.bool false, .slice none 0 0] 25))).cell? ⟨w4.heap.size + 1, 0, none⟩ = some (.bool false) := by go_simp
    have l411 : (((w4.alloc (.cells #[.bool false, .slice none 0 0] 25)).alloc (.cells #[.bool false, .slice none 0 0] 25))).cell? ⟨w4.heap.size + 1, 1, none⟩ = some (.slice none 0 0) := by go_simp
    have cb4 : Below w4.heap.size w4 (((w4.alloc (.cells #[.bool false, .slice none 0 0] 25)).alloc (.cells #[.bool false, .slice none 0 0] 25))) := (((Below.refl _ _).alloc (by (try simp only [World.size_alloc]); omega) _).alloc (by (try simp only [World.size_alloc]); omega) _)
    replace hBW := hBW.trans (cb4.mono hBW.size)
    replace q00 := below_cell cb4 q00
    replace q01 := below_cell cb4 q01
    replace q10 := below_cell cb4 q10
    replace q11 := below_cell cb4 q11
    replace l300 := below_cell cb4 l300
    replace l301 := below_cell cb4 l301
    replace l310 := below_cell cb4 l310
    replace l311 := below_cell cb4 l311
    replace hL30 := below_row cb4 hL30
    replace hL31 := below_row cb4 hL31
    have hL40 : Row (((w4.alloc (.cells #[.bool false, .slice none 0 0] 25)).alloc (.cells #[.bool false, .slice none 0 0] 25))) (w4.heap.size) := by
      have := row_new (w4) #[.bool false, .slice none 0 0] 25
      try simp only [World.size_alloc] at this
      exact (this.alloc _)
    have hL41 : Row (((w4.alloc (.cells #[.bool false, .slice none 0 0] 25)).alloc (.cells #[.bool false, .slice none 0 0] 25))) (w4.heap.size + 1) := by
      have := row_new ((w4.alloc (.cells #[.bool false, .slice none 0 0] 25))) #[.bool false, .slice none 0 0] 25
      try simp only [World.size_alloc] at this
      exact this
    go_wp2_with fail
    generalize ((w4.alloc (.cells #[.bool false, .slice none 0 0] 25)).alloc (.cells #[.bool false, .slice none 0 0] 25)) = w4x at q00 q01 q10 q11 l300 l301 l310 l311 l400 l401 l410 l411 hL30 hL31 hL40 hL41 hBW cb4 ⊢
    clear cb4
    have hs1 := b3.size
    have hs2 := b4.size
    have hs3 := hL41.lt
    have hLs : w4x.heap.size ≤ w4x.heap.size := Nat.le_refl _
    refine (same0 _).mono ?_
    rintro e w5 ⟨rfl, b5⟩
    replace hBW := hBW.trans (b5.mono hBW.size)
    replace q00 := below_cell b5 q00
    replace q01 := below_cell b5 q01
    replace q10 := below_cell b5 q10
    replace q11 := below_cell b5 q11
    replace l300 := below_cell b5 l300
    replace l301 := below_cell b5 l301
    replace l310 := below_cell b5 l310
    replace l311 := below_cell b5 l311
    replace l400 := below_cell b5 l400
    replace l401 := below_cell b5 l401
    replace l410 := below_cell b5 l410
    replace l411 := below_cell b5 l411
    replace hL30 := below_row b5 hL30
    replace hL31 := below_row b5 hL31
    replace hL40 := below_row b5 hL40
    replace hL41 := below_row b5 hL41
    replace hLs := Nat.le_trans hLs b5.size
    go_wp2_with fail
    refine (same0 _).mono ?_
    rintro e w6 ⟨rfl, b6⟩
    replace hBW := hBW.trans (b6.mono hBW.size)
    replace q00 := below_cell b6 q00
    replace q01 := below_cell b6 q01
    replace q10 := below_cell b6 q10
    replace q11 := below_cell b6 q11
    replace l300 := below_cell b6 l300
    replace l301 := below_cell b6 l301
    replace l310 := below_cell b6 l310
    replace l311 := below_cell b6 l311
    replace l400 := below_cell b6 l400
    replace l401 := below_cell b6 l401
    replace l410 := below_cell b6 l410
    replace l411 := below_cell b6 l411
    replace hL30 := below_row b6 hL30
    replace hL31 := below_row b6 hL31
    replace hL40 := below_row b6 hL40
    replace hL41 := below_row b6 hL41
    replace hLs := Nat.le_trans hLs b6.size
    go_wp2_with fail
    refine (wFloor_zero s0 a0 len0 cap0 X0 s1 a1 len1 cap1 _ hc0 (by omega) (sb hS0 hB hBW) hc1 (by omega) (sb hS1 hB hBW)).mono ?_
    rintro e w7 ⟨rfl, b7⟩
    replace hBW := hBW.trans (b7.mono hBW.size)
    replace q00 := below_cell b7 q00
    replace q01 := below_cell b7 q01
    replace q10 := below_cell b7 q10
    replace q11 := below_cell b7 q11
    replace l300 := below_cell b7 l300
    replace l301 := below_cell b7 l301
    replace l310 := below_cell b7 l310
    replace l311 := below_cell b7 l311
    replace l400 := below_cell b7 l400
    replace l401 := below_cell b7 l401
    replace l410 := below_cell b7 l410
    replace l411 := below_cell b7 l411
    replace hL30 := below_row b7 hL30
    replace hL31 := below_row b7 hL31
    replace hL40 := below_row b7 hL40
    replace hL41 := below_row b7 hL41
    replace hLs := Nat.le_trans hLs b7.size
    have fzhL30 := fun o => hL30.frozen o
    have fzhL31 := fun o => hL31.frozen o
    have fzhL40 := fun o => hL40.frozen o
    have fzhL41 := fun o => hL41.frozen o
    have hM : Mid W.heap.size w4x.heap.size w7 ((((w7.setCell ⟨w3.heap.size, 0, none⟩ (.bool false)).setCell ⟨w3.heap.size, 1, none⟩ (.slice none 0 0)).setCell ⟨w3.heap.size + 1, 0, none⟩ (.bool false)).setCell ⟨w3.heap.size + 1, 1, none⟩ (.slice none 0 0)) := ((((Mid.refl _ _ _).set _ _ (by omega) (by omega) _).set _ _ (by omega) (by omega) _).set _ _ (by omega) (by omega) _).set _ _ (by omega) (by omega) _
    have e0 := set2_same (w := w7) (u := .bool false) (v := .slice none 0 0) l300 l301
    have e1 := set2_same (w := ((w7.setCell ⟨w3.heap.size, 0, none⟩ (.bool false)).setCell ⟨w3.heap.size, 1, none⟩ (.slice none 0 0))) (c := w3.heap.size + 1) (u := .bool false) (v := .slice none 0 0) ((set2_far (by omega)).trans l310) ((set2_far (by omega)).trans l311)
    have q00_ : (((((w7.setCell ⟨w3.heap.size, 0, none⟩ (.bool false)).setCell ⟨w3.heap.size, 1, none⟩ (.slice none 0 0)).setCell ⟨w3.heap.size + 1, 0, none⟩ (.bool false)).setCell ⟨w3.heap.size + 1, 1, none⟩ (.slice none 0 0))).cell? ⟨w.heap.size, 0, none⟩ = some (.bool s0) := (set2_far (by omega)).trans ((set2_far (by omega)).trans q00)
    have q01_ : (((((w7.setCell ⟨w3.heap.size, 0, none⟩ (.bool false)).setCell ⟨w3.heap.size, 1, none⟩ (.slice none 0 0)).setCell ⟨w3.heap.size + 1, 0, none⟩ (.bool false)).setCell ⟨w3.heap.size + 1, 1, none⟩ (.slice none 0 0))).cell? ⟨w.heap.size, 1, none⟩ = some (.slice a0 len0 cap0) := (set2_far (by omega)).trans ((set2_far (by omega)).trans q01)
    have q10_ : (((((w7.setCell ⟨w3.heap.size, 0, none⟩ (.bool false)).setCell ⟨w3.heap.size, 1, none⟩ (.slice none 0 0)).setCell ⟨w3.heap.size + 1, 0, none⟩ (.bool false)).setCell ⟨w3.heap.size + 1, 1, none⟩ (.slice none 0 0))).cell? ⟨w.heap.size + 1, 0, none⟩ = some (.bool s1) := (set2_far (by omega)).trans ((set2_far (by omega)).trans q10)
    have q11_ : (((((w7.setCell ⟨w3.heap.size, 0, none⟩ (.bool false)).setCell ⟨w3.heap.size, 1, none⟩ (.slice none 0 0)).setCell ⟨w3.heap.size + 1, 0, none⟩ (.bool false)).setCell ⟨w3.heap.size + 1, 1, none⟩ (.slice none 0 0))).cell? ⟨w.heap.size + 1, 1, none⟩ = some (.slice a1 len1 cap1) := (set2_far (by omega)).trans ((set2_far (by omega)).trans q11)
    have l300_ : (((((w7.setCell ⟨w3.heap.size, 0, none⟩ (.bool false)).setCell ⟨w3.heap.size, 1, none⟩ (.slice none 0 0)).setCell ⟨w3.heap.size + 1, 0, none⟩ (.bool false)).setCell ⟨w3.heap.size + 1, 1, none⟩ (.slice none 0 0))).cell? ⟨w3.heap.size, 0, none⟩ = some (.bool false) := (set2_far (by omega)).trans e0.1
    have l301_ : (((((w7.setCell ⟨w3.heap.size, 0, none⟩ (.bool false)).setCell ⟨w3.heap.size, 1, none⟩ (.slice none 0 0)).setCell ⟨w3.heap.size + 1, 0, none⟩ (.bool false)).setCell ⟨w3.heap.size + 1, 1, none⟩ (.slice none 0 0))).cell? ⟨w3.heap.size, 1, none⟩ = some (.slice none 0 0) := (set2_far (by omega)).trans e0.2
    have l310_ : (((((w7.setCell ⟨w3.heap.size, 0, none⟩ (.bool false)).setCell ⟨w3.heap.size, 1, none⟩ (.slice none 0 0)).setCell ⟨w3.heap.size + 1, 0, none⟩ (.bool false)).setCell ⟨w3.heap.size + 1, 1, none⟩ (.slice none 0 0))).cell? ⟨w3.heap.size + 1, 0, none⟩ = some (.bool false) := e1.1
    have l311_ : (((((w7.setCell ⟨w3.heap.size, 0, none⟩ (.bool false)).setCell ⟨w3.heap.size, 1, none⟩ (.slice none 0 0)).setCell ⟨w3.heap.size + 1, 0, none⟩ (.bool false)).setCell ⟨w3.heap.size + 1, 1, none⟩ (.slice none 0 0))).cell? ⟨w3.heap.size + 1, 1, none⟩ = some (.slice none 0 0) := e1.2
    have l400_ : (((((w7.setCell ⟨w3.heap.size, 0, none⟩ (.bool false)).setCell ⟨w3.heap.size, 1, none⟩ (.slice none 0 0)).setCell ⟨w3.heap.size + 1, 0, none⟩ (.bool false)).setCell ⟨w3.heap.size + 1, 1, none⟩ (.slice none 0 0))).cell? ⟨w4.heap.size, 0, none⟩ = some (.bool false) := (set2_far (by omega)).trans ((set2_far (by omega)).trans l400)
    have l401_ : (((((w7.setCell ⟨w3.heap.size, 0, none⟩ (.bool false)).setCell ⟨w3.heap.size, 1, none⟩ (.slice none 0 0)).setCell ⟨w3.heap.size + 1, 0, none⟩ (.bool false)).setCell ⟨w3.heap.size + 1, 1, none⟩ (.slice none 0 0))).cell? ⟨w4.heap.size, 1, none⟩ = some (.slice none 0 0) := (set2_far (by omega)).trans ((set2_far (by omega)).trans l401)
    have l410_ : (((((w7.setCell ⟨w3.heap.size, 0, none⟩ (.bool false)).setCell ⟨w3.heap.size, 1, none⟩ (.slice none 0 0)).setCell ⟨w3.heap.size + 1, 0, none⟩ (.bool false)).setCell ⟨w3.heap.size + 1, 1, none⟩ (.slice none 0 0))).cell? ⟨w4.heap.size + 1, 0, none⟩ = some (.bool false) := (set2_far (by omega)).trans ((set2_far (by omega)).trans l410)
    have l411_ : (((((w7.setCell ⟨w3.heap.size, 0, none⟩ (.bool false)).setCell ⟨w3.heap.size, 1, none⟩ (.slice none 0 0)).setCell ⟨w3.heap.size + 1, 0, none⟩ (.bool false)).setCell ⟨w3.heap.size + 1, 1, none⟩ (.slice none 0 0))).cell? ⟨w4.heap.size + 1, 1, none⟩ = some (.slice none 0 0) := (set2_far (by omega)).trans ((set2_far (by omega)).trans l411)
    have hL30_ := (((hL30.setCell ⟨w3.heap.size, 0, none⟩ (.bool false)).setCell ⟨w3.heap.size, 1, none⟩ (.slice none 0 0)).setCell ⟨w3.heap.size + 1, 0, none⟩ (.bool false)).setCell ⟨w3.heap.size + 1, 1, none⟩ (.slice none 0 0)
    have hL31_ := (((hL31.setCell ⟨w3.heap.size, 0, none⟩ (.bool false)).setCell ⟨w3.heap.size, 1, none⟩ (.slice none 0 0)).setCell ⟨w3.heap.size + 1, 0, none⟩ (.bool false)).setCell ⟨w3.heap.size + 1, 1, none⟩ (.slice none 0 0)
    have hL40_ := (((hL40.setCell ⟨w3.heap.size, 0, none⟩ (.bool false)).setCell ⟨w3.heap.size, 1, none⟩ (.slice none 0 0)).setCell ⟨w3.heap.size + 1, 0, none⟩ (.bool false)).setCell ⟨w3.heap.size + 1, 1, none⟩ (.slice none 0 0)
    have hL41_ := (((hL41.setCell ⟨w3.heap.size, 0, none⟩ (.bool false)).setCell ⟨w3.heap.size, 1, none⟩ (.slice none 0 0)).setCell ⟨w3.heap.size + 1, 0, none⟩ (.bool false)).setCell ⟨w3.heap.size + 1, 1, none⟩ (.slice none 0 0)
    replace hBW := hBW.trans (hM.below hBW.size)
    replace hLs := Nat.le_trans hLs hM.size
    clear hM e0 e1
    go_wp2_with fail
    clear q00 q01 q10 q11 l300 l301 l310 l311 l400 l401 l410 l411 hL30 hL31 hL40 hL41 fzhL30 fzhL31 fzhL40 fzhL41
    generalize ((((w7.setCell ⟨w3.heap.size, 0, none⟩ (.bool false)).setCell ⟨w3.heap.size, 1, none⟩ (.slice none 0 0)).setCell ⟨w3.heap.size + 1, 0, none⟩ (.bool false)).setCell ⟨w3.heap.size + 1, 1, none⟩ (.slice none 0 0)) = w7y at q00_ q01_ q10_ q11_ l300_ l301_ l310_ l311_ l400_ l401_ l410_ l411_ hL30_ hL31_ hL40_ hL41_ hBW hLs ⊢
    have q00 := q00_
    clear q00_
    have q01 := q01_
    clear q01_
    have q10 := q10_
    clear q10_
    have q11 := q11_
    clear q11_
    have l300 := l300_
    clear l300_
    have l301 := l301_
    clear l301_
    have l310 := l310_
    clear l310_
    have l311 := l311_
    clear l311_
    have l400 := l400_
    clear l400_
    have l401 := l401_
    clear l401_
    have l410 := l410_
    clear l410_
    have l411 := l411_
    clear l411_
    have hL30 := hL30_
    clear hL30_
    have hL31 := hL31_
    clear hL31_
    have hL40 := hL40_
    clear hL40_
    have hL41 := hL41_
    clear hL41_
    refine (vFloor_zero s0 a0 len0 cap0 X0 s1 a1 len1 cap1 _ (by omega) (sb hS1 hB hBW)).mono ?_
    rintro e w8 ⟨rfl, b8⟩
    replace hBW := hBW.trans (b8.mono hBW.size)
    replace q00 := below_cell b8 q00
    replace q01 := below_cell b8 q01
    replace q10 := below_cell b8 q10
    replace q11 := below_cell b8 q11
    replace l300 := below_cell b8 l300
    replace l301 := below_cell b8 l301
    replace l310 := below_cell b8 l310
    replace l311 := below_cell b8 l311
    replace l400 := below_cell b8 l400
    replace l401 := below_cell b8 l401
    replace l410 := below_cell b8 l410
    replace l411 := below_cell b8 l411
    replace hL30 := below_row b8 hL30
    replace hL31 := below_row b8 hL31
    replace hL40 := below_row b8 hL40
    replace hL41 := below_row b8 hL41
    replace hLs := Nat.le_trans hLs b8.size
    have fzhL30 := fun o => hL30.frozen o
    have fzhL31 := fun o => hL31.frozen o
    have fzhL40 := fun o => hL40.frozen o
    have fzhL41 := fun o => hL41.frozen o
    have hM : Mid W.heap.size w4x.heap.size w8 ((((w8.setCell ⟨w4.heap.size, 0, none⟩ (.bool false)).setCell ⟨w4.heap.size, 1, none⟩ (.slice none 0 0)).setCell ⟨w4.heap.size + 1, 0, none⟩ (.bool false)).setCell ⟨w4.heap.size + 1, 1, none⟩ (.slice none 0 0)) := ((((Mid.refl _ _ _).set _ _ (by omega) (by omega) _).set _ _ (by omega) (by omega) _).set _ _ (by omega) (by omega) _).set _ _ (by omega) (by omega) _
    have e0 := set2_same (w := w8) (u := .bool false) (v := .slice none 0 0) l400 l401
    have e1 := set2_same (w := ((w8.setCell ⟨w4.heap.size, 0, none⟩ (.bool false)).setCell ⟨w4.heap.size, 1, none⟩ (.slice none 0 0))) (c := w4.heap.size + 1) (u := .bool false) (v := .slice none 0 0) ((set2_far (by omega)).trans l410) ((set2_far (by omega)).trans l411)
    have q00_ : (((((w8.setCell ⟨w4.heap.size, 0, none⟩ (.bool false)).setCell ⟨w4.heap.size, 1, none⟩ (.slice none 0 0)).setCell ⟨w4.heap.size + 1, 0, none⟩ (.bool false)).setCell ⟨w4.heap.size + 1, 1, none⟩ (.slice none 0 0))).cell? ⟨w.heap.size, 0, none⟩ = some (.bool s0) := (set2_far (by omega)).trans ((set2_far (by omega)).trans q00)
    have q01_ : (((((w8.setCell ⟨w4.heap.size, 0, none⟩ (.bool false)).setCell ⟨w4.heap.size, 1, none⟩ (.slice none 0 0)).setCell ⟨w4.heap.size + 1, 0, none⟩ (.bool false)).setCell ⟨w4.heap.size + 1, 1, none⟩ (.slice none 0 0))).cell? ⟨w.heap.size, 1, none⟩ = some (.slice a0 len0 cap0) := (set2_far (by omega)).trans ((set2_far (by omega)).trans q01)
    have q10_ : (((((w8.setCell ⟨w4.heap.size, 0, none⟩ (.bool false)).setCell ⟨w4.heap.size, 1, none⟩ (.slice none 0 0)).setCell ⟨w4.heap.size + 1, 0, none⟩ (.bool false)).setCell ⟨w4.heap.size + 1, 1, none⟩ (.slice none 0 0))).cell? ⟨w.heap.size + 1, 0, none⟩ = some (.bool s1) := (set2_far (by omega)).trans ((set2_far (by omega)).trans q10)
    have q11_ : (((((w8.setCell ⟨w4.heap.size, 0, none⟩ (.bool false)).setCell ⟨w4.heap.size, 1, none⟩ (.slice none 0 0)).setCell ⟨w4.heap.size + 1, 0, none⟩ (.bool false)).setCell ⟨w4.heap.size + 1, 1, none⟩ (.slice none 0 0))).cell? ⟨w.heap.size + 1, 1, none⟩ = some (.slice a1 len1 cap1) := (set2_far (by omega)).trans ((set2_far (by omega)).trans q11)
    have l300_ : (((((w8.setCell ⟨w4.heap.size, 0, none⟩ (.bool false)).setCell ⟨w4.heap.size, 1, none⟩ (.slice none 0 0)).setCell ⟨w4.heap.size + 1, 0, none⟩ (.bool false)).setCell ⟨w4.heap.size + 1, 1, none⟩ (.slice none 0 0))).cell? ⟨w3.heap.size, 0, none⟩ = some (.bool false) := (set2_far (by omega)).trans ((set2_far (by omega)).trans l300)
    have l301_ : (((((w8.setCell ⟨w4.heap.size, 0, none⟩ (.bool false)).setCell ⟨w4.heap.size, 1, none⟩ (.slice none 0 0)).setCell ⟨w4.heap.size + 1, 0, none⟩ (.bool false)).setCell ⟨w4.heap.size + 1, 1, none⟩ (.slice none 0 0))).cell? ⟨w3.heap.size, 1, none⟩ = some (.slice none 0 0) := (set2_far (by omega)).trans ((set2_far (by omega)).trans l301)
    have l310_ : (((((w8.setCell ⟨w4.heap.size, 0, none⟩ (.bool false)).setCell ⟨w4.heap.size, 1, none⟩ (.slice none 0 0)).setCell ⟨w4.heap.size + 1, 0, none⟩ (.bool false)).setCell ⟨w4.heap.size + 1, 1, none⟩ (.slice none 0 0))).cell? ⟨w3.heap.size + 1, 0, none⟩ = some (.bool false) := (set2_far (by omega)).trans ((set2_far (by omega)).trans l310)
    have l311_ : (((((w8.setCell ⟨w4.heap.size, 0, none⟩ (.bool false)).setCell ⟨w4.heap.size, 1, none⟩ (.slice none 0 0)).setCell ⟨w4.heap.size + 1, 0, none⟩ (.bool false)).setCell ⟨w4.heap.size + 1, 1, none⟩ (.slice none 0 0))).cell? ⟨w3.heap.size + 1, 1, none⟩ = some (.slice none 0 0) := (set2_far (by omega)).trans ((set2_far (by omega)).trans l311)
    have l400_ : (((((w8.setCell ⟨w4.heap.size, 0, none⟩ (.bool false)).setCell ⟨w4.heap.size, 1, none⟩ (.slice none 0 0)).setCell ⟨w4.heap.size + 1, 0, none⟩ (.bool false)).setCell ⟨w4.heap.size + 1, 1, none⟩ (.slice none 0 0))).cell? ⟨w4.heap.size, 0, none⟩ = some (.bool false) := (set2_far (by omega)).trans e0.1
    have l401_ : (((((w8.setCell ⟨w4.heap.size, 0, none⟩ (.bool false)).setCell ⟨w4.heap.size, 1, none⟩ (.slice none 0 0)).setCell ⟨w4.heap.size + 1, 0, none⟩ (.bool false)).setCell ⟨w4.heap.size + 1, 1, none⟩ (.slice none 0 0))).cell? ⟨w4.heap.size, 1, none⟩ = some (.slice none 0 0) := (set2_far (by omega)).trans e0.2
    have l410_ : (((((w8.setCell ⟨w4.heap.size, 0, none⟩ (.bool false)).setCell ⟨w4.heap.size, 1, none⟩ (.slice none 0 0)).setCell ⟨w4.heap.size + 1, 0, none⟩ (.bool false)).setCell ⟨w4.heap.size + 1, 1, none⟩ (.slice none 0 0))).cell? ⟨w4.heap.size + 1, 0, none⟩ = some (.bool false) := e1.1
    have l411_ : (((((w8.setCell ⟨w4.heap.size, 0, none⟩ (.bool false)).setCell ⟨w4.heap.size, 1, none⟩ (.slice none 0 0)).setCell ⟨w4.heap.size + 1, 0, none⟩ (.bool false)).setCell ⟨w4.heap.size + 1, 1, none⟩ (.slice none 0 0))).cell? ⟨w4.heap.size + 1, 1, none⟩ = some (.slice none 0 0) := e1.2
    have hL30_ := (((hL30.setCell ⟨w4.heap.size, 0, none⟩ (.bool false)).setCell ⟨w4.heap.size, 1, none⟩ (.slice none 0 0)).setCell ⟨w4.heap.size + 1, 0, none⟩ (.bool false)).setCell ⟨w4.heap.size + 1, 1, none⟩ (.slice none 0 0)
    have hL31_ := (((hL31.setCell ⟨w4.heap.size, 0, none⟩ (.bool false)).setCell ⟨w4.heap.size, 1, none⟩ (.slice none 0 0)).setCell ⟨w4.heap.size + 1, 0, none⟩ (.bool false)).setCell ⟨w4.heap.size + 1, 1, none⟩ (.slice none 0 0)
    have hL40_ := (((hL40.setCell ⟨w4.heap.size, 0, none⟩ (.bool false)).setCell ⟨w4.heap.size, 1, none⟩ (.slice none 0 0)).setCell ⟨w4.heap.size + 1, 0, none⟩ (.bool false)).setCell ⟨w4.heap.size + 1, 1, none⟩ (.slice none 0 0)
    have hL41_ := (((hL41.setCell ⟨w4.heap.size, 0, none⟩ (.bool false)).setCell ⟨w4.heap.size, 1, none⟩ (.slice none 0 0)).setCell ⟨w4.heap.size + 1, 0, none⟩ (.bool false)).setCell ⟨w4.heap.size + 1, 1, none⟩ (.slice none 0 0)
    replace hBW := hBW.trans (hM.below hBW.size)
    replace hLs := Nat.le_trans hLs hM.size
    clear hM e0 e1
    go_wp2_with fail
    clear q00 q01 q10 q11 l300 l301 l310 l311 l400 l401 l410 l411 hL30 hL31 hL40 hL41 fzhL30 fzhL31 fzhL40 fzhL41
    generalize ((((w8.setCell ⟨w4.heap.size, 0, none⟩ (.bool false)).setCell ⟨w4.heap.size, 1, none⟩ (.slice none 0 0)).setCell ⟨w4.heap.size + 1, 0, none⟩ (.bool false)).setCell ⟨w4.heap.size + 1, 1, none⟩ (.slice none 0 0)) = w8y at q00_ q01_ q10_ q11_ l300_ l301_ l310_ l311_ l400_ l401_ l410_ l411_ hL30_ hL31_ hL40_ hL41_ hBW hLs ⊢
    have q00 := q00_
    clear q00_
    have q01 := q01_
    clear q01_
    have q10 := q10_
    clear q10_
    have q11 := q11_
    clear q11_
    have l300 := l300_
    clear l300_
    have l301 := l301_
    clear l301_
    have l310 := l310_
    clear l310_
    have l311 := l311_
    clear l311_
    have l400 := l400_
    clear l400_
    have l401 := l401_
    clear l401_
    have l410 := l410_
    clear l410_
    have l411 := l411_
    clear l411_
    have hL30 := hL30_
    clear hL30_
    have hL31 := hL31_
    clear hL31_
    have hL40 := hL40_
    clear hL40_
    have hL41 := hL41_
    clear hL41_
    refine (same0 _).mono ?_
    rintro e w9 ⟨rfl, b9⟩
    replace hBW := hBW.trans (b9.mono hBW.size)
    replace q00 := below_cell b9 q00
    replace q01 := below_cell b9 q01
    replace q10 := below_cell b9 q10
    replace q11 := below_cell b9 q11
    replace l300 := below_cell b9 l300
    replace l301 := below_cell b9 l301
    replace l310 := below_cell b9 l310
    replace l311 := below_cell b9 l311
    replace l400 := below_cell b9 l400
    replace l401 := below_cell b9 l401
    replace l410 := below_cell b9 l410
    replace l411 := below_cell b9 l411
    replace hL30 := below_row b9 hL30
    replace hL31 := below_row b9 hL31
    replace hL40 := below_row b9 hL40
    replace hL41 := below_row b9 hL41
    replace hLs := Nat.le_trans hLs b9.size
    go_wp2_with fail
    refine (same0 _).mono ?_
    rintro e w10 ⟨rfl, b10⟩
    replace hBW := hBW.trans (b10.mono hBW.size)
    replace q00 := below_cell b10 q00
    replace q01 := below_cell b10 q01
    replace q10 := below_cell b10 q10
    replace q11 := below_cell b10 q11
    replace l300 := below_cell b10 l300
    replace l301 := below_cell b10 l301
    replace l310 := below_cell b10 l310
    replace l311 := below_cell b10 l311
    replace l400 := below_cell b10 l400
    replace l401 := below_cell b10 l401
    replace l410 := below_cell b10 l410
    replace l411 := below_cell b10 l411
    replace hL30 := below_row b10 hL30
    replace hL31 := below_row b10 hL31
    replace hL40 := below_row b10 hL40
    replace hL41 := below_row b10 hL41
    replace hLs := Nat.le_trans hLs b10.size
    go_wp2_with fail
    refine (wEuclid_zero s0 a0 len0 cap0 X0 s1 a1 len1 cap1 _ hc0 (by omega) (sb hS0 hB hBW) hc1 (by omega) (sb hS1 hB hBW)).mono ?_
    rintro e w11 ⟨rfl, b11⟩
    replace hBW := hBW.trans (b11.mono hBW.size)
    replace q00 := below_cell b11 q00
    replace q01 := below_cell b11 q01
    replace q10 := below_cell b11 q10
    replace q11 := below_cell b11 q11
    replace l300 := below_cell b11 l300
    replace l301 := below_cell b11 l301
    replace l310 := below_cell b11 l310
    replace l311 := below_cell b11 l311
    replace l400 := below_cell b11 l400
    replace l401 := below_cell b11 l401
    replace l410 := below_cell b11 l410
    replace l411 := below_cell b11 l411
    replace hL30 := below_row b11 hL30
    replace hL31 := below_row b11 hL31
    replace hL40 := below_row b11 hL40
    replace hL41 := below_row b11 hL41
    replace hLs := Nat.le_trans hLs b11.size
    have fzhL30 := fun o => hL30.frozen o
    have fzhL31 := fun o => hL31.frozen o
    have fzhL40 := fun o => hL40.frozen o
    have fzhL41 := fun o => hL41.frozen o
    have hM : Mid W.heap.size w4x.heap.size w11 ((((w11.setCell ⟨w3.heap.size, 0, none⟩ (.bool false)).setCell ⟨w3.heap.size, 1, none⟩ (.slice none 0 0)).setCell ⟨w3.heap.size + 1, 0, none⟩ (.bool false)).setCell ⟨w3.heap.size + 1, 1, none⟩ (.slice none 0 0)) := ((((Mid.refl _ _ _).set _ _ (by omega) (by omega) _).set _ _ (by omega) (by omega) _).set _ _ (by omega) (by omega) _).set _ _ (by omega) (by omega) _
    have e0 := set2_same (w := w11) (u := .bool false) (v := .slice none 0 0) l300 l301
    have e1 := set2_same (w := ((w11.setCell ⟨w3.heap.size, 0, none⟩ (.bool false)).setCell ⟨w3.heap.size, 1, none⟩ (.slice none 0 0))) (c := w3.heap.size + 1) (u := .bool false) (v := .slice none 0 0) ((set2_far (by omega)).trans l310) ((set2_far (by omega)).trans l311)
    have q00_ : (((((w11.setCell ⟨w3.heap.size, 0, none⟩ (.bool false)).setCell ⟨w3.heap.size, 1, none⟩ (.slice none 0 0)).setCell ⟨w3.heap.size + 1, 0, none⟩ (.bool false)).setCell ⟨w3.heap.size + 1, 1, none⟩ (.slice none 0 0))).cell? ⟨w.heap.size, 0, none⟩ = some (.bool s0) := (set2_far (by omega)).trans ((set2_far (by omega)).trans q00)
    have q01_ : (((((w11.setCell ⟨w3.heap.size, 0, none⟩ (.bool false)).setCell ⟨w3.heap.size, 1, none⟩ (.slice none 0 0)).setCell ⟨w3.heap.size + 1, 0, none⟩ (.bool false)).setCell ⟨w3.heap.size + 1, 1, none⟩ (.slice none 0 0))).cell? ⟨w.heap.size, 1, none⟩ = some (.slice a0 len0 cap0) := (set2_far (by omega)).trans ((set2_far (by omega)).trans q01)
    have q10_ : (((((w11.setCell ⟨w3.heap.size, 0, none⟩ (.bool false)).setCell ⟨w3.heap.size, 1, none⟩ (.slice none 0 0)).setCell ⟨w3.heap.size + 1, 0, none⟩ (.bool false)).setCell ⟨w3.heap.size + 1, 1, none⟩ (.slice none 0 0))).cell? ⟨w.heap.size + 1, 0, none⟩ = some (.bool s1) := (set2_far (by omega)).trans ((set2_far (by omega)).trans q10)
    have q11_ : (((((w11.setCell ⟨w3.heap.size, 0, none⟩ (.bool false)).setCell ⟨w3.heap.size, 1, none⟩ (.slice none 0 0)).setCell ⟨w3.heap.size + 1, 0, none⟩ (.bool false)).setCell ⟨w3.heap.size + 1, 1, none⟩ (.slice none 0 0))).cell? ⟨w.heap.size + 1, 1, none⟩ = some (.slice a1 len1 cap1) := (set2_far (by omega)).trans ((set2_far (by omega)).trans q11)
    have l300_ : (((((w11.setCell ⟨w3.heap.size, 0, none⟩ (.bool false)).setCell ⟨w3.heap.size, 1, none⟩ (.slice none 0 0)).setCell ⟨w3.heap.size + 1, 0, none⟩ (.bool false)).setCell ⟨w3.heap.size + 1, 1, none⟩ (.slice none 0 0))).cell? ⟨w3.heap.size, 0, none⟩ = some (.bool false) := (set2_far (by omega)).trans e0.1
    have l301_ : (((((w11.setCell ⟨w3.heap.size, 0, none⟩ (.bool false)).setCell ⟨w3.heap.size, 1, none⟩ (.slice none 0 0)).setCell ⟨w3.heap.size + 1, 0, none⟩ (.bool false)).setCell ⟨w3.heap.size + 1, 1, none⟩ (.slice none 0 0))).cell? ⟨w3.heap.size, 1, none⟩ = some (.slice none 0 0) := (set2_far (by omega)).trans e0.2
    have l310_ : (((((w11.setCell ⟨w3.heap.size, 0, none⟩ (.bool false)).setCell ⟨w3.heap.size, 1, none⟩ (.slice none 0 0)).setCell ⟨w3.heap.size + 1, 0, none⟩ (.bool false)).setCell ⟨w3.heap.size + 1, 1, none⟩ (.slice none 0 0))).cell? ⟨w3.heap.size + 1, 0, none⟩ = some (.bool false) := e1.1
    have l311_ : (((((w11.setCell ⟨w3.heap.size, 0, none⟩ (.bool false)).setCell ⟨w3.heap.size, 1, none⟩ (.slice none 0 0)).setCell ⟨w3.heap.size + 1, 0, none⟩ (.bool false)).setCell ⟨w3.heap.size + 1, 1, none⟩ (.slice none 0 0))).cell? ⟨w3.heap.size + 1, 1, none⟩ = some (.slice none 0 0) := e1.2
    have l400_ : (((((w11.setCell ⟨w3.heap.size, 0, none⟩ (.bool false)).setCell ⟨w3.heap.size, 1, none⟩ (.slice none 0 0)).setCell ⟨w3.heap.size + 1, 0, none⟩ (.bool false)).setCell ⟨w3.heap.size + 1, 1, none⟩ (.slice none 0 0))).cell? ⟨w4.heap.size, 0, none⟩ = some (.bool false) := (set2_far (by omega)).trans ((set2_far (by omega)).trans l400)
    have l401_ : (((((w11.setCell ⟨w3.heap.size, 0, none⟩ (.bool false)).setCell ⟨w3.heap.size, 1, none⟩ (.slice none 0 0)).setCell ⟨w3.heap.size + 1, 0, none⟩ (.bool false)).setCell ⟨w3.heap.size + 1, 1, none⟩ (.slice none 0 0))).cell? ⟨w4.heap.size, 1, none⟩ = some (.slice none 0 0) := (set2_far (by omega)).trans ((set2_far (by omega)).trans l401)
    have l410_ : (((((w11.setCell ⟨w3.heap.size, 0, none⟩ (.bool false)).setCell ⟨w3.heap.size, 1, none⟩ (.slice none 0 0)).setCell ⟨w3.heap.size + 1, 0, none⟩ (.bool false)).setCell ⟨w3.heap.size + 1, 1, none⟩ (.slice none 0 0))).cell? ⟨w4.heap.size + 1, 0, none⟩ = some (.bool false) := (set2_far (by omega)).trans ((set2_far (by omega)).trans l410)
    have l411_ : (((((w11.setCell ⟨w3.heap.size, 0, none⟩ (.bool false)).setCell ⟨w3.heap.size, 1, none⟩ (.slice none 0 0)).setCell ⟨w3.heap.size + 1, 0, none⟩ (.bool false)).setCell ⟨w3.heap.size + 1, 1, none⟩ (.slice none 0 0))).cell? ⟨w4.heap.size + 1, 1, none⟩ = some (.slice none 0 0) := (set2_far (by omega)).trans ((set2_far (by omega)).trans l411)
    have hL30_ := (((hL30.setCell ⟨w3.heap.size, 0, none⟩ (.bool false)).setCell ⟨w3.heap.size, 1, none⟩ (.slice none 0 0)).setCell ⟨w3.heap.size + 1, 0, none⟩ (.bool false)).setCell ⟨w3.heap.size + 1, 1, none⟩ (.slice none 0 0)
    have hL31_ := (((hL31.setCell ⟨w3.heap.size, 0, none⟩ (.bool false)).setCell ⟨w3.heap.size, 1, none⟩ (.slice none 0 0)).setCell ⟨w3.heap.size + 1, 0, none⟩ (.bool false)).setCell ⟨w3.heap.size + 1, 1, none⟩ (.slice none 0 0)
    have hL40_ := (((hL40.setCell ⟨w3.heap.size, 0, none⟩ (.bool false)).setCell ⟨w3.heap.size, 1, none⟩ (.slice none 0 0)).setCell ⟨w3.heap.size + 1, 0, none⟩ (.bool false)).setCell ⟨w3.heap.size + 1, 1, none⟩ (.slice none 0 0)
    have hL41_ := (((hL41.setCell ⟨w3.heap.size, 0, none⟩ (.bool false)).setCell ⟨w3.heap.size, 1, none⟩ (.slice none 0 0)).setCell ⟨w3.heap.size + 1, 0, none⟩ (.bool false)).setCell ⟨w3.heap.size + 1, 1, none⟩ (.slice none 0 0)
    replace hBW := hBW.trans (hM.below hBW.size)
    replace hLs := Nat.le_trans hLs hM.size
    clear hM e0 e1
    go_wp2_with fail
    clear q00 q01 q10 q11 l300 l301 l310 l311 l400 l401 l410 l411 hL30 hL31 hL40 hL41 fzhL30 fzhL31 fzhL40 fzhL41
    generalize ((((w11.setCell ⟨w3.heap.size, 0, none⟩ (.bool false)).setCell ⟨w3.heap.size, 1, none⟩ (.slice none 0 0)).setCell ⟨w3.heap.size + 1, 0, none⟩ (.bool false)).setCell ⟨w3.heap.size + 1, 1, none⟩ (.slice none 0 0)) = w11y at q00_ q01_ q10_ q11_ l300_ l301_ l310_ l311_ l400_ l401_ l410_ l411_ hL30_ hL31_ hL40_ hL41_ hBW hLs ⊢
    have q00 := q00_
    clear q00_
    have q01 := q01_
    clear q01_
    have q10 := q10_
    clear q10_
    have q11 := q11_
    clear q11_
    have l300 := l300_
    clear l300_
    have l301 := l301_
    clear l301_
    have l310 := l310_
    clear l310_
    have l311 := l311_
    clear l311_
    have l400 := l400_
    clear l400_
    have l401 := l401_
    clear l401_
    have l410 := l410_
    clear l410_
    have l411 := l411_
    clear l411_
    have hL30 := hL30_
    clear hL30_
    have hL31 := hL31_
    clear hL31_
    have hL40 := hL40_
    clear hL40_
    have hL41 := hL41_
    clear hL41_
    refine (vEuclid_zero s0 a0 len0 cap0 X0 s1 a1 len1 cap1 _ (by omega) (sb hS1 hB hBW)).mono ?_
    rintro e w12 ⟨rfl, b12⟩
    replace hBW := hBW.trans (b12.mono hBW.size)
    replace q00 := below_cell b12 q00
    replace q01 := below_cell b12 q01
    replace q10 := below_cell b12 q10
    replace q11 := below_cell b12 q11
    replace l300 := below_cell b12 l300
    replace l301 := below_cell b12 l301
    replace l310 := below_cell b12 l310
    replace l311 := below_cell b12 l311
    replace l400 := below_cell b12 l400
    replace l401 := below_cell b12 l401
    replace l410 := below_cell b12 l410
    replace l411 := below_cell b12 l411
    replace hL30 := below_row b12 hL30
    replace hL31 := below_row b12 hL31
    replace hL40 := below_row b12 hL40
    replace hL41 := below_row b12 hL41
    replace hLs := Nat.le_trans hLs b12.size
    have fzhL30 := fun o => hL30.frozen o
    have fzhL31 := fun o => hL31.frozen o
    have fzhL40 := fun o => hL40.frozen o
    have fzhL41 := fun o => hL41.frozen o
    have hM : Mid W.heap.size w4x.heap.size w12 ((((w12.setCell ⟨w4.heap.size, 0, none⟩ (.bool false)).setCell ⟨w4.heap.size, 1, none⟩ (.slice none 0 0)).setCell ⟨w4.heap.size + 1, 0, none⟩ (.bool false)).setCell ⟨w4.heap.size + 1, 1, none⟩ (.slice none 0 0)) := ((((Mid.refl _ _ _).set _ _ (by omega) (by omega) _).set _ _ (by omega) (by omega) _).set _ _ (by omega) (by omega) _).set _ _ (by omega) (by omega) _
    have e0 := set2_same (w := w12) (u := .bool false) (v := .slice none 0 0) l400 l401
    have e1 := set2_same (w := ((w12.setCell ⟨w4.heap.size, 0, none⟩ (.bool false)).setCell ⟨w4.heap.size, 1, none⟩ (.slice none 0 0))) (c := w4.heap.size + 1) (u := .bool false) (v := .slice none 0 0) ((set2_far (by omega)).trans l410) ((set2_far (by omega)).trans l411)
    have q00_ : (((((w12.setCell ⟨w4.heap.size, 0, none⟩ (.bool false)).setCell ⟨w4.heap.size, 1, none⟩ (.slice none 0 0)).setCell ⟨w4.heap.size + 1, 0, none⟩ (.bool false)).setCell ⟨w4.heap.size + 1, 1, none⟩ (.slice none 0 0))).cell? ⟨w.heap.size, 0, none⟩ = some (.bool s0) := (set2_far (by omega)).trans ((set2_far (by omega)).trans q00)
    have q01_ : (((((w12.setCell ⟨w4.heap.size, 0, none⟩ (.bool false)).setCell ⟨w4.heap.size, 1, none⟩ (.slice none 0 0)).setCell ⟨w4.heap.size + 1, 0, none⟩ (.bool false)).setCell ⟨w4.heap.size + 1, 1, none⟩ (.slice none 0 0))).cell? ⟨w.heap.size, 1, none⟩ = some (.slice a0 len0 cap0) := (set2_far (by omega)).trans ((set2_far (by omega)).trans q01)
    have q10_ : (((((w12.setCell ⟨w4.heap.size, 0, none⟩ (.bool false)).setCell ⟨w4.heap.size, 1, none⟩ (.slice none 0 0)).setCell ⟨w4.heap.size + 1, 0, none⟩ (.bool false)).setCell ⟨w4.heap.size + 1, 1, none⟩ (.slice none 0 0))).cell? ⟨w.heap.size + 1, 0, none⟩ = some (.bool s1) := (set2_far (by omega)).trans ((set2_far (by omega)).trans q10)
    have q11_ : (((((w12.setCell ⟨w4.heap.size, 0, none⟩ (.bool false)).setCell ⟨w4.heap.size, 1, none⟩ (.slice none 0 0)).setCell ⟨w4.heap.size + 1, 0, none⟩ (.bool false)).setCell ⟨w4.heap.size + 1, 1, none⟩ (.slice none 0 0))).cell? ⟨w.heap.size + 1, 1, none⟩ = some (.slice a1 len1 cap1) := (set2_far (by omega)).trans ((set2_far (by omega)).trans q11)
    have l300_ : (((((w12.setCell ⟨w4.heap.size, 0, none⟩ (.bool false)).setCell ⟨w4.heap.size, 1, none⟩ (.slice none 0 0)).setCell ⟨w4.heap.size + 1, 0, none⟩ (.bool false)).setCell ⟨w4.heap.size + 1, 1, none⟩ (.slice none 0 0))).cell? ⟨w3.heap.size, 0, none⟩ = some (.bool false) := (set2_far (by omega)).trans ((set2_far (by omega)).trans l300)
    have l301_ : (((((w12.setCell ⟨w4.heap.size, 0, none⟩ (.bool false)).setCell ⟨w4.heap.size, 1, none⟩ (.slice none 0 0)).setCell ⟨w4.heap.size + 1, 0, none⟩ (.bool false)).setCell ⟨w4.heap.size + 1, 1, none⟩ (.slice none 0 0))).cell? ⟨w3.heap.size, 1, none⟩ = some (.slice none 0 0) := (set2_far (by omega)).trans ((set2_far (by omega)).trans l301)
    have l310_ : (((((w12.setCell ⟨w4.heap.size, 0, none⟩ (.bool false)).setCell ⟨w4.heap.size, 1, none⟩ (.slice none 0 0)).setCell ⟨w4.heap.size + 1, 0, none⟩ (.bool false)).setCell ⟨w4.heap.size + 1, 1, none⟩ (.slice none 0 0))).cell? ⟨w3.heap.size + 1, 0, none⟩ = some (.bool false) := (set2_far (by omega)).trans ((set2_far (by omega)).trans l310)
    have l311_ : (((((w12.setCell ⟨w4.heap.size, 0, none⟩ (.bool false)).setCell ⟨w4.heap.size, 1, none⟩ (.slice none 0 0)).setCell ⟨w4.heap.size + 1, 0, none⟩ (.bool false)).setCell ⟨w4.heap.size + 1, 1, none⟩ (.slice none 0 0))).cell? ⟨w3.heap.size + 1, 1, none⟩ = some (.slice none 0 0) := (set2_far (by omega)).trans ((set2_far (by omega)).trans l311)
    have l400_ : (((((w12.setCell ⟨w4.heap.size, 0, none⟩ (.bool false)).setCell ⟨w4.heap.size, 1, none⟩ (.slice none 0 0)).setCell ⟨w4.heap.size + 1, 0, none⟩ (.bool false)).setCell ⟨w4.heap.size + 1, 1, none⟩ (.slice none 0 0))).cell? ⟨w4.heap.size, 0, none⟩ = some (.bool false) := (set2_far (by omega)).trans e0.1
    have l401_ : (((((w12.setCell ⟨w4.heap.size, 0, none⟩ (.bool false)).setCell ⟨w4.heap.size, 1, none⟩ (.slice none 0 0)).setCell ⟨w4.heap.size + 1, 0, none⟩ (.bool false)).setCell ⟨w4.heap.size + 1, 1, none⟩ (.slice none 0 0))).cell? ⟨w4.heap.size, 1, none⟩ = some (.slice none 0 0) := (set2_far (by omega)).trans e0.2
    have l410_ : (((((w12.setCell ⟨w4.heap.size, 0, none⟩ (.bool false)).setCell ⟨w4.heap.size, 1, none⟩ (.slice none 0 0)).setCell ⟨w4.heap.size + 1, 0, none⟩ (.bool false)).setCell ⟨w4.heap.size + 1, 1, none⟩ (.slice none 0 0))).cell? ⟨w4.heap.size + 1, 0, none⟩ = some (.bool false) := e1.1
    have l411_ : (((((w12.setCell ⟨w4.heap.size, 0, none⟩ (.bool false)).setCell ⟨w4.heap.size, 1, none⟩ (.slice none 0 0)).setCell ⟨w4.heap.size + 1, 0, none⟩ (.bool false)).setCell ⟨w4.heap.size + 1, 1, none⟩ (.slice none 0 0))).cell? ⟨w4.heap.size + 1, 1, none⟩ = some (.slice none 0 0) := e1.2
    have hL30_ := (((hL30.setCell ⟨w4.heap.size, 0, none⟩ (.bool false)).setCell ⟨w4.heap.size, 1, none⟩ (.slice none 0 0)).setCell ⟨w4.heap.size + 1, 0, none⟩ (.bool false)).setCell ⟨w4.heap.size + 1, 1, none⟩ (.slice none 0 0)
    have hL31_ := (((hL31.setCell ⟨w4.heap.size, 0, none⟩ (.bool false)).setCell ⟨w4.heap.size, 1, none⟩ (.slice none 0 0)).setCell ⟨w4.heap.size + 1, 0, none⟩ (.bool false)).setCell ⟨w4.heap.size + 1, 1, none⟩ (.slice none 0 0)
    have hL40_ := (((hL40.setCell ⟨w4.heap.size, 0, none⟩ (.bool false)).setCell ⟨w4.heap.size, 1, none⟩ (.slice none 0 0)).setCell ⟨w4.heap.size + 1, 0, none⟩ (.bool false)).setCell ⟨w4.heap.size + 1, 1, none⟩ (.slice none 0 0)
    have hL41_ := (((hL41.setCell ⟨w4.heap.size, 0, none⟩ (.bool false)).setCell ⟨w4.heap.size, 1, none⟩ (.slice none 0 0)).setCell ⟨w4.heap.size + 1, 0, none⟩ (.bool false)).setCell ⟨w4.heap.size + 1, 1, none⟩ (.slice none 0 0)
    replace hBW := hBW.trans (hM.below hBW.size)
    replace hLs := Nat.le_trans hLs hM.size
    clear hM e0 e1
    go_wp2_with fail
    clear q00 q01 q10 q11 l300 l301 l310 l311 l400 l401 l410 l411 hL30 hL31 hL40 hL41 fzhL30 fzhL31 fzhL40 fzhL41
    generalize ((((w12.setCell ⟨w4.heap.size, 0, none⟩ (.bool false)).setCell ⟨w4.heap.size, 1, none⟩ (.slice none 0 0)).setCell ⟨w4.heap.size + 1, 0, none⟩ (.bool false)).setCell ⟨w4.heap.size + 1, 1, none⟩ (.slice none 0 0)) = w12y at q00_ q01_ q10_ q11_ l300_ l301_ l310_ l311_ l400_ l401_ l410_ l411_ hL30_ hL31_ hL40_ hL41_ hBW hLs ⊢
    have q00 := q00_
    clear q00_
    have q01 := q01_
    clear q01_
    have q10 := q10_
    clear q10_
    have q11 := q11_
    clear q11_
    have l300 := l300_
    clear l300_
    have l301 := l301_
    clear l301_
    have l310 := l310_
    clear l310_
    have l311 := l311_
    clear l311_
    have l400 := l400_
    clear l400_
    have l401 := l401_
    clear l401_
    have l410 := l410_
    clear l410_
    have l411 := l411_
    clear l411_
    have hL30 := hL30_
    clear hL30_
    have hL31 := hL31_
    clear hL31_
    have hL40 := hL40_
    clear hL40_
    have hL41 := hL41_
    clear hL41_
    refine (same0 _).mono ?_
    rintro e w13 ⟨rfl, b13⟩
    replace hBW := hBW.trans (b13.mono hBW.size)
    replace q00 := below_cell b13 q00
    replace q01 := below_cell b13 q01
    replace q10 := below_cell b13 q10
    replace q11 := below_cell b13 q11
    replace l300 := below_cell b13 l300
    replace l301 := below_cell b13 l301
    replace l310 := below_cell b13 l310
    replace l311 := below_cell b13 l311
    replace l400 := below_cell b13 l400
    replace l401 := below_cell b13 l401
    replace l410 := below_cell b13 l410
    replace l411 := below_cell b13 l411
    replace hL30 := below_row b13 hL30
    replace hL31 := below_row b13 hL31
    replace hL40 := below_row b13 hL40
    replace hL41 := below_row b13 hL41
    replace hLs := Nat.le_trans hLs b13.size
    go_wp2_with fail
    refine (same0 _).mono ?_
    rintro e w14 ⟨rfl, b14⟩
    replace hBW := hBW.trans (b14.mono hBW.size)
    replace q00 := below_cell b14 q00
    replace q01 := below_cell b14 q01
    replace q10 := below_cell b14 q10
    replace q11 := below_cell b14 q11
    replace l300 := below_cell b14 l300
    replace l301 := below_cell b14 l301
    replace l310 := below_cell b14 l310
    replace l311 := below_cell b14 l311
    replace l400 := below_cell b14 l400
    replace l401 := below_cell b14 l401
    replace l410 := below_cell b14 l410
    replace l411 := below_cell b14 l411
    replace hL30 := below_row b14 hL30
    replace hL31 := below_row b14 hL31
    replace hL40 := below_row b14 hL40
    replace hL41 := below_row b14 hL41
    replace hLs := Nat.le_trans hLs b14.size
    go_wp2
    go_ret
    exact ⟨rfl, hB.trans (hBW.mono hB.size)⟩
  · obtain ⟨Zq, Zr, r1, q1, K1, V1⟩ := quo2 s0 a0 len0 cap0 X0 s1 a1 len1 cap1 X1 hc0 (by omega) hc1 (by omega) hX1
    obtain ⟨Zs, Zt, r2, q2, K2, V2⟩ := floor2 s0 a0 len0 cap0 X0 s1 a1 len1 cap1 X1 hc0 (by omega) hc1 (by omega) hX1
    obtain ⟨Zu, Zv, r3, q3, K3, V3⟩ := euclid2 s0 a0 len0 cap0 X0 s1 a1 len1 cap1 X1 hc0 (by omega) hc1 (by omega) hX1 hS0.1 hS1.1
    have lr1 : ln (am Zr) ≤ 35184372087809 := ln_of_le (Nat.le_of_lt r1) hS1.1 (by omega)
    have lr2 : ln (am Zt) ≤ 35184372087809 := ln_of_le r2 (lnY hS1.1) (by omega)
    have lr3 : ln (am Zv) ≤ 35184372087809 := ln_of_le (Nat.le_of_lt r3) hS1.1 (by omega)
    have lq1 : ln (am Zq) ≤ 35184372087809 := ln_of_le (Nat.le_trans q1 (Nat.le_add_right _ 2)) (lnX hS0.1 (Nat.le_refl 2)) (by omega)
    have lq2 : ln (am Zs) ≤ 35184372087809 := ln_of_le q2 (lnX hS0.1 (by omega)) (by omega)
    have lq3 : ln (am Zu) ≤ 35184372087809 := ln_of_le q3 (lnX hS0.1 (Nat.le_refl 2)) (by omega)
    have HK1 := hide' K1
    have HV1 := hide' V1
    have HK2 := hide' K2
    have HV2 := hide' V2
    have HK3 := hide' K3
    have HV3 := hide' V3
    clear K1 V1 K2 V2 K3 V3 r1 q1 r2 q2 r3 q3 hX1
    go_enter Try.func5, Try.ntmps5
    go_wp2_with fail
    have q00 : (((w.alloc (.cells #[.bool s0, .slice a0 len0 cap0] 25)).alloc (.cells #[.bool s1, .slice a1 len1 cap1] 25))).cell? ⟨w.heap.size, 0, none⟩ = some (.bool s0) := by go_simp
    have q01 : (((w.alloc (.cells #[.bool s0, .slice a0 len0 cap0] 25)).alloc (.cells #[.bool s1, .slice a1 len1 cap1] 25))).cell? ⟨w.heap.size, 1, none⟩ = some (.slice a0 len0 cap0) := by go_simp
    have q10 : (((w.alloc (.cells #[.bool s0, .slice a0 len0 cap0] 25)).alloc (.cells #[.bool s1, .slice a1 len1 cap1] 25))).cell? ⟨w.heap.size + 1, 0, none⟩ = some (.bool s1) := by go_simp
    have q11 : (((w.alloc (.cells #[.bool s0, .slice a0 len0 cap0] 25)).alloc (.cells #[.bool s1, .slice a1 len1 cap1] 25))).cell? ⟨w.heap.size + 1, 1, none⟩ = some (.slice a1 len1 cap1) := by go_simp
    have hB : Below w.heap.size w (((w.alloc (.cells #[.bool s0, .slice a0 len0 cap0] 25)).alloc (.cells #[.bool s1, .slice a1 len1 cap1] 25))) := (((Below.refl _ _).alloc (by (try simp only [World.size_alloc]); omega) _).alloc (by (try simp only [World.size_alloc]); omega) _)
    have hz : (((w.alloc (.cells #[.bool s0, .slice a0 len0 cap0] 25)).alloc (.cells #[.bool s1, .slice a1 len1 cap1] 25))).heap.size = w.heap.size + 1 + 1 := by simp only [World.size_alloc]
    generalize ((w.alloc (.cells #[.bool s0, .slice a0 len0 cap0] 25)).alloc (.cells #[.bool s1, .slice a1 len1 cap1] 25)) = W at q00 q01 q10 q11 hB hz ⊢
    have hBW : Below W.heap.size W W := Below.refl _ _
    refine (HK1.out _ (sb hS0 hB hBW) (sb hS1 hB hBW)).mono ?_
    rintro e w3 ⟨a3, c3, rfl, h3, g3⟩
    have b3 := h3.below
    replace h3 := h3.back hBW
    replace g3 := g3.back hBW
    replace hBW := hBW.trans (b3.mono hBW.size)
    replace q00 := below_cell b3 q00
    replace q01 := below_cell b3 q01
    replace q10 := below_cell b3 q10
    replace q11 := below_cell b3 q11
    have l300 : (((w3.alloc (.cells #[.bool (ng Zq), .slice a3 (ln (am Zq)) (ln (am Zq))] 25)).alloc (.cells #[.bool (ng Zr), .slice c3 (ln (am Zr)) (ln (am Zr))] 25))).cell? ⟨w3.heap.size, 0, none⟩ = some (.bool (ng Zq)) := by go_simp
    have l301 : (((w3.alloc (.cells #[.bool (ng Zq), .slice a3 (ln (am Zq)) (ln (am Zq))] 25)).alloc (.cells #[.bool (ng Zr), .slice c3 (ln (am Zr)) (ln (am Zr))] 25))).cell? ⟨w3.heap.size, 1, none⟩ = some (.slice a3 (ln (am Zq)) (ln (am Zq))) := by go_simp
    have l310 : (((w3.alloc (.cells #[.bool (ng Zq), .slice a3 (ln (am Zq)) (ln (am Zq))] 25)).alloc (.cells #[.bool (ng Zr), .slice c3 (ln (am Zr)) (ln (am Zr))] 25))).cell? ⟨w3.heap.size + 1, 0, none⟩ = some (.bool (ng Zr)) := by go_simp
    have l311 : (((w3.alloc (.cells #[.bool (ng Zq), .slice a3 (ln (am Zq)) (ln (am Zq))] 25)).alloc (.cells #[.bool (ng Zr), .slice c3 (ln (am Zr)) (ln (am Zr))] 25))).cell? ⟨w3.heap.size + 1, 1, none⟩ = some (.slice c3 (ln (am Zr)) (ln (am Zr))) := by go_simp
    have cb3 : Below w3.heap.size w3 (((w3.alloc (.cells #[.bool (ng Zq), .slice a3 (ln (am Zq)) (ln (am Zq))] 25)).alloc (.cells #[.bool (ng Zr), .slice c3 (ln (am Zr)) (ln (am Zr))] 25))) := (((Below.refl _ _).alloc (by (try simp only [World.size_alloc]); omega) _).alloc (by (try simp only [World.size_alloc]); omega) _)
    replace hBW := hBW.trans (cb3.mono hBW.size)
    replace q00 := below_cell cb3 q00
    replace q01 := below_cell cb3 q01
    replace q10 := below_cell cb3 q10
    replace q11 := below_cell cb3 q11
    replace h3 := h3.later cb3
    replace g3 := g3.later cb3
    have hL30 : Row (((w3.alloc (.cells #[.bool (ng Zq), .slice a3 (ln (am Zq)) (ln (am Zq))] 25)).alloc (.cells #[.bool (ng Zr), .slice c3 (ln (am Zr)) (ln (am Zr))] 25))) (w3.heap.size) := by
      have := row_new (w3) #[.bool (ng Zq), .slice a3 (ln (am Zq)) (ln (am Zq))] 25
      try simp only [World.size_alloc] at this
      exact (this.alloc _)
    have hL31 : Row (((w3.alloc (.cells #[.bool (ng Zq), .slice a3 (ln (am Zq)) (ln (am Zq))] 25)).alloc (.cells #[.bool (ng Zr), .slice c3 (ln (am Zr)) (ln (am Zr))] 25))) (w3.heap.size + 1) := by
      have := row_new ((w3.alloc (.cells #[.bool (ng Zq), .slice a3 (ln (am Zq)) (ln (am Zq))] 25))) #[.bool (ng Zr), .slice c3 (ln (am Zr)) (ln (am Zr))] 25
      try simp only [World.size_alloc] at this
      exact this
    go_wp2_with fail
    generalize ((w3.alloc (.cells #[.bool (ng Zq), .slice a3 (ln (am Zq)) (ln (am Zq))] 25)).alloc (.cells #[.bool (ng Zr), .slice c3 (ln (am Zr)) (ln (am Zr))] 25)) = w3x at q00 q01 q10 q11 l300 l301 l310 l311 hL30 hL31 h3 g3 hBW cb3 ⊢
    clear cb3
    have hs4 := hL31.lt
    refine (HV1.out _ (sb hS0 hB hBW) (sb hS1 hB hBW)).mono ?_
    rintro e w4 ⟨a4, c4, rfl, h4, g4⟩
    have b4 := h4.below
    replace h4 := h4.back hBW
    replace g4 := g4.back hBW
    replace hBW := hBW.trans (b4.mono hBW.size)
    replace q00 := below_cell b4 q00
    replace q01 := below_cell b4 q01
    replace q10 := below_cell b4 q10
    replace q11 := below_cell b4 q11
    replace l300 := below_cell b4 l300
    replace l301 := below_cell b4 l301
    replace l310 := below_cell b4 l310
    replace l311 := below_cell b4 l311
    replace hL30 := below_row b4 hL30
    replace hL31 := below_row b4 hL31
    replace h3 := h3.later b4
    replace g3 := g3.later b4
    have l400 : (((w4.alloc (.cells #[.bool (ng Zq), .slice a4 (ln (am Zq)) (ln (am Zq))] 25)).alloc (.cells #[.bool (ng Zr), .slice c4 (ln (am Zr)) (ln (am Zr))] 25))).cell? ⟨w4.heap.size, 0, none⟩ = some (.bool (ng Zq)) := by go_simp
    have l401 : (((w4.alloc (.cells #[.bool (ng Zq), .slice a4 (ln (am Zq)) (ln (am Zq))] 25)).alloc (.cells #[.bool (ng Zr), .slice c4 (ln (am Zr)) (ln (am Zr))] 25))).cell? ⟨w4.heap.size, 1, none⟩ = some (.slice a4 (ln (am Zq)) (ln (am Zq))) := by go_simp
    have l410 : (((w4.alloc (.cells #[.bool (ng Zq), .slice a4 (ln (am Zq)) (ln (am Zq))] 25)).alloc (.cells #[.bool (ng Zr), .slice c4 (ln (am Zr)) (ln (am Zr))] 25))).cell? ⟨w4.heap.size + 1, 0, none⟩ = some (.bool (ng Zr)) := by go_simp
    have l411 : (((w4.alloc (.cells #[.bool (ng Zq), .slice a4 (ln (am Zq)) (ln (am Zq))] 25)).alloc (.cells #[.bool (ng Zr), .slice c4 (ln (am Zr)) (ln (am Zr))] 25))).cell? ⟨w4.heap.size + 1, 1, none⟩ = some (.slice c4 (ln (am Zr)) (ln (am Zr))) := by go_simp
    have cb4 : Below w4.heap.size w4 (((w4.alloc (.cells #[.bool (ng Zq), .slice a4 (ln (am Zq)) (ln (am Zq))] 25)).alloc (.cells #[.bool (ng Zr), .slice c4 (ln (am Zr)) (ln (am Zr))] 25))) := (((Below.refl _ _).alloc (by (try simp only [World.size_alloc]); omega) _).alloc (by (try simp only [World.size_alloc]); omega) _)
    replace hBW := hBW.trans (cb4.mono hBW.size)
    replace q00 := below_cell cb4 q00
    replace q01 := below_cell cb4 q01
    replace q10 := below_cell cb4 q10
    replace q11 := below_cell cb4 q11
    replace l300 := below_cell cb4 l300
    replace l301 := below_cell cb4 l301
    replace l310 := below_cell cb4 l310
    replace l311 := below_cell cb4 l311
    replace hL30 := below_row cb4 hL30
    replace hL31 := below_row cb4 hL31
    replace h3 := h3.later cb4
    replace g3 := g3.later cb4
    replace h4 := h4.later cb4
    replace g4 := g4.later cb4
    have hL40 : Row (((w4.alloc (.cells #[.bool (ng Zq), .slice a4 (ln (am Zq)) (ln (am Zq))] 25)).alloc (.cells #[.bool (ng Zr), .slice c4 (ln (am Zr)) (ln (am Zr))] 25))) (w4.heap.size) := by
      have := row_new (w4) #[.bool (ng Zq), .slice a4 (ln (am Zq)) (ln (am Zq))] 25
      try simp only [World.size_alloc] at this
      exact (this.alloc _)
    have hL41 : Row (((w4.alloc (.cells #[.bool (ng Zq), .slice a4 (ln (am Zq)) (ln (am Zq))] 25)).alloc (.cells #[.bool (ng Zr), .slice c4 (ln (am Zr)) (ln (am Zr))] 25))) (w4.heap.size + 1) := by
      have := row_new ((w4.alloc (.cells #[.bool (ng Zq), .slice a4 (ln (am Zq)) (ln (am Zq))] 25))) #[.bool (ng Zr), .slice c4 (ln (am Zr)) (ln (am Zr))] 25
      try simp only [World.size_alloc] at this
      exact this
    go_wp2_with fail
    generalize ((w4.alloc (.cells #[.bool (ng Zq), .slice a4 (ln (am Zq)) (ln (am Zq))] 25)).alloc (.cells #[.bool (ng Zr), .slice c4 (ln (am Zr)) (ln (am Zr))] 25)) = w4x at q00 q01 q10 q11 l300 l301 l310 l311 l400 l401 l410 l411 hL30 hL31 hL40 hL41 h3 g3 h4 g4 hBW cb4 ⊢
    clear cb4
    have hs1 := b3.size
    have hs2 := b4.size
    have hs3 := hL41.lt
    have hLs : w4x.heap.size ≤ w4x.heap.size := Nat.le_refl _
    refine (sameI_is (Zq) a3 a4 _ _ _ (by omega) h3.seg h4.seg).mono ?_
    rintro e w5 ⟨rfl, b5⟩
    replace hBW := hBW.trans (b5.mono hBW.size)
    replace q00 := below_cell b5 q00
    replace q01 := below_cell b5 q01
    replace q10 := below_cell b5 q10
    replace q11 := below_cell b5 q11
    replace l300 := below_cell b5 l300
    replace l301 := below_cell b5 l301
    replace l310 := below_cell b5 l310
    replace l311 := below_cell b5 l311
    replace l400 := below_cell b5 l400
    replace l401 := below_cell b5 l401
    replace l410 := below_cell b5 l410
    replace l411 := below_cell b5 l411
    replace hL30 := below_row b5 hL30
    replace hL31 := below_row b5 hL31
    replace hL40 := below_row b5 hL40
    replace hL41 := below_row b5 hL41
    replace h3 := h3.later b5
    replace g3 := g3.later b5
    replace h4 := h4.later b5
    replace g4 := g4.later b5
    replace hLs := Nat.le_trans hLs b5.size
    go_wp2_with fail
    refine (sameI_is (Zr) c3 c4 _ _ _ (by omega) g3.seg g4.seg).mono ?_
    rintro e w6 ⟨rfl, b6⟩
    replace hBW := hBW.trans (b6.mono hBW.size)
    replace q00 := below_cell b6 q00
    replace q01 := below_cell b6 q01
    replace q10 := below_cell b6 q10
    replace q11 := below_cell b6 q11
    replace l300 := below_cell b6 l300
    replace l301 := below_cell b6 l301
    replace l310 := below_cell b6 l310
    replace l311 := below_cell b6 l311
    replace l400 := below_cell b6 l400
    replace l401 := below_cell b6 l401
    replace l410 := below_cell b6 l410
    replace l411 := below_cell b6 l411
    replace hL30 := below_row b6 hL30
    replace hL31 := below_row b6 hL31
    replace hL40 := below_row b6 hL40
    replace hL41 := below_row b6 hL41
    replace h3 := h3.later b6
    replace g3 := g3.later b6
    replace h4 := h4.later b6
    replace g4 := g4.later b6
    replace hLs := Nat.le_trans hLs b6.size
    clear h3 g3 h4 g4
    go_wp2_with fail
    refine (HK2.out _ (sb hS0 hB hBW) (sb hS1 hB hBW)).mono ?_
    rintro e w7 ⟨a7, c7, rfl, h7, g7⟩
    have b7 := h7.below
    replace h7 := h7.fre.mono hLs
    replace g7 := g7.fre.mono hLs
    replace hBW := hBW.trans (b7.mono hBW.size)
    replace q00 := below_cell b7 q00
    replace q01 := below_cell b7 q01
    replace q10 := below_cell b7 q10
    replace q11 := below_cell b7 q11
    replace l300 := below_cell b7 l300
    replace l301 := below_cell b7 l301
    replace l310 := below_cell b7 l310
    replace l311 := below_cell b7 l311
    replace l400 := below_cell b7 l400
    replace l401 := below_cell b7 l401
    replace l410 := below_cell b7 l410
    replace l411 := below_cell b7 l411
    replace hL30 := below_row b7 hL30
    replace hL31 := below_row b7 hL31
    replace hL40 := below_row b7 hL40
    replace hL41 := below_row b7 hL41
    replace hLs := Nat.le_trans hLs b7.size
    have fzhL30 := fun o => hL30.frozen o
    have fzhL31 := fun o => hL31.frozen o
    have fzhL40 := fun o => hL40.frozen o
    have fzhL41 := fun o => hL41.frozen o
    have hM : Mid W.heap.size w4x.heap.size w7 ((((w7.setCell ⟨w3.heap.size, 0, none⟩ (.bool (ng Zs))).setCell ⟨w3.heap.size, 1, none⟩ (.slice a7 (ln (am Zs)) (ln (am Zs)))).setCell ⟨w3.heap.size + 1, 0, none⟩ (.bool (ng Zt))).setCell ⟨w3.heap.size + 1, 1, none⟩ (.slice c7 (ln (am Zt)) (ln (am Zt)))) := ((((Mid.refl _ _ _).set _ _ (by omega) (by omega) _).set _ _ (by omega) (by omega) _).set _ _ (by omega) (by omega) _).set _ _ (by omega) (by omega) _
    have e0 := set2_same (w := w7) (u := .bool (ng Zs)) (v := .slice a7 (ln (am Zs)) (ln (am Zs))) l300 l301
    have e1 := set2_same (w := ((w7.setCell ⟨w3.heap.size, 0, none⟩ (.bool (ng Zs))).setCell ⟨w3.heap.size, 1, none⟩ (.slice a7 (ln (am Zs)) (ln (am Zs))))) (c := w3.heap.size + 1) (u := .bool (ng Zt)) (v := .slice c7 (ln (am Zt)) (ln (am Zt))) ((set2_far (by omega)).trans l310) ((set2_far (by omega)).trans l311)
    have q00_ : (((((w7.setCell ⟨w3.heap.size, 0, none⟩ (.bool (ng Zs))).setCell ⟨w3.heap.size, 1, none⟩ (.slice a7 (ln (am Zs)) (ln (am Zs)))).setCell ⟨w3.heap.size + 1, 0, none⟩ (.bool (ng Zt))).setCell ⟨w3.heap.size + 1, 1, none⟩ (.slice c7 (ln (am Zt)) (ln (am Zt))))).cell? ⟨w.heap.size, 0, none⟩ = some (.bool s0) := (set2_far (by omega)).trans ((set2_far (by omega)).trans q00)
    have q01_ : (((((w7.setCell ⟨w3.heap.size, 0, none⟩ (.bool (ng Zs))).setCell ⟨w3.heap.size, 1, none⟩ (.slice a7 (ln (am Zs)) (ln (am Zs)))).setCell ⟨w3.heap.size + 1, 0, none⟩ (.bool (ng Zt))).setCell ⟨w3.heap.size + 1, 1, none⟩ (.slice c7 (ln (am Zt)) (ln (am Zt))))).cell? ⟨w.heap.size, 1, none⟩ = some (.slice a0 len0 cap0) := (set2_far (by omega)).trans ((set2_far (by omega)).trans q01)
    have q10_ : (((((w7.setCell ⟨w3.heap.size, 0, none⟩ (.bool (ng Zs))).setCell ⟨w3.heap.size, 1, none⟩ (.slice a7 (ln (am Zs)) (ln (am Zs)))).setCell ⟨w3.heap.size + 1, 0, none⟩ (.bool (ng Zt))).setCell ⟨w3.heap.size + 1, 1, none⟩ (.slice c7 (ln (am Zt)) (ln (am Zt))))).cell? ⟨w.heap.size + 1, 0, none⟩ = some (.bool s1) := (set2_far (by omega)).trans ((set2_far (by omega)).trans q10)
    have q11_ : (((((w7.setCell ⟨w3.heap.size, 0, none⟩ (.bool (ng Zs))).setCell ⟨w3.heap.size, 1, none⟩ (.slice a7 (ln (am Zs)) (ln (am Zs)))).setCell ⟨w3.heap.size + 1, 0, none⟩ (.bool (ng Zt))).setCell ⟨w3.heap.size + 1, 1, none⟩ (.slice c7 (ln (am Zt)) (ln (am Zt))))).cell? ⟨w.heap.size + 1, 1, none⟩ = some (.slice a1 len1 cap1) := (set2_far (by omega)).trans ((set2_far (by omega)).trans q11)
    have l300_ : (((((w7.setCell ⟨w3.heap.size, 0, none⟩ (.bool (ng Zs))).setCell ⟨w3.heap.size, 1, none⟩ (.slice a7 (ln (am Zs)) (ln (am Zs)))).setCell ⟨w3.heap.size + 1, 0, none⟩ (.bool (ng Zt))).setCell ⟨w3.heap.size + 1, 1, none⟩ (.slice c7 (ln (am Zt)) (ln (am Zt))))).cell? ⟨w3.heap.size, 0, none⟩ = some (.bool (ng Zs)) := (set2_far (by omega)).trans e0.1
    have l301_ : (((((w7.setCell ⟨w3.heap.size, 0, none⟩ (.bool (ng Zs))).setCell ⟨w3.heap.size, 1, none⟩ (.slice a7 (ln (am Zs)) (ln (am Zs)))).setCell ⟨w3.heap.size + 1, 0, none⟩ (.bool (ng Zt))).setCell ⟨w3.heap.size + 1, 1, none⟩ (.slice c7 (ln (am Zt)) (ln (am Zt))))).cell? ⟨w3.heap.size, 1, none⟩ = some (.slice a7 (ln (am Zs)) (ln (am Zs))) := (set2_far (by omega)).trans e0.2
    have l310_ : (((((w7.setCell ⟨w3.heap.size, 0, none⟩ (.bool (ng Zs))).setCell ⟨w3.heap.size, 1, none⟩ (.slice a7 (ln (am Zs)) (ln (am Zs)))).setCell ⟨w3.heap.size + 1, 0, none⟩ (.bool (ng Zt))).setCell ⟨w3.heap.size + 1, 1, none⟩ (.slice c7 (ln (am Zt)) (ln (am Zt))))).cell? ⟨w3.heap.size + 1, 0, none⟩ = some (.bool (ng Zt)) := e1.1
    have l311_ : (((((w7.setCell ⟨w3.heap.size, 0, none⟩ (.bool (ng Zs))).setCell ⟨w3.heap.size, 1, none⟩ (.slice a7 (ln (am Zs)) (ln (am Zs)))).setCell ⟨w3.heap.size + 1, 0, none⟩ (.bool (ng Zt))).setCell ⟨w3.heap.size + 1, 1, none⟩ (.slice c7 (ln (am Zt)) (ln (am Zt))))).cell? ⟨w3.heap.size + 1, 1, none⟩ = some (.slice c7 (ln (am Zt)) (ln (am Zt))) := e1.2
    have l400_ : (((((w7.setCell ⟨w3.heap.size, 0, none⟩ (.bool (ng Zs))).setCell ⟨w3.heap.size, 1, none⟩ (.slice a7 (ln (am Zs)) (ln (am Zs)))).setCell ⟨w3.heap.size + 1, 0, none⟩ (.bool (ng Zt))).setCell ⟨w3.heap.size + 1, 1, none⟩ (.slice c7 (ln (am Zt)) (ln (am Zt))))).cell? ⟨w4.heap.size, 0, none⟩ = some (.bool (ng Zq)) := (set2_far (by omega)).trans ((set2_far (by omega)).trans l400)
    have l401_ : (((((w7.setCell ⟨w3.heap.size, 0, none⟩ (.bool (ng Zs))).setCell ⟨w3.heap.size, 1, none⟩ (.slice a7 (ln (am Zs)) (ln (am Zs)))).setCell ⟨w3.heap.size + 1, 0, none⟩ (.bool (ng Zt))).setCell ⟨w3.heap.size + 1, 1, none⟩ (.slice c7 (ln (am Zt)) (ln (am Zt))))).cell? ⟨w4.heap.size, 1, none⟩ = some (.slice a4 (ln (am Zq)) (ln (am Zq))) := (set2_far (by omega)).trans ((set2_far (by omega)).trans l401)
    have l410_ : (((((w7.setCell ⟨w3.heap.size, 0, none⟩ (.bool (ng Zs))).setCell ⟨w3.heap.size, 1, none⟩ (.slice a7 (ln (am Zs)) (ln (am Zs)))).setCell ⟨w3.heap.size + 1, 0, none⟩ (.bool (ng Zt))).setCell ⟨w3.heap.size + 1, 1, none⟩ (.slice c7 (ln (am Zt)) (ln (am Zt))))).cell? ⟨w4.heap.size + 1, 0, none⟩ = some (.bool (ng Zr)) := (set2_far (by omega)).trans ((set2_far (by omega)).trans l410)
    have l411_ : (((((w7.setCell ⟨w3.heap.size, 0, none⟩ (.bool (ng Zs))).setCell ⟨w3.heap.size, 1, none⟩ (.slice a7 (ln (am Zs)) (ln (am Zs)))).setCell ⟨w3.heap.size + 1, 0, none⟩ (.bool (ng Zt))).setCell ⟨w3.heap.size + 1, 1, none⟩ (.slice c7 (ln (am Zt)) (ln (am Zt))))).cell? ⟨w4.heap.size + 1, 1, none⟩ = some (.slice c4 (ln (am Zr)) (ln (am Zr))) := (set2_far (by omega)).trans ((set2_far (by omega)).trans l411)
    have hL30_ := (((hL30.setCell ⟨w3.heap.size, 0, none⟩ (.bool (ng Zs))).setCell ⟨w3.heap.size, 1, none⟩ (.slice a7 (ln (am Zs)) (ln (am Zs)))).setCell ⟨w3.heap.size + 1, 0, none⟩ (.bool (ng Zt))).setCell ⟨w3.heap.size + 1, 1, none⟩ (.slice c7 (ln (am Zt)) (ln (am Zt)))
    have hL31_ := (((hL31.setCell ⟨w3.heap.size, 0, none⟩ (.bool (ng Zs))).setCell ⟨w3.heap.size, 1, none⟩ (.slice a7 (ln (am Zs)) (ln (am Zs)))).setCell ⟨w3.heap.size + 1, 0, none⟩ (.bool (ng Zt))).setCell ⟨w3.heap.size + 1, 1, none⟩ (.slice c7 (ln (am Zt)) (ln (am Zt)))
    have hL40_ := (((hL40.setCell ⟨w3.heap.size, 0, none⟩ (.bool (ng Zs))).setCell ⟨w3.heap.size, 1, none⟩ (.slice a7 (ln (am Zs)) (ln (am Zs)))).setCell ⟨w3.heap.size + 1, 0, none⟩ (.bool (ng Zt))).setCell ⟨w3.heap.size + 1, 1, none⟩ (.slice c7 (ln (am Zt)) (ln (am Zt)))
    have hL41_ := (((hL41.setCell ⟨w3.heap.size, 0, none⟩ (.bool (ng Zs))).setCell ⟨w3.heap.size, 1, none⟩ (.slice a7 (ln (am Zs)) (ln (am Zs)))).setCell ⟨w3.heap.size + 1, 0, none⟩ (.bool (ng Zt))).setCell ⟨w3.heap.size + 1, 1, none⟩ (.slice c7 (ln (am Zt)) (ln (am Zt)))
    replace h7 := h7.mid hM
    replace g7 := g7.mid hM
    replace hBW := hBW.trans (hM.below hBW.size)
    replace hLs := Nat.le_trans hLs hM.size
    clear hM e0 e1
    go_wp2_with fail
    clear q00 q01 q10 q11 l300 l301 l310 l311 l400 l401 l410 l411 hL30 hL31 hL40 hL41 fzhL30 fzhL31 fzhL40 fzhL41
    generalize ((((w7.setCell ⟨w3.heap.size, 0, none⟩ (.bool (ng Zs))).setCell ⟨w3.heap.size, 1, none⟩ (.slice a7 (ln (am Zs)) (ln (am Zs)))).setCell ⟨w3.heap.size + 1, 0, none⟩ (.bool (ng Zt))).setCell ⟨w3.heap.size + 1, 1, none⟩ (.slice c7 (ln (am Zt)) (ln (am Zt)))) = w7y at q00_ q01_ q10_ q11_ l300_ l301_ l310_ l311_ l400_ l401_ l410_ l411_ hL30_ hL31_ hL40_ hL41_ h7 g7 hBW hLs ⊢
    have q00 := q00_
    clear q00_
    have q01 := q01_
    clear q01_
    have q10 := q10_
    clear q10_
    have q11 := q11_
    clear q11_
    have l300 := l300_
    clear l300_
    have l301 := l301_
    clear l301_
    have l310 := l310_
    clear l310_
    have l311 := l311_
    clear l311_
    have l400 := l400_
    clear l400_
    have l401 := l401_
    clear l401_
    have l410 := l410_
    clear l410_
    have l411 := l411_
    clear l411_
    have hL30 := hL30_
    clear hL30_
    have hL31 := hL31_
    clear hL31_
    have hL40 := hL40_
    clear hL40_
    have hL41 := hL41_
    clear hL41_
    refine (HV2.out _ (sb hS0 hB hBW) (sb hS1 hB hBW)).mono ?_
    rintro e w8 ⟨a8, c8, rfl, h8, g8⟩
    have b8 := h8.below
    replace h8 := h8.fre.mono hLs
    replace g8 := g8.fre.mono hLs
    replace hBW := hBW.trans (b8.mono hBW.size)
    replace q00 := below_cell b8 q00
    replace q01 := below_cell b8 q01
    replace q10 := below_cell b8 q10
    replace q11 := below_cell b8 q11
    replace l300 := below_cell b8 l300
    replace l301 := below_cell b8 l301
    replace l310 := below_cell b8 l310
    replace l311 := below_cell b8 l311
    replace l400 := below_cell b8 l400
    replace l401 := below_cell b8 l401
    replace l410 := below_cell b8 l410
    replace l411 := below_cell b8 l411
    replace hL30 := below_row b8 hL30
    replace hL31 := below_row b8 hL31
    replace hL40 := below_row b8 hL40
    replace hL41 := below_row b8 hL41
    replace h7 := h7.later b8
    replace g7 := g7.later b8
    replace hLs := Nat.le_trans hLs b8.size
    have fzhL30 := fun o => hL30.frozen o
    have fzhL31 := fun o => hL31.frozen o
    have fzhL40 := fun o => hL40.frozen o
    have fzhL41 := fun o => hL41.frozen o
    have hM : Mid W.heap.size w4x.heap.size w8 ((((w8.setCell ⟨w4.heap.size, 0, none⟩ (.bool (ng Zs))).setCell ⟨w4.heap.size, 1, none⟩ (.slice a8 (ln (am Zs)) (ln (am Zs)))).setCell ⟨w4.heap.size + 1, 0, none⟩ (.bool (ng Zt))).setCell ⟨w4.heap.size + 1, 1, none⟩ (.slice c8 (ln (am Zt)) (ln (am Zt)))) := ((((Mid.refl _ _ _).set _ _ (by omega) (by omega) _).set _ _ (by omega) (by omega) _).set _ _ (by omega) (by omega) _).set _ _ (by omega) (by omega) _
    have e0 := set2_same (w := w8) (u := .bool (ng Zs)) (v := .slice a8 (ln (am Zs)) (ln (am Zs))) l400 l401
    have e1 := set2_same (w := ((w8.setCell ⟨w4.heap.size, 0, none⟩ (.bool (ng Zs))).setCell ⟨w4.heap.size, 1, none⟩ (.slice a8 (ln (am Zs)) (ln (am Zs))))) (c := w4.heap.size + 1) (u := .bool (ng Zt)) (v := .slice c8 (ln (am Zt)) (ln (am Zt))) ((set2_far (by omega)).trans l410) ((set2_far (by omega)).trans l411)
    have q00_ : (((((w8.setCell ⟨w4.heap.size, 0, none⟩ (.bool (ng Zs))).setCell ⟨w4.heap.size, 1, none⟩ (.slice a8 (ln (am Zs)) (ln (am Zs)))).setCell ⟨w4.heap.size + 1, 0, none⟩ (.bool (ng Zt))).setCell ⟨w4.heap.size + 1, 1, none⟩ (.slice c8 (ln (am Zt)) (ln (am Zt))))).cell? ⟨w.heap.size, 0, none⟩ = some (.bool s0) := (set2_far (by omega)).trans ((set2_far (by omega)).trans q00)
    have q01_ : (((((w8.setCell ⟨w4.heap.size, 0, none⟩ (.bool (ng Zs))).setCell ⟨w4.heap.size, 1, none⟩ (.slice a8 (ln (am Zs)) (ln (am Zs)))).setCell ⟨w4.heap.size + 1, 0, none⟩ (.bool (ng Zt))).setCell ⟨w4.heap.size + 1, 1, none⟩ (.slice c8 (ln (am Zt)) (ln (am Zt))))).cell? ⟨w.heap.size, 1, none⟩ = some (.slice a0 len0 cap0) := (set2_far (by omega)).trans ((set2_far (by omega)).trans q01)
    have q10_ : (((((w8.setCell ⟨w4.heap.size, 0, none⟩ (.bool (ng Zs))).setCell ⟨w4.heap.size, 1, none⟩ (.slice a8 (ln (am Zs)) (ln (am Zs)))).setCell ⟨w4.heap.size + 1, 0, none⟩ (.bool (ng Zt))).setCell ⟨w4.heap.size + 1, 1, none⟩ (.slice c8 (ln (am Zt)) (ln (am Zt))))).cell? ⟨w.heap.size + 1, 0, none⟩ = some (.bool s1) := (set2_far (by omega)).trans ((set2_far (by omega)).trans q10)
    have q11_ : (((((w8.setCell ⟨w4.heap.size, 0, none⟩ (.bool (ng Zs))).setCell ⟨w4.heap.size, 1, none⟩ (.slice a8 (ln (am Zs)) (ln (am Zs)))).setCell ⟨w4.heap.size + 1, 0, none⟩ (.bool (ng Zt))).setCell ⟨w4.heap.size + 1, 1, none⟩ (.slice c8 (ln (am Zt)) (ln (am Zt))))).cell? ⟨w.heap.size + 1, 1, none⟩ = some (.slice a1 len1 cap1) := (set2_far (by omega)).trans ((set2_far (by omega)).trans q11)
    have l300_ : (((((w8.setCell ⟨w4.heap.size, 0, none⟩ (.bool (ng Zs))).setCell ⟨w4.heap.size, 1, none⟩ (.slice a8 (ln (am Zs)) (ln (am Zs)))).setCell ⟨w4.heap.size + 1, 0, none⟩ (.bool (ng Zt))).setCell ⟨w4.heap.size + 1, 1, none⟩ (.slice c8 (ln (am Zt)) (ln (am Zt))))).cell? ⟨w3.heap.size, 0, none⟩ = some (.bool (ng Zs)) := (set2_far (by omega)).trans ((set2_far (by omega)).trans l300)
    have l301_ : (((((w8.setCell ⟨w4.heap.size, 0, none⟩ (.bool (ng Zs))).setCell ⟨w4.heap.size, 1, none⟩ (.slice a8 (ln (am Zs)) (ln (am Zs)))).setCell ⟨w4.heap.size + 1, 0, none⟩ (.bool (ng Zt))).setCell ⟨w4.heap.size + 1, 1, none⟩ (.slice c8 (ln (am Zt)) (ln (am Zt))))).cell? ⟨w3.heap.size, 1, none⟩ = some (.slice a7 (ln (am Zs)) (ln (am Zs))) := (set2_far (by omega)).trans ((set2_far (by omega)).trans l301)
    have l310_ : (((((w8.setCell ⟨w4.heap.size, 0, none⟩ (.bool (ng Zs))).setCell ⟨w4.heap.size, 1, none⟩ (.slice a8 (ln (am Zs)) (ln (am Zs)))).setCell ⟨w4.heap.size + 1, 0, none⟩ (.bool (ng Zt))).setCell ⟨w4.heap.size + 1, 1, none⟩ (.slice c8 (ln (am Zt)) (ln (am Zt))))).cell? ⟨w3.heap.size + 1, 0, none⟩ = some (.bool (ng Zt)) := (set2_far (by omega)).trans ((set2_far (by omega)).trans l310)
    have l311_ : (((((w8.setCell ⟨w4.heap.size, 0, none⟩ (.bool (ng Zs))).setCell ⟨w4.heap.size, 1, none⟩ (.slice a8 (ln (am Zs)) (ln (am Zs)))).setCell ⟨w4.heap.size + 1, 0, none⟩ (.bool (ng Zt))).setCell ⟨w4.heap.size + 1, 1, none⟩ (.slice c8 (ln (am Zt)) (ln (am Zt))))).cell? ⟨w3.heap.size + 1, 1, none⟩ = some (.slice c7 (ln (am Zt)) (ln (am Zt))) := (set2_far (by omega)).trans ((set2_far (by omega)).trans l311)
    have l400_ : (((((w8.setCell ⟨w4.heap.size, 0, none⟩ (.bool (ng Zs))).setCell ⟨w4.heap.size, 1, none⟩ (.slice a8 (ln (am Zs)) (ln (am Zs)))).setCell ⟨w4.heap.size + 1, 0, none⟩ (.bool (ng Zt))).setCell ⟨w4.heap.size + 1, 1, none⟩ (.slice c8 (ln (am Zt)) (ln (am Zt))))).cell? ⟨w4.heap.size, 0, none⟩ = some (.bool (ng Zs)) := (set2_far (by omega)).trans e0.1
    have l401_ : (((((w8.setCell ⟨w4.heap.size, 0, none⟩ (.bool (ng Zs))).setCell ⟨w4.heap.size, 1, none⟩ (.slice a8 (ln (am Zs)) (ln (am Zs)))).setCell ⟨w4.heap.size + 1, 0, none⟩ (.bool (ng Zt))).setCell ⟨w4.heap.size + 1, 1, none⟩ (.slice c8 (ln (am Zt)) (ln (am Zt))))).cell? ⟨w4.heap.size, 1, none⟩ = some (.slice a8 (ln (am Zs)) (ln (am Zs))) := (set2_far (by omega)).trans e0.2
    have l410_ : (((((w8.setCell ⟨w4.heap.size, 0, none⟩ (.bool (ng Zs))).setCell ⟨w4.heap.size, 1, none⟩ (.slice a8 (ln (am Zs)) (ln (am Zs)))).setCell ⟨w4.heap.size + 1, 0, none⟩ (.bool (ng Zt))).setCell ⟨w4.heap.size + 1, 1, none⟩ (.slice c8 (ln (am Zt)) (ln (am Zt))))).cell? ⟨w4.heap.size + 1, 0, none⟩ = some (.bool (ng Zt)) := e1.1
    have l411_ : (((((w8.setCell ⟨w4.heap.size, 0, none⟩ (.bool (ng Zs))).setCell ⟨w4.heap.size, 1, none⟩ (.slice a8 (ln (am Zs)) (ln (am Zs)))).setCell ⟨w4.heap.size + 1, 0, none⟩ (.bool (ng Zt))).setCell ⟨w4.heap.size + 1, 1, none⟩ (.slice c8 (ln (am Zt)) (ln (am Zt))))).cell? ⟨w4.heap.size + 1, 1, none⟩ = some (.slice c8 (ln (am Zt)) (ln (am Zt))) := e1.2
    have hL30_ := (((hL30.setCell ⟨w4.heap.size, 0, none⟩ (.bool (ng Zs))).setCell ⟨w4.heap.size, 1, none⟩ (.slice a8 (ln (am Zs)) (ln (am Zs)))).setCell ⟨w4.heap.size + 1, 0, none⟩ (.bool (ng Zt))).setCell ⟨w4.heap.size + 1, 1, none⟩ (.slice c8 (ln (am Zt)) (ln (am Zt)))
    have hL31_ := (((hL31.setCell ⟨w4.heap.size, 0, none⟩ (.bool (ng Zs))).setCell ⟨w4.heap.size, 1, none⟩ (.slice a8 (ln (am Zs)) (ln (am Zs)))).setCell ⟨w4.heap.size + 1, 0, none⟩ (.bool (ng Zt))).setCell ⟨w4.heap.size + 1, 1, none⟩ (.slice c8 (ln (am Zt)) (ln (am Zt)))
    have hL40_ := (((hL40.setCell ⟨w4.heap.size, 0, none⟩ (.bool (ng Zs))).setCell ⟨w4.heap.size, 1, none⟩ (.slice a8 (ln (am Zs)) (ln (am Zs)))).setCell ⟨w4.heap.size + 1, 0, none⟩ (.bool (ng Zt))).setCell ⟨w4.heap.size + 1, 1, none⟩ (.slice c8 (ln (am Zt)) (ln (am Zt)))
    have hL41_ := (((hL41.setCell ⟨w4.heap.size, 0, none⟩ (.bool (ng Zs))).setCell ⟨w4.heap.size, 1, none⟩ (.slice a8 (ln (am Zs)) (ln (am Zs)))).setCell ⟨w4.heap.size + 1, 0, none⟩ (.bool (ng Zt))).setCell ⟨w4.heap.size + 1, 1, none⟩ (.slice c8 (ln (am Zt)) (ln (am Zt)))
    replace h7 := h7.mid hM
    replace g7 := g7.mid hM
    replace h8 := h8.mid hM
    replace g8 := g8.mid hM
    replace hBW := hBW.trans (hM.below hBW.size)
    replace hLs := Nat.le_trans hLs hM.size
    clear hM e0 e1
    go_wp2_with fail
    clear q00 q01 q10 q11 l300 l301 l310 l311 l400 l401 l410 l411 hL30 hL31 hL40 hL41 fzhL30 fzhL31 fzhL40 fzhL41
    generalize ((((w8.setCell ⟨w4.heap.size, 0, none⟩ (.bool (ng Zs))).setCell ⟨w4.heap.size, 1, none⟩ (.slice a8 (ln (am Zs)) (ln (am Zs)))).setCell ⟨w4.heap.size + 1, 0, none⟩ (.bool (ng Zt))).setCell ⟨w4.heap.size + 1, 1, none⟩ (.slice c8 (ln (am Zt)) (ln (am Zt)))) = w8y at q00_ q01_ q10_ q11_ l300_ l301_ l310_ l311_ l400_ l401_ l410_ l411_ hL30_ hL31_ hL40_ hL41_ h7 g7 h8 g8 hBW hLs ⊢
    have q00 := q00_
    clear q00_
    have q01 := q01_
    clear q01_
    have q10 := q10_
    clear q10_
    have q11 := q11_
    clear q11_
    have l300 := l300_
    clear l300_
    have l301 := l301_
    clear l301_
    have l310 := l310_
    clear l310_
    have l311 := l311_
    clear l311_
    have l400 := l400_
    clear l400_
    have l401 := l401_
    clear l401_
    have l410 := l410_
    clear l410_
    have l411 := l411_
    clear l411_
    have hL30 := hL30_
    clear hL30_
    have hL31 := hL31_
    clear hL31_
    have hL40 := hL40_
    clear hL40_
    have hL41 := hL41_
    clear hL41_
    refine (sameI_is (Zs) a7 a8 _ _ _ (by omega) h7.seg h8.seg).mono ?_
    rintro e w9 ⟨rfl, b9⟩
    replace hBW := hBW.trans (b9.mono hBW.size)
    replace q00 := below_cell b9 q00
    replace q01 := below_cell b9 q01
    replace q10 := below_cell b9 q10
    replace q11 := below_cell b9 q11
    replace l300 := below_cell b9 l300
    replace l301 := below_cell b9 l301
    replace l310 := below_cell b9 l310
    replace l311 := below_cell b9 l311
    replace l400 := below_cell b9 l400
    replace l401 := below_cell b9 l401
    replace l410 := below_cell b9 l410
    replace l411 := below_cell b9 l411
    replace hL30 := below_row b9 hL30
    replace hL31 := below_row b9 hL31
    replace hL40 := below_row b9 hL40
    replace hL41 := below_row b9 hL41
    replace h7 := h7.later b9
    replace g7 := g7.later b9
    replace h8 := h8.later b9
    replace g8 := g8.later b9
    replace hLs := Nat.le_trans hLs b9.size
    go_wp2_with fail
    refine (sameI_is (Zt) c7 c8 _ _ _ (by omega) g7.seg g8.seg).mono ?_
    rintro e w10 ⟨rfl, b10⟩
    replace hBW := hBW.trans (b10.mono hBW.size)
    replace q00 := below_cell b10 q00
    replace q01 := below_cell b10 q01
    replace q10 := below_cell b10 q10
    replace q11 := below_cell b10 q11
    replace l300 := below_cell b10 l300
    replace l301 := below_cell b10 l301
    replace l310 := below_cell b10 l310
    replace l311 := below_cell b10 l311
    replace l400 := below_cell b10 l400
    replace l401 := below_cell b10 l401
    replace l410 := below_cell b10 l410
    replace l411 := below_cell b10 l411
    replace hL30 := below_row b10 hL30
    replace hL31 := below_row b10 hL31
    replace hL40 := below_row b10 hL40
    replace hL41 := below_row b10 hL41
    replace h7 := h7.later b10
    replace g7 := g7.later b10
    replace h8 := h8.later b10
    replace g8 := g8.later b10
    replace hLs := Nat.le_trans hLs b10.size
    clear h7 g7 h8 g8
    go_wp2_with fail
    refine (HK3.out _ (sb hS0 hB hBW) (sb hS1 hB hBW)).mono ?_
    rintro e w11 ⟨a11, c11, rfl, h11, g11⟩
    have b11 := h11.below
    replace h11 := h11.fre.mono hLs
    replace g11 := g11.fre.mono hLs
    replace hBW := hBW.trans (b11.mono hBW.size)
    replace q00 := below_cell b11 q00
    replace q01 := below_cell b11 q01
    replace q10 := below_cell b11 q10
    replace q11 := below_cell b11 q11
    replace l300 := below_cell b11 l300
    replace l301 := below_cell b11 l301
    replace l310 := below_cell b11 l310
    replace l311 := below_cell b11 l311
    replace l400 := below_cell b11 l400
    replace l401 := below_cell b11 l401
    replace l410 := below_cell b11 l410
    replace l411 := below_cell b11 l411
    replace hL30 := below_row b11 hL30
    replace hL31 := below_row b11 hL31
    replace hL40 := below_row b11 hL40
    replace hL41 := below_row b11 hL41
    replace hLs := Nat.le_trans hLs b11.size
    have fzhL30 := fun o => hL30.frozen o
    have fzhL31 := fun o => hL31.frozen o
    have fzhL40 := fun o => hL40.frozen o
    have fzhL41 := fun o => hL41.frozen o
    have hM : Mid W.heap.size w4x.heap.size w11 ((((w11.setCell ⟨w3.heap.size, 0, none⟩ (.bool (ng Zu))).setCell ⟨w3.heap.size, 1, none⟩ (.slice a11 (ln (am Zu)) (ln (am Zu)))).setCell ⟨w3.heap.size + 1, 0, none⟩ (.bool (ng Zv))).setCell ⟨w3.heap.size + 1, 1, none⟩ (.slice c11 (ln (am Zv)) (ln (am Zv)))) := ((((Mid.refl _ _ _).set _ _ (by omega) (by omega) _).set _ _ (by omega) (by omega) _).set _ _ (by omega) (by omega) _).set _ _ (by omega) (by omega) _
    have e0 := set2_same (w := w11) (u := .bool (ng Zu)) (v := .slice a11 (ln (am Zu)) (ln (am Zu))) l300 l301
    have e1 := set2_same (w := ((w11.setCell ⟨w3.heap.size, 0, none⟩ (.bool (ng Zu))).setCell ⟨w3.heap.size, 1, none⟩ (.slice a11 (ln (am Zu)) (ln (am Zu))))) (c := w3.heap.size + 1) (u := .bool (ng Zv)) (v := .slice c11 (ln (am Zv)) (ln (am Zv))) ((set2_far (by omega)).trans l310) ((set2_far (by omega)).trans l311)
    have q00_ : (((((w11.setCell ⟨w3.heap.size, 0, none⟩ (.bool (ng Zu))).setCell ⟨w3.heap.size, 1, none⟩ (.slice a11 (ln (am Zu)) (ln (am Zu)))).setCell ⟨w3.heap.size + 1, 0, none⟩ (.bool (ng Zv))).setCell ⟨w3.heap.size + 1, 1, none⟩ (.slice c11 (ln (am Zv)) (ln (am Zv))))).cell? ⟨w.heap.size, 0, none⟩ = some (.bool s0) := (set2_far (by omega)).trans ((set2_far (by omega)).trans q00)
    have q01_ : (((((w11.setCell ⟨w3.heap.size, 0, none⟩ (.bool (ng Zu))).setCell ⟨w3.heap.size, 1, none⟩ (.slice a11 (ln (am Zu)) (ln (am Zu)))).setCell ⟨w3.heap.size + 1, 0, none⟩ (.bool (ng Zv))).setCell ⟨w3.heap.size + 1, 1, none⟩ (.slice c11 (ln (am Zv)) (ln (am Zv))))).cell? ⟨w.heap.size, 1, none⟩ = some (.slice a0 len0 cap0) := (set2_far (by omega)).trans ((set2_far (by omega)).trans q01)
    have q10_ : (((((w11.setCell ⟨w3.heap.size, 0, none⟩ (.bool (ng Zu))).setCell ⟨w3.heap.size, 1, none⟩ (.slice a11 (ln (am Zu)) (ln (am Zu)))).setCell ⟨w3.heap.size + 1, 0, none⟩ (.bool (ng Zv))).setCell ⟨w3.heap.size + 1, 1, none⟩ (.slice c11 (ln (am Zv)) (ln (am Zv))))).cell? ⟨w.heap.size + 1, 0, none⟩ = some (.bool s1) := (set2_far (by omega)).trans ((set2_far (by omega)).trans q10)
    have q11_ : (((((w11.setCell ⟨w3.heap.size, 0, none⟩ (.bool (ng Zu))).setCell ⟨w3.heap.size, 1, none⟩ (.slice a11 (ln (am Zu)) (ln (am Zu)))).setCell ⟨w3.heap.size + 1, 0, none⟩ (.bool (ng Zv))).setCell ⟨w3.heap.size + 1, 1, none⟩ (.slice c11 (ln (am Zv)) (ln (am Zv))))).cell? ⟨w.heap.size + 1, 1, none⟩ = some (.slice a1 len1 cap1) := (set2_far (by omega)).trans ((set2_far (by omega)).trans q11)
    have l300_ : (((((w11.setCell ⟨w3.heap.size, 0, none⟩ (.bool (ng Zu))).setCell ⟨w3.heap.size, 1, none⟩ (.slice a11 (ln (am Zu)) (ln (am Zu)))).setCell ⟨w3.heap.size + 1, 0, none⟩ (.bool (ng Zv))).setCell ⟨w3.heap.size + 1, 1, none⟩ (.slice c11 (ln (am Zv)) (ln (am Zv))))).cell? ⟨w3.heap.size, 0, none⟩ = some (.bool (ng Zu)) := (set2_far (by omega)).trans e0.1
    have l301_ : (((((w11.setCell ⟨w3.heap.size, 0, none⟩ (.bool (ng Zu))).setCell ⟨w3.heap.size, 1, none⟩ (.slice a11 (ln (am Zu)) (ln (am Zu)))).setCell ⟨w3.heap.size + 1, 0, none⟩ (.bool (ng Zv))).setCell ⟨w3.heap.size + 1, 1, none⟩ (.slice c11 (ln (am Zv)) (ln (am Zv))))).cell? ⟨w3.heap.size, 1, none⟩ = some (.slice a11 (ln (am Zu)) (ln (am Zu))) := (set2_far (by omega)).trans e0.2
    have l310_ : (((((w11.setCell ⟨w3.heap.size, 0, none⟩ (.bool (ng Zu))).setCell ⟨w3.heap.size, 1, none⟩ (.slice a11 (ln (am Zu)) (ln (am Zu)))).setCell ⟨w3.heap.size + 1, 0, none⟩ (.bool (ng Zv))).setCell ⟨w3.heap.size + 1, 1, none⟩ (.slice c11 (ln (am Zv)) (ln (am Zv))))).cell? ⟨w3.heap.size + 1, 0, none⟩ = some (.bool (ng Zv)) := e1.1
    have l311_ : (((((w11.setCell ⟨w3.heap.size, 0, none⟩ (.bool (ng Zu))).setCell ⟨w3.heap.size, 1, none⟩ (.slice a11 (ln (am Zu)) (ln (am Zu)))).setCell ⟨w3.heap.size + 1, 0, none⟩ (.bool (ng Zv))).setCell ⟨w3.heap.size + 1, 1, none⟩ (.slice c11 (ln (am Zv)) (ln (am Zv))))).cell? ⟨w3.heap.size + 1, 1, none⟩ = some (.slice c11 (ln (am Zv)) (ln (am Zv))) := e1.2
    have l400_ : (((((w11.setCell ⟨w3.heap.size, 0, none⟩ (.bool (ng Zu))).setCell ⟨w3.heap.size, 1, none⟩ (.slice a11 (ln (am Zu)) (ln (am Zu)))).setCell ⟨w3.heap.size + 1, 0, none⟩ (.bool (ng Zv))).setCell ⟨w3.heap.size + 1, 1, none⟩ (.slice c11 (ln (am Zv)) (ln (am Zv))))).cell? ⟨w4.heap.size, 0, none⟩ = some (.bool (ng Zs)) := (set2_far (by omega)).trans ((set2_far (by omega)).trans l400)
    have l401_ : (((((w11.setCell ⟨w3.heap.size, 0, none⟩ (.bool (ng Zu))).setCell ⟨w3.heap.size, 1, none⟩ (.slice a11 (ln (am Zu)) (ln (am Zu)))).setCell ⟨w3.heap.size + 1, 0, none⟩ (.bool (ng Zv))).setCell ⟨w3.heap.size + 1, 1, none⟩ (.slice c11 (ln (am Zv)) (ln (am Zv))))).cell? ⟨w4.heap.size, 1, none⟩ = some (.slice a8 (ln (am Zs)) (ln (am Zs))) := (set2_far (by omega)).trans ((set2_far (by omega)).trans l401)
    have l410_ : (((((w11.setCell ⟨w3.heap.size, 0, none⟩ (.bool (ng Zu))).setCell ⟨w3.heap.size, 1, none⟩ (.slice a11 (ln (am Zu)) (ln (am Zu)))).setCell ⟨w3.heap.size + 1, 0, none⟩ (.bool (ng Zv))).setCell ⟨w3.heap.size + 1, 1, none⟩ (.slice c11 (ln (am Zv)) (ln (am Zv))))).cell? ⟨w4.heap.size + 1, 0, none⟩ = some (.bool (ng Zt)) := (set2_far (by omega)).trans ((set2_far (by omega)).trans l410)
    have l411_ : (((((w11.setCell ⟨w3.heap.size, 0, none⟩ (.bool (ng Zu))).setCell ⟨w3.heap.size, 1, none⟩ (.slice a11 (ln (am Zu)) (ln (am Zu)))).setCell ⟨w3.heap.size + 1, 0, none⟩ (.bool (ng Zv))).setCell ⟨w3.heap.size + 1, 1, none⟩ (.slice c11 (ln (am Zv)) (ln (am Zv))))).cell? ⟨w4.heap.size + 1, 1, none⟩ = some (.slice c8 (ln (am Zt)) (ln (am Zt))) := (set2_far (by omega)).trans ((set2_far (by omega)).trans l411)
    have hL30_ := (((hL30.setCell ⟨w3.heap.size, 0, none⟩ (.bool (ng Zu))).setCell ⟨w3.heap.size, 1, none⟩ (.slice a11 (ln (am Zu)) (ln (am Zu)))).setCell ⟨w3.heap.size + 1, 0, none⟩ (.bool (ng Zv))).setCell ⟨w3.heap.size + 1, 1, none⟩ (.slice c11 (ln (am Zv)) (ln (am Zv)))
    have hL31_ := (((hL31.setCell ⟨w3.heap.size, 0, none⟩ (.bool (ng Zu))).setCell ⟨w3.heap.size, 1, none⟩ (.slice a11 (ln (am Zu)) (ln (am Zu)))).setCell ⟨w3.heap.size + 1, 0, none⟩ (.bool (ng Zv))).setCell ⟨w3.heap.size + 1, 1, none⟩ (.slice c11 (ln (am Zv)) (ln (am Zv)))
    have hL40_ := (((hL40.setCell ⟨w3.heap.size, 0, none⟩ (.bool (ng Zu))).setCell ⟨w3.heap.size, 1, none⟩ (.slice a11 (ln (am Zu)) (ln (am Zu)))).setCell ⟨w3.heap.size + 1, 0, none⟩ (.bool (ng Zv))).setCell ⟨w3.heap.size + 1, 1, none⟩ (.slice c11 (ln (am Zv)) (ln (am Zv)))
    have hL41_ := (((hL41.setCell ⟨w3.heap.size, 0, none⟩ (.bool (ng Zu))).setCell ⟨w3.heap.size, 1, none⟩ (.slice a11 (ln (am Zu)) (ln (am Zu)))).setCell ⟨w3.heap.size + 1, 0, none⟩ (.bool (ng Zv))).setCell ⟨w3.heap.size + 1, 1, none⟩ (.slice c11 (ln (am Zv)) (ln (am Zv)))
    replace h11 := h11.mid hM
    replace g11 := g11.mid hM
    replace hBW := hBW.trans (hM.below hBW.size)
    replace hLs := Nat.le_trans hLs hM.size
    clear hM e0 e1
    go_wp2_with fail
    clear q00 q01 q10 q11 l300 l301 l310 l311 l400 l401 l410 l411 hL30 hL31 hL40 hL41 fzhL30 fzhL31 fzhL40 fzhL41
    generalize ((((w11.setCell ⟨w3.heap.size, 0, none⟩ (.bool (ng Zu))).setCell ⟨w3.heap.size, 1, none⟩ (.slice a11 (ln (am Zu)) (ln (am Zu)))).setCell ⟨w3.heap.size + 1, 0, none⟩ (.bool (ng Zv))).setCell ⟨w3.heap.size + 1, 1, none⟩ (.slice c11 (ln (am Zv)) (ln (am Zv)))) = w11y at q00_ q01_ q10_ q11_ l300_ l301_ l310_ l311_ l400_ l401_ l410_ l411_ hL30_ hL31_ hL40_ hL41_ h11 g11 hBW hLs ⊢
    have q00 := q00_
    clear q00_
    have q01 := q01_
    clear q01_
    have q10 := q10_
    clear q10_
    have q11 := q11_
    clear q11_
    have l300 := l300_
    clear l300_
    have l301 := l301_
    clear l301_
    have l310 := l310_
    clear l310_
    have l311 := l311_
    clear l311_
    have l400 := l400_
    clear l400_
    have l401 := l401_
    clear l401_
    have l410 := l410_
    clear l410_
    have l411 := l411_
    clear l411_
    have hL30 := hL30_
    clear hL30_
    have hL31 := hL31_
    clear hL31_
    have hL40 := hL40_
    clear hL40_
    have hL41 := hL41_
    clear hL41_
    refine (HV3.out _ (sb hS0 hB hBW) (sb hS1 hB hBW)).mono ?_
    rintro e w12 ⟨a12, c12, rfl, h12, g12⟩
    have b12 := h12.below
    replace h12 := h12.fre.mono hLs
    replace g12 := g12.fre.mono hLs
    replace hBW := hBW.trans (b12.mono hBW.size)
    replace q00 := below_cell b12 q00
    replace q01 := below_cell b12 q01
    replace q10 := below_cell b12 q10
    replace q11 := below_cell b12 q11
    replace l300 := below_cell b12 l300
    replace l301 := below_cell b12 l301
    replace l310 := below_cell b12 l310
    replace l311 := below_cell b12 l311
    replace l400 := below_cell b12 l400
    replace l401 := below_cell b12 l401
    replace l410 := below_cell b12 l410
    replace l411 := below_cell b12 l411
    replace hL30 := below_row b12 hL30
    replace hL31 := below_row b12 hL31
    replace hL40 := below_row b12 hL40
    replace hL41 := below_row b12 hL41
    replace h11 := h11.later b12
    replace g11 := g11.later b12
    replace hLs := Nat.le_trans hLs b12.size
    have fzhL30 := fun o => hL30.frozen o
    have fzhL31 := fun o => hL31.frozen o
    have fzhL40 := fun o => hL40.frozen o
    have fzhL41 := fun o => hL41.frozen o
    have hM : Mid W.heap.size w4x.heap.size w12 ((((w12.setCell ⟨w4.heap.size, 0, none⟩ (.bool (ng Zu))).setCell ⟨w4.heap.size, 1, none⟩ (.slice a12 (ln (am Zu)) (ln (am Zu)))).setCell ⟨w4.heap.size + 1, 0, none⟩ (.bool (ng Zv))).setCell ⟨w4.heap.size + 1, 1, none⟩ (.slice c12 (ln (am Zv)) (ln (am Zv)))) := ((((Mid.refl _ _ _).set _ _ (by omega) (by omega) _).set _ _ (by omega) (by omega) _).set _ _ (by omega) (by omega) _).set _ _ (by omega) (by omega) _
    have e0 := set2_same (w := w12) (u := .bool (ng Zu)) (v := .slice a12 (ln (am Zu)) (ln (am Zu))) l400 l401
    have e1 := set2_same (w := ((w12.setCell ⟨w4.heap.size, 0, none⟩ (.bool (ng Zu))).setCell ⟨w4.heap.size, 1, none⟩ (.slice a12 (ln (am Zu)) (ln (am Zu))))) (c := w4.heap.size + 1) (u := .bool (ng Zv)) (v := .slice c12 (ln (am Zv)) (ln (am Zv))) ((set2_far (by omega)).trans l410) ((set2_far (by omega)).trans l411)
    have q00_ : (((((w12.setCell ⟨w4.heap.size, 0, none⟩ (.bool (ng Zu))).setCell ⟨w4.heap.size, 1, none⟩ (.slice a12 (ln (am Zu)) (ln (am Zu)))).setCell ⟨w4.heap.size + 1, 0, none⟩ (.bool (ng Zv))).setCell ⟨w4.heap.size + 1, 1, none⟩ (.slice c12 (ln (am Zv)) (ln (am Zv))))).cell? ⟨w.heap.size, 0, none⟩ = some (.bool s0) := (set2_far (by omega)).trans ((set2_far (by omega)).trans q00)
    have q01_ : (((((w12.setCell ⟨w4.heap.size, 0, none⟩ (.bool (ng Zu))).setCell ⟨w4.heap.size, 1, none⟩ (.slice a12 (ln (am Zu)) (ln (am Zu)))).setCell ⟨w4.heap.size + 1, 0, none⟩ (.bool (ng Zv))).setCell ⟨w4.heap.size + 1, 1, none⟩ (.slice c12 (ln (am Zv)) (ln (am Zv))))).cell? ⟨w.heap.size, 1, none⟩ = some (.slice a0 len0 cap0) := (set2_far (by omega)).trans ((set2_far (by omega)).trans q01)
    have q10_ : (((((w12.setCell ⟨w4.heap.size, 0, none⟩ (.bool (ng Zu))).setCell ⟨w4.heap.size, 1, none⟩ (.slice a12 (ln (am Zu)) (ln (am Zu)))).setCell ⟨w4.heap.size + 1, 0, none⟩ (.bool (ng Zv))).setCell ⟨w4.heap.size + 1, 1, none⟩ (.slice c12 (ln (am Zv)) (ln (am Zv))))).cell? ⟨w.heap.size + 1, 0, none⟩ = some (.bool s1) := (set2_far (by omega)).trans ((set2_far (by omega)).trans q10)
    have q11_ : (((((w12.setCell ⟨w4.heap.size, 0, none⟩ (.bool (ng Zu))).setCell ⟨w4.heap.size, 1, none⟩ (.slice a12 (ln (am Zu)) (ln (am Zu)))).setCell ⟨w4.heap.size + 1, 0, none⟩ (.bool (ng Zv))).setCell ⟨w4.heap.size + 1, 1, none⟩ (.slice c12 (ln (am Zv)) (ln (am Zv))))).cell? ⟨w.heap.size + 1, 1, none⟩ = some (.slice a1 len1 cap1) := (set2_far (by omega)).trans ((set2_far (by omega)).trans q11)
    have l300_ : (((((w12.setCell ⟨w4.heap.size, 0, none⟩ (.bool (ng Zu))).setCell ⟨w4.heap.size, 1, none⟩ (.slice a12 (ln (am Zu)) (ln (am Zu)))).setCell ⟨w4.heap.size + 1, 0, none⟩ (.bool (ng Zv))).setCell ⟨w4.heap.size + 1, 1, none⟩ (.slice c12 (ln (am Zv)) (ln (am Zv))))).cell? ⟨w3.heap.size, 0, none⟩ = some (.bool (ng Zu)) := (set2_far (by omega)).trans ((set2_far (by omega)).trans l300)
    have l301_ : (((((w12.setCell ⟨w4.heap.size, 0, none⟩ (.bool (ng Zu))).setCell ⟨w4.heap.size, 1, none⟩ (.slice a12 (ln (am Zu)) (ln (am Zu)))).setCell ⟨w4.heap.size + 1, 0, none⟩ (.bool (ng Zv))).setCell ⟨w4.heap.size + 1, 1, none⟩ (.slice c12 (ln (am Zv)) (ln (am Zv))))).cell? ⟨w3.heap.size, 1, none⟩ = some (.slice a11 (ln (am Zu)) (ln (am Zu))) := (set2_far (by omega)).trans ((set2_far (by omega)).trans l301)
    have l310_ : (((((w12.setCell ⟨w4.heap.size, 0, none⟩ (.bool (ng Zu))).setCell ⟨w4.heap.size, 1, none⟩ (.slice a12 (ln (am Zu)) (ln (am Zu)))).setCell ⟨w4.heap.size + 1, 0, none⟩ (.bool (ng Zv))).setCell ⟨w4.heap.size + 1, 1, none⟩ (.slice c12 (ln (am Zv)) (ln (am Zv))))).cell? ⟨w3.heap.size + 1, 0, none⟩ = some (.bool (ng Zv)) := (set2_far (by omega)).trans ((set2_far (by omega)).trans l310)
    have l311_ : (((((w12.setCell ⟨w4.heap.size, 0, none⟩ (.bool (ng Zu))).setCell ⟨w4.heap.size, 1, none⟩ (.slice a12 (ln (am Zu)) (ln (am Zu)))).setCell ⟨w4.heap.size + 1, 0, none⟩ (.bool (ng Zv))).setCell ⟨w4.heap.size + 1, 1, none⟩ (.slice c12 (ln (am Zv)) (ln (am Zv))))).cell? ⟨w3.heap.size + 1, 1, none⟩ = some (.slice c11 (ln (am Zv)) (ln (am Zv))) := (set2_far (by omega)).trans ((set2_far (by omega)).trans l311)
    have l400_ : (((((w12.setCell ⟨w4.heap.size, 0, none⟩ (.bool (ng Zu))).setCell ⟨w4.heap.size, 1, none⟩ (.slice a12 (ln (am Zu)) (ln (am Zu)))).setCell ⟨w4.heap.size + 1, 0, none⟩ (.bool (ng Zv))).setCell ⟨w4.heap.size + 1, 1, none⟩ (.slice c12 (ln (am Zv)) (ln (am Zv))))).cell? ⟨w4.heap.size, 0, none⟩ = some (.bool (ng Zu)) := (set2_far (by omega)).trans e0.1
    have l401_ : (((((w12.setCell ⟨w4.heap.size, 0, none⟩ (.bool (ng Zu))).setCell ⟨w4.heap.size, 1, none⟩ (.slice a12 (ln (am Zu)) (ln (am Zu)))).setCell ⟨w4.heap.size + 1, 0, none⟩ (.bool (ng Zv))).setCell ⟨w4.heap.size + 1, 1, none⟩ (.slice c12 (ln (am Zv)) (ln (am Zv))))).cell? ⟨w4.heap.size, 1, none⟩ = some (.slice a12 (ln (am Zu)) (ln (am Zu))) := (set2_far (by omega)).trans e0.2
    have l410_ : (((((w12.setCell ⟨w4.heap.size, 0, none⟩ (.bool (ng Zu))).setCell ⟨w4.heap.size, 1, none⟩ (.slice a12 (ln (am Zu)) (ln (am Zu)))).setCell ⟨w4.heap.size + 1, 0, none⟩ (.bool (ng Zv))).setCell ⟨w4.heap.size + 1, 1, none⟩ (.slice c12 (ln (am Zv)) (ln (am Zv))))).cell? ⟨w4.heap.size + 1, 0, none⟩ = some (.bool (ng Zv)) := e1.1
    have l411_ : (((((w12.setCell ⟨w4.heap.size, 0, none⟩ (.bool (ng Zu))).setCell ⟨w4.heap.size, 1, none⟩ (.slice a12 (ln (am Zu)) (ln (am Zu)))).setCell ⟨w4.heap.size + 1, 0, none⟩ (.bool (ng Zv))).setCell ⟨w4.heap.size + 1, 1, none⟩ (.slice c12 (ln (am Zv)) (ln (am Zv))))).cell? ⟨w4.heap.size + 1, 1, none⟩ = some (.slice c12 (ln (am Zv)) (ln (am Zv))) := e1.2
    have hL30_ := (((hL30.setCell ⟨w4.heap.size, 0, none⟩ (.bool (ng Zu))).setCell ⟨w4.heap.size, 1, none⟩ (.slice a12 (ln (am Zu)) (ln (am Zu)))).setCell ⟨w4.heap.size + 1, 0, none⟩ (.bool (ng Zv))).setCell ⟨w4.heap.size + 1, 1, none⟩ (.slice c12 (ln (am Zv)) (ln (am Zv)))
    have hL31_ := (((hL31.setCell ⟨w4.heap.size, 0, none⟩ (.bool (ng Zu))).setCell ⟨w4.heap.size, 1, none⟩ (.slice a12 (ln (am Zu)) (ln (am Zu)))).setCell ⟨w4.heap.size + 1, 0, none⟩ (.bool (ng Zv))).setCell ⟨w4.heap.size + 1, 1, none⟩ (.slice c12 (ln (am Zv)) (ln (am Zv)))
    have hL40_ := (((hL40.setCell ⟨w4.heap.size, 0, none⟩ (.bool (ng Zu))).setCell ⟨w4.heap.size, 1, none⟩ (.slice a12 (ln (am Zu)) (ln (am Zu)))).setCell ⟨w4.heap.size + 1, 0, none⟩ (.bool (ng Zv))).setCell ⟨w4.heap.size + 1, 1, none⟩ (.slice c12 (ln (am Zv)) (ln (am Zv)))
    have hL41_ := (((hL41.setCell ⟨w4.heap.size, 0, none⟩ (.bool (ng Zu))).setCell ⟨w4.heap.size, 1, none⟩ (.slice a12 (ln (am Zu)) (ln (am Zu)))).setCell ⟨w4.heap.size + 1, 0, none⟩ (.bool (ng Zv))).setCell ⟨w4.heap.size + 1, 1, none⟩ (.slice c12 (ln (am Zv)) (ln (am Zv)))
    replace h11 := h11.mid hM
    replace g11 := g11.mid hM
    replace h12 := h12.mid hM
    replace g12 := g12.mid hM
    replace hBW := hBW.trans (hM.below hBW.size)
    replace hLs := Nat.le_trans hLs hM.size
    clear hM e0 e1
    go_wp2_with fail
    clear q00 q01 q10 q11 l300 l301 l310 l311 l400 l401 l410 l411 hL30 hL31 hL40 hL41 fzhL30 fzhL31 fzhL40 fzhL41
    generalize ((((w12.setCell ⟨w4.heap.size, 0, none⟩ (.bool (ng Zu))).setCell ⟨w4.heap.size, 1, none⟩ (.slice a12 (ln (am Zu)) (ln (am Zu)))).setCell ⟨w4.heap.size + 1, 0, none⟩ (.bool (ng Zv))).setCell ⟨w4.heap.size + 1, 1, none⟩ (.slice c12 (ln (am Zv)) (ln (am Zv)))) = w12y at q00_ q01_ q10_ q11_ l300_ l301_ l310_ l311_ l400_ l401_ l410_ l411_ hL30_ hL31_ hL40_ hL41_ h11 g11 h12 g12 hBW hLs ⊢
    have q00 := q00_
    clear q00_
    have q01 := q01_
    clear q01_
    have q10 := q10_
    clear q10_
    have q11 := q11_
    clear q11_
    have l300 := l300_
    clear l300_
    have l301 := l301_
    clear l301_
    have l310 := l310_
    clear l310_
    have l311 := l311_
    clear l311_
    have l400 := l400_
    clear l400_
    have l401 := l401_
    clear l401_
    have l410 := l410_
    clear l410_
    have l411 := l411_
    clear l411_
    have hL30 := hL30_
    clear hL30_
    have hL31 := hL31_
    clear hL31_
    have hL40 := hL40_
    clear hL40_
    have hL41 := hL41_
    clear hL41_
    refine (sameI_is (Zu) a11 a12 _ _ _ (by omega) h11.seg h12.seg).mono ?_
    rintro e w13 ⟨rfl, b13⟩
    replace hBW := hBW.trans (b13.mono hBW.size)
    replace q00 := below_cell b13 q00
    replace q01 := below_cell b13 q01
    replace q10 := below_cell b13 q10
    replace q11 := below_cell b13 q11
    replace l300 := below_cell b13 l300
    replace l301 := below_cell b13 l301
    replace l310 := below_cell b13 l310
    replace l311 := below_cell b13 l311
    replace l400 := below_cell b13 l400
    replace l401 := below_cell b13 l401
    replace l410 := below_cell b13 l410
    replace l411 := below_cell b13 l411
    replace hL30 := below_row b13 hL30
    replace hL31 := below_row b13 hL31
    replace hL40 := below_row b13 hL40
    replace hL41 := below_row b13 hL41
    replace h11 := h11.later b13
    replace g11 := g11.later b13
    replace h12 := h12.later b13
    replace g12 := g12.later b13
    replace hLs := Nat.le_trans hLs b13.size
    go_wp2_with fail
    refine (sameI_is (Zv) c11 c12 _ _ _ (by omega) g11.seg g12.seg).mono ?_
    rintro e w14 ⟨rfl, b14⟩
    replace hBW := hBW.trans (b14.mono hBW.size)
    replace q00 := below_cell b14 q00
    replace q01 := below_cell b14 q01
    replace q10 := below_cell b14 q10
    replace q11 := below_cell b14 q11
    replace l300 := below_cell b14 l300
    replace l301 := below_cell b14 l301
    replace l310 := below_cell b14 l310
    replace l311 := below_cell b14 l311
    replace l400 := below_cell b14 l400
    replace l401 := below_cell b14 l401
    replace l410 := below_cell b14 l410
    replace l411 := below_cell b14 l411
    replace hL30 := below_row b14 hL30
    replace hL31 := below_row b14 hL31
    replace hL40 := below_row b14 hL40
    replace hL41 := below_row b14 hL41
    replace h11 := h11.later b14
    replace g11 := g11.later b14
    replace h12 := h12.later b14
    replace g12 := g12.later b14
    replace hLs := Nat.le_trans hLs b14.size
    clear h11 g11 h12 g12
    go_wp2
    go_ret
    exact ⟨rfl, hB.trans (hBW.mono hB.size)⟩

set_option maxRecDepth 100000 in
theorem contract (H : Type) (enc : TypeId × Value → H) (W : World) (base : Nat) (args : Array Value) (ds gs : List (DataW H)) (before : List MemPlace)
    (hval : ∀ (j : Nat) t v, Try.f5.params[j]? = some t → args[j]? = some v → Value.okWide Try.prog W .any base t v)
    (hW : DataW.Whole enc Try.prog Try.f5.params.toList Rows.wholeDividesSpec.vars false W args.toList ds gs before)
    (hsz : (DataW.weightsEach Try.prog (Try.f5.params.toList ++ Rows.wholeDividesSpec.plain.varTypes Try.prog) (ds ++ gs)).all (· ≤ reachBytes) = true) :
    Calls Try.prog 5 args W fun e W' => ∃ v, e = .returned v ∧ Rows.wholeDividesSpec.post enc Try.prog Try.f5 false true false false W args v W' := by
  have hW' := hW
  obtain ⟨p, q, hA0, hV, rfl, hfz, hnd⟩ := hW
  have hA : DataW.TrodAll enc Try.prog W 0 (fun _ => true) true Try.f5.params.toList args.toList ds p := hA0
  rw [Try.params5] at hA hval hsz
  obtain ⟨v0, vs0, d0, ds0, p0, q0, hargs, rfl, rfl, h0, r0⟩ := trodAll_cons hA
  obtain ⟨v1, vs1, d1, ds1, p1, q1, rfl, rfl, rfl, h1, r1⟩ := trodAll_cons r0
  obtain ⟨rfl, rfl, rfl⟩ := trodAll_nil r1
  obtain rfl : args = #[v0, v1] := by cases args; simp_all
  obtain ⟨rfl, rfl⟩ := trodVars_none hV
  have lt0 : ∀ x ∈ p0, x.block < W.heap.size := by obtain ⟨m, hm⟩ := h0; exact DataW.trod_lt m _ _ _ hm
  obtain ⟨s0, a0, len0, cap0, X0, rfl, hS0, hc0, hb0, hu0⟩ := open_Int (hval 0 25 v0 rfl rfl) h0 (sized_at 0 hsz rfl rfl)
  have lt1 : ∀ x ∈ p1, x.block < W.heap.size := by obtain ⟨m, hm⟩ := h1; exact DataW.trod_lt m _ _ _ hm
  obtain ⟨s1, a1, len1, cap1, X1, rfl, hS1, hc1, hb1, hu1⟩ := open_Int (hval 1 25 v1 rfl rfl) h1 (sized_at 1 hsz rfl rfl)
  clear hA0
  simp only [List.append_nil] at hW'
  refine (walk s0 a0 len0 cap0 X0 s1 a1 len1 cap1 X1 W hS0 hc0 hb0 hS1 hc1 hb1).mono fun e W' ⟨he, bel⟩ => ?_
  subst he
  exact ⟨_, rfl, _, _, _, [], _, [], hW', trodAll_mk1 (shut_bool Try.underlying4 _), (trodAll_cons_mk (Below.trod laidOut (by kernel_rfl) (of_decide_eq_true (by kernel_rfl)) h0 bel lt0) (trodAll_cons_mk (Below.trod laidOut (by kernel_rfl) (of_decide_eq_true (by kernel_rfl)) h1 bel lt1) trodAll_mk0)), rfl, bel.frame _, fun h => by cases h⟩

set_option maxRecDepth 100000 in
theorem lifted (os : Os) (started : os.Started) (H : Type) (enc : TypeId × Value → H) :
    ReturnsInHanded {} Try.checked os 5 .any (Rows.wholeDividesSpec.pre6 enc Try.prog Try.f5 Rows.wholeDividesRow.domain false) (Rows.wholeDividesSpec.post enc Try.prog Try.f5 false true false false) := by
  refine returnsInHanded_of_change_sized (C := Try.checked) own started (by kernel_rfl) Try.func5
    (ChangeSpec.witness6 (enc := enc) (C := Try.checked) false ⟨#[], #[.agg #[.bool false, .slice none 0 0], .agg #[.bool false, .slice none 0 0]], []⟩ 8 (by kernel_rfl) (by kernel_rfl) (by kernel_rfl) (by kernel_rfl)) ?_
  intro W base args ds gs before hval hW _ hsz _
  exact contract H enc W base args ds gs before hval hW hsz

theorem over : Rows.wholeDividesRow.holds Try.pinned (OpenSpec.ofChange Rows.wholeDividesSpec) :=
  OpenClaim.holds_of_wide 5 Try.f5 rfl rfl rfl rfl rfl rfl rfl ⟨rfl, rfl, rfl, rfl, rfl⟩ rfl rfl rfl rfl rfl (by kernel_rfl) Try.func5 (by kernel_rfl)
    (of_decide_eq_true (by kernel_rfl)) (by unfold Func.isWrapper; first | (rw [if_pos (by decide +kernel)]; kernel_rfl) | (rw [if_neg (by decide +kernel)]; exact ⟨rfl, rfl⟩))
    (fun os started H enc _ => lifted os started H enc)

end Go.Proofs.Ytpejkdabhijcoaa.wholeDivides
namespace Go.Proofs.Ytpejkdabhijcoaa
theorem wholeDivides_holds : Rows.WholeDividesSaid := wholeDivides.over
#print axioms wholeDivides_holds
end Go.Proofs.Ytpejkdabhijcoaa
