/-
  The three ways to divide, by what they must be; within.
-/
import Derived.Test.YtpejkdabhijcoabWI9
import Derived.Test.YtpejkdabhijcoabWI6
namespace Go.Proofs.Ytpejkdabhijcoab
open Go.RowKit
set_option linter.unusedVariables false

theorem sg_abs (s : Bool) (X : Nat) : (sg s X).natAbs = X := am_sg s X
theorem am_lt {Z : Int} {Y : Nat} (h1 : -(Y : Int) < Z) (h2 : Z < Y) : am Z < Y := by unfold am; omega
theorem am_le {Z : Int} {Y : Nat} (h1 : -(Y : Int) ≤ Z) (h2 : Z ≤ Y) : am Z ≤ Y := by unfold am; omega
theorem sg_bounds (s : Bool) (X : Nat) : -(X : Int) ≤ sg s X ∧ sg s X ≤ X := by cases s <;> simp [sg] <;> omega
theorem ln_of_le {Z : Int} {Y n k : Nat} (h : am Z ≤ Y) (hY : Y < BB ^ n) (hk : n ≤ k) : ln (am Z) ≤ k := by
  have := ln_le_of_lt (Nat.lt_of_le_of_lt h hY); omega

theorem quo_of (s : Bool) (ao : Option Addr) (n cap X : Nat) (t : Bool) (ao2 : Option Addr) (m cap2 Y : Nat) (hc : n ≤ cap) (hm : n ≤ 70368744177650) (hc2 : m ≤ cap2) (hm2 : m ≤ 70368744177650) (hY : Y ≠ 0) :
    ∃ (P R : Nat) (Zq Zr : Int), X = P * Y + R ∧ R < Y ∧ sg (s != t) P = Zq ∧ sg s R = Zr ∧ Zq * sg t Y + Zr = sg s X ∧ am Zr < Y ∧ am Zq ≤ X ∧
      (∀ w', Seg w' ao X n → Seg w' ao2 Y m → Calls Try.prog 17 #[.agg #[.bool s, .slice ao n cap], .agg #[.bool t, .slice ao2 m cap2]] w' fun e w'' => ∃ aq ar, e = .returned (.tuple #[.agg #[.bool (ng Zq), .slice aq (ln (am Zq)) (ln (am Zq))], .agg #[.bool (ng Zr), .slice ar (ln (am Zr)) (ln (am Zr))], .int .i64 0]) ∧ New w' w'' aq (am Zq) (ln (am Zq)) ∧ New w' w'' ar (am Zr) (ln (am Zr))) := by
  have h : X = X / Y * Y + X % Y := by have := Nat.div_add_mod X Y; rw [Nat.mul_comm]; omega
  have hR : X % Y < Y := Nat.mod_lt _ (by omega)
  refine ⟨X / Y, X % Y, _, _, h, hR, rfl, rfl, ?_, ?_, ?_, ?_⟩
  · rw [sg_mul, show ((s != t) != t) = s by cases s <;> cases t <;> rfl, sg_add, ← h]
  · rw [am_sg]; exact hR
  · rw [am_sg]; exact Nat.div_le_self _ _
  · intro w' k1 k2
    exact wQuo_is s ao n cap X t ao2 m cap2 Y _ _ _ _ w' hc (by omega) k1 hc2 (by omega) k2 h hR rfl rfl

theorem floor_of (s : Bool) (ao : Option Addr) (n cap X : Nat) (t : Bool) (ao2 : Option Addr) (m cap2 Y : Nat) (hc : n ≤ cap) (hm : n ≤ 70368744177650) (hc2 : m ≤ cap2) (hm2 : m ≤ 70368744177650) (hY : Y ≠ 0) :
    ∃ (Zf Zg : Int), Zf * sg t Y + Zg = sg s X ∧ (sgn Zg = 0 ∨ sgn Zg = sgn (sg t Y)) ∧ am Zg < Y ∧ am Zf ≤ X + 1 ∧
      (∀ w', Seg w' ao X n → Seg w' ao2 Y m → Calls Try.prog 18 #[.agg #[.bool s, .slice ao n cap], .agg #[.bool t, .slice ao2 m cap2]] w' fun e w'' => ∃ aq ar, e = .returned (.tuple #[.agg #[.bool (ng Zf), .slice aq (ln (am Zf)) (ln (am Zf))], .agg #[.bool (ng Zg), .slice ar (ln (am Zg)) (ln (am Zg))], .int .i64 0]) ∧ New w' w'' aq (am Zf) (ln (am Zf)) ∧ New w' w'' ar (am Zg) (ln (am Zg))) := by
  obtain ⟨P, R, Zq, Zr, h, hR, hq, hr, hsum, hlr, hlq, _⟩ := quo_of s ao n cap X t ao2 m cap2 Y hc hm hc2 hm2 hY
  have hsB : sgn (sg t Y) = sd t := sgn_sg hY
  by_cases hlow : sgn Zr * sd t < 0
  · refine ⟨Zq - 1, Zr + sg t Y, ?_, ?_, ?_, ?_, fun w' k1 k2 => wFloor_low s ao n cap X t ao2 m cap2 Y P R Zq Zr _ _ w' hc (by omega) k1 hc2 (by omega) k2 h hR hq hr hlow rfl rfl⟩
    · rw [Int.sub_mul]; omega
    · right
      rw [hsB]
      unfold am at hlr
      cases t
      · have h1 : Zr < 0 := by
          rcases Int.lt_or_le Zr 0 with h' | h'
          · exact h'
          · have := sgn_range Zr
            have h2 : 0 ≤ sgn Zr := by unfold sgn; rw [if_neg (by omega)]; split <;> omega
            simp only [sd, Bool.false_eq_true, if_false] at hlow; omega
        rw [sgn_pos (by simp only [sg, Bool.false_eq_true, if_false]; omega)]; rfl
      · have h1 : 0 < Zr := by
          rcases Int.lt_or_le 0 Zr with h' | h'
          · exact h'
          · have h2 : sgn Zr ≤ 0 := by unfold sgn; split; omega; split <;> omega
            simp only [sd, if_true] at hlow; omega
        rw [sgn_neg (by simp only [sg, if_true]; omega)]; rfl
    · unfold am at hlr ⊢
      cases t
      · have h1 : Zr < 0 := by
          rcases Int.lt_or_le Zr 0 with h' | h'
          · exact h'
          · have h2 : 0 ≤ sgn Zr := by unfold sgn; rw [if_neg (by omega)]; split <;> omega
            simp only [sd, Bool.false_eq_true, if_false] at hlow; omega
        simp only [sg, Bool.false_eq_true, if_false]; omega
      · have h1 : 0 < Zr := by
          rcases Int.lt_or_le 0 Zr with h' | h'
          · exact h'
          · have h2 : sgn Zr ≤ 0 := by unfold sgn; split; omega; split <;> omega
            simp only [sd, if_true] at hlow; omega
        simp only [sg, if_true]; omega
    · unfold am at hlq ⊢; omega
  · refine ⟨Zq, Zr, hsum, ?_, hlr, by omega, fun w' k1 k2 => wFloor_high s ao n cap X t ao2 m cap2 Y P R Zq Zr w' hc (by omega) k1 hc2 (by omega) k2 h hR hq hr hlow⟩
    rw [hsB]
    have h1 := sgn_range Zr
    cases t
    · simp only [sd, Bool.false_eq_true, if_false] at hlow ⊢; omega
    · simp only [sd, if_true] at hlow ⊢; omega

theorem euclid_of (s : Bool) (ao : Option Addr) (n cap X : Nat) (t : Bool) (ao2 : Option Addr) (m cap2 Y : Nat) (hc : n ≤ cap) (hm : n ≤ 70368744177650) (hc2 : m ≤ cap2) (hm2 : m ≤ 70368744177650) (hY : Y ≠ 0) (hX : X < BB ^ n) (hYm : Y < BB ^ m) :
    ∃ (Zf Zg : Int), Zf * sg t Y + Zg = sg s X ∧ 0 ≤ Zg ∧ am Zg < Y ∧ am Zf ≤ X + 2 ∧
      (∀ w', Seg w' ao X n → Seg w' ao2 Y m → Calls Try.prog 19 #[.agg #[.bool s, .slice ao n cap], .agg #[.bool t, .slice ao2 m cap2]] w' fun e w'' => ∃ aq ar, e = .returned (.tuple #[.agg #[.bool (ng Zf), .slice aq (ln (am Zf)) (ln (am Zf))], .agg #[.bool (ng Zg), .slice ar (ln (am Zg)) (ln (am Zg))], .int .i64 0]) ∧ New w' w'' aq (am Zf) (ln (am Zf)) ∧ New w' w'' ar (am Zg) (ln (am Zg))) := by
  obtain ⟨Zq, Zr, hsum, hsg, hlr, hlq, HF⟩ := floor_of s ao n cap X t ao2 m cap2 Y hc hm hc2 hm2 hY
  have l1 : ln (am Zr) ≤ 70368744177660 := ln_of_le (Nat.le_of_lt hlr) hYm (by omega)
  have l2 : ln (am Zq) ≤ 70368744177660 := by
    have h1 : X + 1 < BB ^ (n + 1) := by
      rw [pow_succ']
      have h2 : BB ^ n * 2 ≤ BB ^ n * BB := Nat.mul_le_mul_left _ (by rw [BB_eq]; omega)
      omega
    exact ln_of_le hlq h1 (by omega)
  have hsB : sgn (sg t Y) = sd t := sgn_sg hY
  by_cases hlow : Zr < 0
  · have ht : t = true := by
      rw [sgn_neg hlow, hsB] at hsg
      cases t
      · simp [sd] at hsg
      · rfl
    subst ht
    refine ⟨Zq + 1, Zr - sg true Y, ?_, ?_, ?_, ?_, fun w' k1 k2 => wEuclid_low s ao n cap X true ao2 m cap2 Y Zq Zr _ _ w' k1 hc2 (by omega) k2 l2 l1 HF hlow rfl rfl⟩
    · rw [Int.add_mul]; omega
    · unfold am at hlr; simp only [sg, if_true]; omega
    · unfold am at hlr ⊢; simp only [sg, if_true]; omega
    · unfold am at hlq ⊢; omega
  · exact ⟨Zq, Zr, hsum, by omega, hlr, by omega, fun w' k1 k2 => wEuclid_high s ao n cap X t ao2 m cap2 Y Zq Zr w' k1 k2 l2 l1 HF (by omega)⟩

set_option maxHeartbeats 2000000 in
set_option maxRecDepth 100000 in
theorem within_is (Z : Int) (s0 : Bool) (a0 : Option Addr) (len0 cap0 X0 : Nat) (s1 : Bool) (a1 : Option Addr) (len1 cap1 X1 : Nat) (z : Int) (w : World) (hc0 : len0 ≤ cap0) (hb0 : len0 ≤ 70368744177664) (hS0 : Seg w a0 X0 len0) (hc1 : len1 ≤ cap1) (hb1 : len1 ≤ 70368744177664) (hS1 : Seg w a1 X1 len1) (hZ : sg s0 X0 = Z) (hsg : sgn Z = 0 ∨ sgn Z = z) (hlt : X0 < X1) :
    Calls Try.prog 20 #[.agg #[.bool s0, .slice a0 len0 cap0], .agg #[.bool s1, .slice a1 len1 cap1], .int .i64 z] w fun e w' => e = .returned (.bool true) ∧ Below w.heap.size w w' := by
  obtain ⟨C, hC⟩ : ∃ C, sgn Z = C := ⟨_, rfl⟩
  rw [hC] at hsg
  have l0 := ln_le_of_lt hS0.1
  have l1 := ln_le_of_lt hS1.1
  have KS : ∀ w', Seg w' a0 X0 len0 → Calls Try.prog 15 #[.agg #[.bool s0, .slice a0 len0 cap0]] w' fun e w'' => e = .returned (.int .i64 C) ∧ Below w'.heap.size w' w'' :=
    fun w' h1 => by have := wSign_is s0 a0 len0 cap0 X0 Z w' hc0 hb0 h1 hZ; rwa [hC] at this
  have KC : ∀ w' b0 b1, Seg w' b0 X0 (ln X0) → Seg w' b1 X1 (ln X1) → Calls Try.prog 14 #[.agg #[.bool false, .slice b0 (ln X0) (ln X0)], .agg #[.bool false, .slice b1 (ln X1) (ln X1)]] w' fun e w'' => e = .returned (.int .i64 (-1)) ∧ Below w'.heap.size w' w'' :=
    fun w' b0 b1 h1 h2 => by
      have := wCmp_is false b0 _ _ X0 false b1 _ _ X1 w' (Nat.le_refl _) (by omega) h1 (Nat.le_refl _) (by omega) h2
      rwa [sg_false, sg_false, sgn_neg (by omega)] at this
  have HKS := hide' KS
  have HKC := hide' KC
  clear KS KC hZ hC hlt
  by_cases h0 : C = 0
  · subst h0
    clear hsg
    go_enter Try.func20, Try.ntmps20
    go_wp2_with fail
    have q00 : (((w.alloc (.cells #[.bool s0, .slice a0 len0 cap0] 25)).alloc (.cells #[.bool s1, .slice a1 len1 cap1] 25))).cell? ⟨w.heap.size, 0, none⟩ = some (.bool s0) := by go_simp
    have q01 : (((w.alloc (.cells #[.bool s0, .slice a0 len0 cap0] 25)).alloc (.cells #[.bool s1, .slice a1 len1 cap1] 25))).cell? ⟨w.heap.size, 1, none⟩ = some (.slice a0 len0 cap0) := by go_simp
    have q10 : (((w.alloc (.cells #[.bool s0, .slice a0 len0 cap0] 25)).alloc (.cells #[.bool s1, .slice a1 len1 cap1] 25))).cell? ⟨w.heap.size + 1, 0, none⟩ = some (.bool s1) := by go_simp
    have q11 : (((w.alloc (.cells #[.bool s0, .slice a0 len0 cap0] 25)).alloc (.cells #[.bool s1, .slice a1 len1 cap1] 25))).cell? ⟨w.heap.size + 1, 1, none⟩ = some (.slice a1 len1 cap1) := by go_simp
    have hB : Below w.heap.size w (((w.alloc (.cells #[.bool s0, .slice a0 len0 cap0] 25)).alloc (.cells #[.bool s1, .slice a1 len1 cap1] 25))) := (((Below.refl _ _).alloc (by (try simp only [World.size_alloc]); omega) _).alloc (by (try simp only [World.size_alloc]); omega) _)
    have hz : (((w.alloc (.cells #[.bool s0, .slice a0 len0 cap0] 25)).alloc (.cells #[.bool s1, .slice a1 len1 cap1] 25))).heap.size = w.heap.size + 1 + 1 := by simp only [World.size_alloc]
    generalize ((w.alloc (.cells #[.bool s0, .slice a0 len0 cap0] 25)).alloc (.cells #[.bool s1, .slice a1 len1 cap1] 25)) = W at q00 q01 q10 q11 hB hz ⊢
    have hBW : Below W.heap.size W W := Below.refl _ _
    refine (HKS.out _ (sb hS0 hB hBW)).mono ?_
    rintro e w3 ⟨rfl, b3⟩
    replace hBW := hBW.trans (b3.mono hBW.size)
    replace q00 := below_cell b3 q00
    replace q01 := below_cell b3 q01
    replace q10 := below_cell b3 q10
    replace q11 := below_cell b3 q11
    go_wp2_with fail
    refine (wAbs_any s0 a0 len0 cap0 X0 _ hc0 hb0 (sb hS0 hB hBW)).mono ?_
    rintro e w4 ⟨a4, rfl, h1⟩
    have b4 := h1.below
    replace h1 := h1.back hBW
    replace hBW := hBW.trans (b4.mono hBW.size)
    replace q00 := below_cell b4 q00
    replace q01 := below_cell b4 q01
    replace q10 := below_cell b4 q10
    replace q11 := below_cell b4 q11
    go_wp2_with fail
    have l400 : ((w4.alloc (.cells #[.bool false, .slice a4 (ln X0) (ln X0)] 25))).cell? ⟨w4.heap.size, 0, none⟩ = some (.bool false) := by go_simp
    have l401 : ((w4.alloc (.cells #[.bool false, .slice a4 (ln X0) (ln X0)] 25))).cell? ⟨w4.heap.size, 1, none⟩ = some (.slice a4 (ln X0) (ln X0)) := by go_simp
    have cb4 : Below w4.heap.size w4 ((w4.alloc (.cells #[.bool false, .slice a4 (ln X0) (ln X0)] 25))) := ((Below.refl _ _).alloc (by (try simp only [World.size_alloc]); omega) _)
    replace hBW := hBW.trans (cb4.mono hBW.size)
    replace q00 := below_cell cb4 q00
    replace q01 := below_cell cb4 q01
    replace q10 := below_cell cb4 q10
    replace q11 := below_cell cb4 q11
    replace h1 := h1.later cb4
    generalize (w4.alloc (.cells #[.bool false, .slice a4 (ln X0) (ln X0)] 25)) = w4x at q00 q01 q10 q11 l400 l401 h1 hBW cb4 ⊢
    clear cb4
    replace hBW := hBW.drew
    replace h1 := h1.drew
    first
      | go_region_held3 (fun w' => w'.cell? ⟨w.heap.size, 0, none⟩ = some (.bool s0) ∧ w'.cell? ⟨w.heap.size, 1, none⟩ = some (.slice a0 len0 cap0) ∧ w'.cell? ⟨w.heap.size + 1, 0, none⟩ = some (.bool s1) ∧ w'.cell? ⟨w.heap.size + 1, 1, none⟩ = some (.slice a1 len1 cap1) ∧ w'.cell? ⟨w4.heap.size, 0, none⟩ = some (.bool false) ∧ w'.cell? ⟨w4.heap.size, 1, none⟩ = some (.slice a4 (ln X0) (ln X0)) ∧ Below w.heap.size w w')
          (first | exact ⟨q00, q01, q10, q11, l400, l401, hB.trans (hBW.mono hB.size)⟩ | exact kp6 b5 (by assumption) | exact kp6 b6 (by assumption) | exact kp6 (below_alloc _) (by assumption))
          (first
            | (go_at_call 23; (fail_if_success clear b5); refine (wAbs_any s1 a1 len1 cap1 X1 _ hc1 hb1 (sb hS1 hB hBW)).mono ?_; rintro e w5 ⟨a5, rfl, h2⟩; have b5 := h2.below; replace h2 := h2.back hBW; replace hBW := hBW.trans (b5.mono hBW.size); replace q00 := below_cell b5 q00; replace q01 := below_cell b5 q01; replace q10 := below_cell b5 q10; replace q11 := below_cell b5 q11; replace l400 := below_cell b5 l400; replace l401 := below_cell b5 l401; replace h1 := h1.later b5)
            | (go_at_call 14; refine (HKC.out _ a4 a5 h1.seg h2.seg).mono ?_; rintro e w6 ⟨rfl, b6⟩; replace hBW := hBW.trans (b6.mono hBW.size); replace q00 := below_cell b6 q00; replace q01 := below_cell b6 q01; replace q10 := below_cell b6 q10; replace q11 := below_cell b6 q11; replace l400 := below_cell b6 l400; replace l401 := below_cell b6 l401; replace h1 := h1.later b6; replace h2 := h2.later b6))
      | fail
    go_wp2
    go_ret
    exact ⟨rfl, hB.trans (hBW.mono hB.size)⟩
  · have hz : C = z := by rcases hsg with h | h; exact absurd h h0; exact h
    subst hz
    have hb0' : (C != 0) = true := by simpa using h0
    have hb1' : (C != C) = false := by simp
    clear hsg h0
    go_enter Try.func20, Try.ntmps20
    go_wp2_with fail
    have q00 : (((w.alloc (.cells #[.bool s0, .slice a0 len0 cap0] 25)).alloc (.cells #[.bool s1, .slice a1 len1 cap1] 25))).cell? ⟨w.heap.size, 0, none⟩ = some (.bool s0) := by go_simp
    have q01 : (((w.alloc (.cells #[.bool s0, .slice a0 len0 cap0] 25)).alloc (.cells #[.bool s1, .slice a1 len1 cap1] 25))).cell? ⟨w.heap.size, 1, none⟩ = some (.slice a0 len0 cap0) := by go_simp
    have q10 : (((w.alloc (.cells #[.bool s0, .slice a0 len0 cap0] 25)).alloc (.cells #[.bool s1, .slice a1 len1 cap1] 25))).cell? ⟨w.heap.size + 1, 0, none⟩ = some (.bool s1) := by go_simp
    have q11 : (((w.alloc (.cells #[.bool s0, .slice a0 len0 cap0] 25)).alloc (.cells #[.bool s1, .slice a1 len1 cap1] 25))).cell? ⟨w.heap.size + 1, 1, none⟩ = some (.slice a1 len1 cap1) := by go_simp
    have hB : Below w.heap.size w (((w.alloc (.cells #[.bool s0, .slice a0 len0 cap0] 25)).alloc (.cells #[.bool s1, .slice a1 len1 cap1] 25))) := (((Below.refl _ _).alloc (by (try simp only [World.size_alloc]); omega) _).alloc (by (try simp only [World.size_alloc]); omega) _)
    have hz : (((w.alloc (.cells #[.bool s0, .slice a0 len0 cap0] 25)).alloc (.cells #[.bool s1, .slice a1 len1 cap1] 25))).heap.size = w.heap.size + 1 + 1 := by simp only [World.size_alloc]
    generalize ((w.alloc (.cells #[.bool s0, .slice a0 len0 cap0] 25)).alloc (.cells #[.bool s1, .slice a1 len1 cap1] 25)) = W at q00 q01 q10 q11 hB hz ⊢
    have hBW : Below W.heap.size W W := Below.refl _ _
    refine (HKS.out _ (sb hS0 hB hBW)).mono ?_
    rintro e w3 ⟨rfl, b3⟩
    replace hBW := hBW.trans (b3.mono hBW.size)
    replace q00 := below_cell b3 q00
    replace q01 := below_cell b3 q01
    replace q10 := below_cell b3 q10
    replace q11 := below_cell b3 q11
    go_wp2_with fail
    refine (HKS.out _ (sb hS0 hB hBW)).mono ?_
    rintro e w4 ⟨rfl, b4⟩
    replace hBW := hBW.trans (b4.mono hBW.size)
    replace q00 := below_cell b4 q00
    replace q01 := below_cell b4 q01
    replace q10 := below_cell b4 q10
    replace q11 := below_cell b4 q11
    go_wp2_with fail
    refine (wAbs_any s0 a0 len0 cap0 X0 _ hc0 hb0 (sb hS0 hB hBW)).mono ?_
    rintro e w5 ⟨a5, rfl, h1⟩
    have b5 := h1.below
    replace h1 := h1.back hBW
    replace hBW := hBW.trans (b5.mono hBW.size)
    replace q00 := below_cell b5 q00
    replace q01 := below_cell b5 q01
    replace q10 := below_cell b5 q10
    replace q11 := below_cell b5 q11
    go_wp2_with fail
    have l500 : ((w5.alloc (.cells #[.bool false, .slice a5 (ln X0) (ln X0)] 25))).cell? ⟨w5.heap.size, 0, none⟩ = some (.bool false) := by go_simp
    have l501 : ((w5.alloc (.cells #[.bool false, .slice a5 (ln X0) (ln X0)] 25))).cell? ⟨w5.heap.size, 1, none⟩ = some (.slice a5 (ln X0) (ln X0)) := by go_simp
    have cb5 : Below w5.heap.size w5 ((w5.alloc (.cells #[.bool false, .slice a5 (ln X0) (ln X0)] 25))) := ((Below.refl _ _).alloc (by (try simp only [World.size_alloc]); omega) _)
    replace hBW := hBW.trans (cb5.mono hBW.size)
    replace q00 := below_cell cb5 q00
    replace q01 := below_cell cb5 q01
    replace q10 := below_cell cb5 q10
    replace q11 := below_cell cb5 q11
    replace h1 := h1.later cb5
    generalize (w5.alloc (.cells #[.bool false, .slice a5 (ln X0) (ln X0)] 25)) = w5x at q00 q01 q10 q11 l500 l501 h1 hBW cb5 ⊢
    clear cb5
    replace hBW := hBW.drew
    replace h1 := h1.drew
    first
      | go_region_held3 (fun w' => w'.cell? ⟨w.heap.size, 0, none⟩ = some (.bool s0) ∧ w'.cell? ⟨w.heap.size, 1, none⟩ = some (.slice a0 len0 cap0) ∧ w'.cell? ⟨w.heap.size + 1, 0, none⟩ = some (.bool s1) ∧ w'.cell? ⟨w.heap.size + 1, 1, none⟩ = some (.slice a1 len1 cap1) ∧ w'.cell? ⟨w5.heap.size, 0, none⟩ = some (.bool false) ∧ w'.cell? ⟨w5.heap.size, 1, none⟩ = some (.slice a5 (ln X0) (ln X0)) ∧ Below w.heap.size w w')
          (first | exact ⟨q00, q01, q10, q11, l500, l501, hB.trans (hBW.mono hB.size)⟩ | exact kp6 b6 (by assumption) | exact kp6 b7 (by assumption) | exact kp6 (below_alloc _) (by assumption))
          (first
            | (go_at_call 23; (fail_if_success clear b6); refine (wAbs_any s1 a1 len1 cap1 X1 _ hc1 hb1 (sb hS1 hB hBW)).mono ?_; rintro e w6 ⟨a6, rfl, h2⟩; have b6 := h2.below; replace h2 := h2.back hBW; replace hBW := hBW.trans (b6.mono hBW.size); replace q00 := below_cell b6 q00; replace q01 := below_cell b6 q01; replace q10 := below_cell b6 q10; replace q11 := below_cell b6 q11; replace l500 := below_cell b6 l500; replace l501 := below_cell b6 l501; replace h1 := h1.later b6)
            | (go_at_call 14; refine (HKC.out _ a5 a6 h1.seg h2.seg).mono ?_; rintro e w7 ⟨rfl, b7⟩; replace hBW := hBW.trans (b7.mono hBW.size); replace q00 := below_cell b7 q00; replace q01 := below_cell b7 q01; replace q10 := below_cell b7 q10; replace q11 := below_cell b7 q11; replace l500 := below_cell b7 l500; replace l501 := below_cell b7 l501; replace h1 := h1.later b7; replace h2 := h2.later b7))
      | fail
    go_wp2
    go_ret
    exact ⟨rfl, hB.trans (hBW.mono hB.size)⟩
end Go.Proofs.Ytpejkdabhijcoab
