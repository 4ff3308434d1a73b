/-
  The three ways to divide, by what they must be; within.
-/
import Derived.Test.YtejlnodillnoaaaGreatDoorWI8
namespace Go.Proofs.YtejlnodillnoaaaGreatDoor
open Go.RowKit
set_option linter.unusedVariables false

theorem sg_abs (s : Bool) (X : Nat) : (sg s X).natAbs = X := am_sg s X
theorem am_lt {Z : Int} {Y : Nat} (h1 : -(Y : Int) < Z) (h2 : Z < Y) : am Z < Y := by unfold am; omega
theorem am_le {Z : Int} {Y : Nat} (h1 : -(Y : Int) ≤ Z) (h2 : Z ≤ Y) : am Z ≤ Y := by unfold am; omega
theorem sg_bounds (s : Bool) (X : Nat) : -(X : Int) ≤ sg s X ∧ sg s X ≤ X := by cases s <;> simp [sg] <;> omega
theorem ln_of_le {Z : Int} {Y n k : Nat} (h : am Z ≤ Y) (hY : Y < BB ^ n) (hk : n ≤ k) : ln (am Z) ≤ k := by
  have := ln_le_of_lt (Nat.lt_of_le_of_lt h hY); omega

theorem quo_of (s : Bool) (ao : Option Addr) (n cap X : Nat) (t : Bool) (ao2 : Option Addr) (m cap2 Y : Nat) (hc : n ≤ cap) (hm : n ≤ 70368744177650) (hc2 : m ≤ cap2) (hm2 : m ≤ 70368744177650) (hY : Y ≠ 0) :
    ∃ (P R : Nat) (Zq Zr : Int), X = P * Y + R ∧ R < Y ∧ sg (s != t) P = Zq ∧ sg s R = Zr ∧ Zq * sg t Y + Zr = sg s X ∧ am Zr < Y ∧ am Zq ≤ X ∧
      (∀ w', Seg w' ao X n → Seg w' ao2 Y m → Calls Tryz.prog 94 #[.agg #[.bool s, .slice ao n cap], .agg #[.bool t, .slice ao2 m cap2]] w' fun e w'' => ∃ aq ar, e = .returned (.tuple #[.agg #[.bool (ng Zq), .slice aq (ln (am Zq)) (ln (am Zq))], .agg #[.bool (ng Zr), .slice ar (ln (am Zr)) (ln (am Zr))], .int .i64 0]) ∧ New w' w'' aq (am Zq) (ln (am Zq)) ∧ New w' w'' ar (am Zr) (ln (am Zr))) := by
  have h : X = X / Y * Y + X % Y := by have := Nat.div_add_mod X Y; rw [Nat.mul_comm]; omega
  have hR : X % Y < Y := Nat.mod_lt _ (by omega)
  refine ⟨X / Y, X % Y, _, _, h, hR, rfl, rfl, ?_, ?_, ?_, ?_⟩
  · rw [sg_mul, show ((s != t) != t) = s by cases s <;> cases t <;> rfl, sg_add, ← h]
  · rw [am_sg]; exact hR
  · rw [am_sg]; exact Nat.div_le_self _ _
  · intro w' k1 k2
    exact wQuo_is s ao n cap X t ao2 m cap2 Y _ _ _ _ w' hc (by omega) k1 hc2 (by omega) k2 h hR rfl rfl

theorem floor_of (s : Bool) (ao : Option Addr) (n cap X : Nat) (t : Bool) (ao2 : Option Addr) (m cap2 Y : Nat) (hc : n ≤ cap) (hm : n ≤ 70368744177650) (hc2 : m ≤ cap2) (hm2 : m ≤ 70368744177650) (hY : Y ≠ 0) :
    ∃ (Zf Zg : Int), Zf * sg t Y + Zg = sg s X ∧ (sgn Zg = 0 ∨ sgn Zg = sgn (sg t Y)) ∧ am Zg < Y ∧ am Zf ≤ X + 1 ∧
      (∀ w', Seg w' ao X n → Seg w' ao2 Y m → Calls Tryz.prog 66 #[.agg #[.bool s, .slice ao n cap], .agg #[.bool t, .slice ao2 m cap2]] w' fun e w'' => ∃ aq ar, e = .returned (.tuple #[.agg #[.bool (ng Zf), .slice aq (ln (am Zf)) (ln (am Zf))], .agg #[.bool (ng Zg), .slice ar (ln (am Zg)) (ln (am Zg))], .int .i64 0]) ∧ New w' w'' aq (am Zf) (ln (am Zf)) ∧ New w' w'' ar (am Zg) (ln (am Zg))) := by
  obtain ⟨P, R, Zq, Zr, h, hR, hq, hr, hsum, hlr, hlq, _⟩ := quo_of s ao n cap X t ao2 m cap2 Y hc hm hc2 hm2 hY
  have hsB : sgn (sg t Y) = sd t := sgn_sg hY
  by_cases hlow : sgn Zr * sd t < 0
  · refine ⟨Zq - 1, Zr + sg t Y, ?_, ?_, ?_, ?_, fun w' k1 k2 => wFloor_low s ao n cap X t ao2 m cap2 Y P R Zq Zr _ _ w' hc (by omega) k1 hc2 (by omega) k2 h hR hq hr hlow rfl rfl⟩
    · rw [Int.sub_mul]; omega
    · right
      rw [hsB]
      unfold am at hlr
      cases t
      · have h1 : Zr < 0 := by
          rcases Int.lt_or_le Zr 0 with h' | h'
          · exact h'
          · have := sgn_range Zr
            have h2 : 0 ≤ sgn Zr := by unfold sgn; rw [if_neg (by omega)]; split <;> omega
            simp only [sd, Bool.false_eq_true, if_false] at hlow; omega
        rw [sgn_pos (by simp only [sg, Bool.false_eq_true, if_false]; omega)]; rfl
      · have h1 : 0 < Zr := by
          rcases Int.lt_or_le 0 Zr with h' | h'
          · exact h'
          · have h2 : sgn Zr ≤ 0 := by unfold sgn; split; omega; split <;> omega
            simp only [sd, if_true] at hlow; omega
        rw [sgn_neg (by simp only [sg, if_true]; omega)]; rfl
    · unfold am at hlr ⊢
      cases t
      · have h1 : Zr < 0 := by
          rcases Int.lt_or_le Zr 0 with h' | h'
          · exact h'
          · have h2 : 0 ≤ sgn Zr := by unfold sgn; rw [if_neg (by omega)]; split <;> omega
            simp only [sd, Bool.false_eq_true, if_false] at hlow; omega
        simp only [sg, Bool.false_eq_true, if_false]; omega
      · have h1 : 0 < Zr := by
          rcases Int.lt_or_le 0 Zr with h' | h'
          · exact h'
          · have h2 : sgn Zr ≤ 0 := by unfold sgn; split; omega; split <;> omega
            simp only [sd, if_true] at hlow; omega
        simp only [sg, if_true]; omega
    · unfold am at hlq ⊢; omega
  · refine ⟨Zq, Zr, hsum, ?_, hlr, by omega, fun w' k1 k2 => wFloor_high s ao n cap X t ao2 m cap2 Y P R Zq Zr w' hc (by omega) k1 hc2 (by omega) k2 h hR hq hr hlow⟩
    rw [hsB]
    have h1 := sgn_range Zr
    cases t
    · simp only [sd, Bool.false_eq_true, if_false] at hlow ⊢; omega
    · simp only [sd, if_true] at hlow ⊢; omega


end Go.Proofs.YtejlnodillnoaaaGreatDoor
