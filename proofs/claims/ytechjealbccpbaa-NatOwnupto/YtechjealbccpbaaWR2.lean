/-
  Layer 1's Root.
-/
import Derived.Test.YtechjealbccpbaaWR1
import Derived.Test.YtechjealbccpbaaW11
import Derived.Test.YtechjealbccpbaaW8
namespace Go.Proofs.Ytechjealbccpbaa
open Go.RowKit
set_option linter.unusedVariables false

/-- what Root tells of X -/
def RootC (X : Nat) : Prop := ∀ (R : Nat) (ao : Option Addr) (n cap : Nat) (w : World), isq X R → n ≤ cap → n ≤ 35184372087808 → Seg w ao X n →
  Calls Try.prog 26 #[.slice ao n cap] w fun e w' => ∃ a, e = .returned (.slice a (ln R) (ln R)) ∧ New w w' a R (ln R)
theorem isq_small {X R : Nat} (h : isq X R) (hX : X ≤ 1) : R = X := by
  have h1 := h.1
  have h2 := h.2
  match R, h1, h2 with
  | 0, _, h2 => omega
  | 1, h1, _ => omega
  | R + 2, h1, _ =>
    have := Nat.mul_le_mul (show 2 ≤ R + 2 by omega) (show 2 ≤ R + 2 by omega)
    omega
theorem ln_shr {H k n : Nat} (h : ln H ≤ n) : ln ((H + 1) * 2 ^ k) ≤ n + 1 + (k / 32 + 1) := by
  refine ln_prod (n := n + 1) (m := k / 32 + 1) ?_ ?_
  · have h1 := Nat.lt_of_lt_of_le (ln_lt H) (pow_mono h)
    rw [pow_succ']
    have h2 : BB ^ n * 2 ≤ BB ^ n * BB := Nat.mul_le_mul_left _ (by rw [BB_eq]; omega)
    have := BBp n
    omega
  · rw [BB_two']
    exact Nat.pow_lt_pow_right (by omega) (by omega)
set_option maxHeartbeats 4000000 in
set_option maxRecDepth 30000 in
theorem aboveRoot_of (X H B k r : Nat) (a1 : Option Addr) (w : World) (hB : bl X = B) (hk : max (B / 4) 1 = k) (hl : ln X ≤ 35184372087808) (hH : isq (X / 2 ^ (2 * k)) H) (hR : RootC (X / 2 ^ (2 * k))) (hr : (H + 1) * 2 ^ k = r) (hS : Seg w a1 X (ln X)) :
    Calls Try.prog 49 #[.slice a1 (ln X) (ln X)] w fun e w' => ∃ a, e = .returned (.slice a (ln r) (ln r)) ∧ New w w' a r (ln r) := by
  have hBl : B ≤ 32 * ln X := by rw [← hB]; exact bl_le_len (ln_lt X)
  have hk1 : 1 ≤ k := by omega
  have hkB : k ≤ B + 1 := by omega
  have hki : max ((B : Int) / 4) 1 = (k : Int) := by omega
  have hk4 : k ≤ B / 4 + 1 := by omega
  obtain ⟨j, hj⟩ : ∃ j, 2 * k = j := ⟨_, rfl⟩
  rw [hj] at hH hR
  have hw2 : IntKind.i64.wrap (2 * (k : Int)) = (j : Int) := by rw [IntKind.wrap_i64]; omega
  have hw3 : (2 * (k : Int)) = (j : Int) := by omega
  have hB0 := Bits_any a1 (ln X) (ln X) X w (Nat.le_refl _) (by omega) hS
  rw [hB] at hB0
  have HB := hide' hB0
  have hL0 := fun w' h => lowered_big a1 (ln X) X j w' (by omega) (by omega) h
  have lY : ln (X / 2 ^ j) ≤ ln X := ln_mono (Nat.div_le_self _ _)
  obtain ⟨Y, hY⟩ : ∃ Y, X / 2 ^ j = Y := ⟨_, rfl⟩
  rw [hY] at hL0 hR hH lY
  have HL := hide' hL0
  have hHY : H ≤ Y := by
    have := hH.1
    rcases Nat.eq_zero_or_pos H with h | h
    · omega
    · have := Nat.le_mul_of_pos_left H h; omega
  have lH : ln H ≤ ln X := Nat.le_trans (ln_mono hHY) lY
  have lH1 : ln (H + 1) ≤ ln X + 1 := by
    refine ln_le_of_lt ?_
    have h1 := Nat.lt_of_lt_of_le (ln_lt H) (pow_mono lH)
    rw [pow_succ']
    have h2 : BB ^ ln X * 2 ≤ BB ^ ln X * BB := Nat.mul_le_mul_left _ (by rw [BB_eq]; omega)
    have := BBp (ln X)
    omega
  have lH0 : 0 < ln (H + 1) := Nat.pos_of_ne_zero fun e => by have := ln_eq_zero.1 e; omega
  have HR := hide' (fun w' a' h => hR H a' (ln Y) (ln Y) w' hH (Nat.le_refl _) (by omega) h)
  have HO := hide' (fun w' => Of_any 1 w' (by omega))
  rw [ln_one] at HO
  have Hr := hide' hr
  clear hB0 hL0 hR hB hk hH hHY hr hY hj
  go_enter Try.func49, Try.ntmps49
  go_wp2_with fail
  refine HB.out.mono ?_
  rintro e w1 ⟨rfl, rfl⟩
  go_wp2_with fail
  refine (HL.out _ hS).mono ?_
  rintro e w2 ⟨a2, rfl, h2⟩
  have b2 := h2.below
  go_wp2_with fail
  refine (HR.out _ _ h2.seg).mono ?_
  rintro e w3 ⟨a3, rfl, h3⟩
  have b3 := b2.trans (h3.below.mono b2.size)
  go_wp2_with fail
  refine (HO.out _).mono ?_
  rintro e w4 ⟨a4, rfl, h4⟩
  have b4 := b3.trans (h4.below.mono b3.size)
  have g3 := h3.seg.below h4.below (Nat.le_refl _)
  go_wp2_with fail
  refine (Add_is a3 a4 (ln H) (ln H) H 1 1 1 (H + 1) w4 (Nat.le_refl _) (by omega) g3 (Nat.le_refl _) (by omega) h4.seg rfl).mono ?_
  rintro e w5 ⟨a5, rfl, h5⟩
  have b5 := b4.trans (h5.below.mono b4.size)
  obtain ⟨bb, oo, rfl, hbb, _⟩ := h5.seg.2 lH0
  go_wp2_with fail
  refine (raised_big bb oo (ln (H + 1)) (H + 1) k w5 lH0 (by omega) (by omega) h5.seg).mono ?_
  rintro e w6 ⟨a6, rfl, h6⟩
  rw [Hr.out] at h6 ⊢
  go_wp2
  go_ret
  exact ⟨a6, rfl, h6.back b5⟩
set_option maxHeartbeats 4000000 in
set_option maxRecDepth 30000 in
theorem Root_small (X R : Nat) (ao : Option Addr) (n cap : Nat) (w : World) (hX : X ≤ 1) (h : isq X R) (hc : n ≤ cap) (hm : n ≤ 35184372087808) (hS : Seg w ao X n) :
    Calls Try.prog 26 #[.slice ao n cap] w fun e w' => ∃ a, e = .returned (.slice a (ln R) (ln R)) ∧ New w w' a R (ln R) := by
  obtain rfl := isq_small h hX
  have hl := ln_le_of_lt hS.1
  have hb : bl R ≤ 1 := by
    rcases Nat.eq_zero_or_pos R with h | h
    · rw [h, bl_zero]; omega
    · obtain rfl : R = 1 := by omega
      rw [bl_pos (by omega), bl_zero]; omega
  have hbi : (bl R : Int) ≤ 1 := by omega
  clear h hX
  go_enter Try.func26, Try.ntmps26
  go_wp2_with fail
  refine (trim_any ao n cap R w hc (by omega) hS).mono ?_
  rintro e w1 ⟨a1, rfl, rfl, ht⟩
  have hT := hS.trm ht
  go_wp2_with fail
  refine (Bits_any a1 (ln R) (ln R) R w (Nat.le_refl _) (by omega) hT).mono ?_
  rintro e w1 ⟨rfl, rfl⟩
  go_wp2_with fail
  refine (Norm_any a1 (ln R) (ln R) R w (Nat.le_refl _) (by omega) hT).mono ?_
  rintro e w2 ⟨a2, rfl, h2⟩
  go_wp2
  go_ret
  exact ⟨a2, rfl, h2⟩
set_option maxHeartbeats 8000000 in
set_option maxRecDepth 30000 in
theorem Root_big (X R : Nat) (ao : Option Addr) (n cap : Nat) (w : World) (hX : 2 ≤ X) (ih : ∀ Y, Y < X → RootC Y) (h : isq X R) (hc : n ≤ cap) (hm : n ≤ 35184372087808) (hS : Seg w ao X n) :
    Calls Try.prog 26 #[.slice ao n cap] w fun e w' => ∃ a, e = .returned (.slice a (ln R) (ln R)) ∧ New w w' a R (ln R) := by
  have hl := ln_le_of_lt hS.1
  have hb : 1 < bl X := by rw [bl_pos (by omega), bl_pos (by omega)]; omega
  have hbi : ¬ ((bl X : Int) ≤ 1) := by omega
  obtain ⟨k, hk⟩ : ∃ k, max (bl X / 4) 1 = k := ⟨_, rfl⟩
  have hk1 : 1 ≤ k := by omega
  have hk4 : k ≤ bl X / 4 + 1 := by omega
  have hBl : bl X ≤ 32 * ln X := bl_le_len (ln_lt X)
  have hlt : X / 2 ^ (2 * k) < X := Nat.div_lt_self (by omega) (by
    have := Nat.pow_le_pow_right (n := 2) (by omega) (show 2 ≤ 2 * k by omega)
    omega)
  obtain ⟨H, hH⟩ := isq_ex (X / 2 ^ (2 * k))
  obtain ⟨r0, hr0⟩ : ∃ r, (H + 1) * 2 ^ k = r := ⟨_, rfl⟩
  have hab := isq_above hH
  rw [hr0] at hab
  have hRr := isq_lt h hab
  have hHX : H ≤ X := by
    have h1 := hH.1
    have h2 : X / 2 ^ (2 * k) ≤ X := Nat.div_le_self _ _
    rcases Nat.eq_zero_or_pos H with h | h
    · omega
    · have := Nat.le_mul_of_pos_left H h; omega
  have lr0 := ln_shr (k := k) (ln_mono hHX)
  rw [hr0] at lr0
  have HA := hide' (fun w' a' g => aboveRoot_of X H (bl X) k r0 a' w' rfl hk (by omega) hH (ih _ hlt) hr0 g)
  have HI := hide' h
  have hR1 : 1 ≤ R := isq_le h (by omega)
  have hrk : ln r0 ≤ 52776558131712 := by omega
  clear hk hH hr0 hab h ih hlt hHX lr0 hk1 hk4 hBl
  go_enter Try.func26, Try.ntmps26
  go_wp2_with fail
  refine (trim_any ao n cap X w hc (by omega) hS).mono ?_
  rintro e w1 ⟨a1, rfl, rfl, ht⟩
  have hT := hS.trm ht
  clear ht
  go_wp2_with fail
  refine (Bits_any a1 (ln X) (ln X) X w (Nat.le_refl _) (by omega) hT).mono ?_
  rintro e w1 ⟨rfl, rfl⟩
  go_wp2_with fail
  refine (HA.out _ _ hT).mono ?_
  rintro e w2 ⟨a2, rfl, h2⟩
  go_wp2_with fail
  go_loopw [4] (fun v wr => ∃ r a, v = .slice a (ln r) (ln r) ∧ New w wr a r (ln r) ∧ R ≤ r ∧ ln r ≤ 52776558131712) (fun v wr => numOf v wr)
  case atStart => exact ⟨r0, a2, rfl, h2, by omega, hrk⟩
  case round =>
    obtain ⟨r, a, rfl, hN, hRl, hrl⟩ := hrel
    have sX := hT.below hN.below (Nat.le_refl _)
    have hge := newton_ge HI.out hRl (by omega)
    have hend := newton_end HI.out hRl (by omega)
    obtain ⟨q, hq⟩ : ∃ q, X / r = q := ⟨_, rfl⟩
    obtain ⟨m, hm2⟩ : ∃ m, X % r = m := ⟨_, rfl⟩
    have hD := fun w' g1 g2 => Div_any a1 a (ln X) (ln X) X (ln r) (ln r) r w' (Nat.le_refl _) (by omega) g1 (Nat.le_refl _) (by omega) g2 (by omega)
    have lq : ln q ≤ ln X := by rw [← hq]; exact ln_mono (Nat.div_le_self _ _)
    rw [hq] at hge hend
    rw [hq, hm2] at hD
    have HD := hide' hD
    obtain ⟨nx, hnx⟩ : ∃ nx, (r + q) / 2 = nx := ⟨_, rfl⟩
    rw [hnx] at hge hend
    have lrq : ln (r + q) ≤ 52776558131713 := ln_sum (Nat.lt_of_lt_of_le (ln_lt r) (pow_mono hrl)) (Nat.lt_of_lt_of_le (ln_lt q) (pow_mono lq)) (by omega) (by omega)
    have lnx : ln nx ≤ 52776558131713 := by rw [← hnx]; exact Nat.le_trans (ln_mono (Nat.div_le_self _ _)) lrq
    have hW := fun a' w' g => lowered_any a' (ln (r + q)) (r + q) 1 w' (by omega) (by omega) g
    rw [Nat.pow_one, hnx] at hW
    have HW := hide' hW
    clear hD hW hq hm2 hnx
    go_wp2_with fail
    refine (HD.out _ sX hN.seg).mono ?_
    rintro e w3 ⟨aq, ar, rfl, hq3, hr3⟩
    have hN3 := hN.later hq3.below
    clear hr3
    go_wp2_with fail
    refine (Add_is a aq (ln r) (ln r) r (ln q) (ln q) q (r + q) w3 (Nat.le_refl _) (by omega) hN3.seg (Nat.le_refl _) (by omega) hq3.seg rfl).mono ?_
    rintro e w4 ⟨a4, rfl, h4⟩
    have hN4 := hN3.later h4.below
    go_wp2_with fail
    refine (HW.out _ _ h4.seg).mono ?_
    rintro e w5 ⟨a5, rfl, h5⟩
    have hN5 := hN4.later h5.below
    by_cases hlt : nx < r
    · have hC := Cmp_any a5 a (ln nx) (ln nx) nx (ln r) (ln r) r w5 (Nat.le_refl _) (by omega) h5.seg (Nat.le_refl _) (by omega) hN5.seg
      rw [cmpI_lt hlt] at hC
      have HC := hide' hC
      clear hC
      go_wp2_with fail
      refine HC.out.mono ?_
      rintro e w6 ⟨rfl, d6⟩
      have h6 := (h5.back hN4.below).later (d6.below _)
      have n6 := hN5.later (d6.below _)
      go_wp2
      go_roundw
      case rel => exact ⟨nx, a5, rfl, h6, hge, by have := ln_mono (Nat.le_of_lt hlt); omega⟩
      case measure =>
        rw [numOf_eq h6.seg, numOf_eq hN.seg]
        exact hlt
    · have hC := Cmp_any a5 a (ln nx) (ln nx) nx (ln r) (ln r) r w5 (Nat.le_refl _) (by omega) h5.seg (Nat.le_refl _) (by omega) hN5.seg
      obtain ⟨c, hcc, hc0⟩ : ∃ c, cmpI nx r = c ∧ 0 ≤ c := ⟨_, rfl, by
        rcases Nat.lt_or_ge r nx with h | h
        · rw [cmpI_gt h]; decide
        · rw [cmpI_eq (by omega)]; decide⟩
      rw [hcc] at hC
      have HC := hide' hC
      obtain rfl := hend (by omega)
      clear hC hcc
      go_wp2_with fail
      refine HC.out.mono ?_
      rintro e w6 ⟨rfl, d6⟩
      have n6 := hN5.later (d6.below _)
      go_wp2
      go_ret
      exact ⟨a, rfl, n6⟩
theorem Root_all (N : Nat) : ∀ X, X < N → RootC X := by
  induction N with
  | zero => exact fun X h => absurd h (by omega)
  | succ N ih =>
    intro X hX R ao n cap w h hc hm hS
    by_cases h1 : X ≤ 1
    · exact Root_small X R ao n cap w h1 h hc hm hS
    · exact Root_big X R ao n cap w (by omega) (fun Y hY => ih Y (by omega)) h hc hm hS
theorem Root_is (X : Nat) : RootC X := Root_all (X + 1) X (by omega)
end Go.Proofs.Ytechjealbccpbaa
