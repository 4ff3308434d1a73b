/-
  The reference's Root of layer 1: bit by bit.
-/
import Derived.Test.YtechjealbccpbaaOW4
import Derived.Test.YtechjealbccpbaaWR1
import Derived.Test.YtechjealbccpbaaW4
import Derived.Test.YtechjealbccpbaaW14
namespace Go.Proofs.Ytechjealbccpbaa
open Go.RowKit
set_option linter.unusedVariables false
set_option linter.unusedSimpArgs false
/-- one digit stored -/
theorem Seg.putO {w : World} {b off X n q t : Nat} (h : Seg w (some ⟨b, off, none⟩) X n) (hq : q < n) (ht : t < 4294967296) : Seg (w.setCell ⟨b, off + q, none⟩ (.int .u32 (t : Nat))) (some ⟨b, off, none⟩) (put X q 1 t) n := by
  have htB : t < BB ^ 1 := by rw [Nat.pow_one, BB_eq]; exact ht
  refine Seg.mk' (put_lt h.1 htB (by omega)) (by have := h.lt (by omega); simpa using this) fun i hi => ?_
  by_cases e : i = q
  · subst e
    rw [World.cell?_setCell_same (u := .int .u32 (dg X i : Nat)) _ _ _ (h.cells i hi), dg_put_mid (Nat.le_refl _) (by omega), Nat.sub_self, dg0, Nat.mod_eq_of_lt ht]
  · rw [World.cell?_setCell_other _ _ _ _ (fun e' => by simp only [Addr.mk.injEq, true_and, and_true] at e'; omega), h.cells i hi]
    rcases Nat.lt_or_gt_of_ne e with h1 | h1
    · rw [dg_put_lo h1]
    · rw [dg_put_hi htB (by omega)]
theorem Seg.unputO {w : World} {b off V n q t : Nat} (h : Seg w (some ⟨b, off, none⟩) (put V q 1 t) n) (hV : V < BB ^ n) (hq : q < n) (ht : t < 4294967296) : Seg (w.setCell ⟨b, off + q, none⟩ (.int .u32 (dg V q : Nat))) (some ⟨b, off, none⟩) V n := by
  have htB : t < BB ^ 1 := by rw [Nat.pow_one, BB_eq]; exact ht
  refine Seg.mk' hV (by have := h.lt (by omega); simpa using this) fun i hi => ?_
  by_cases e : i = q
  · subst e
    rw [World.cell?_setCell_same (u := .int .u32 (dg (put V i 1 t) i : Nat)) _ _ _ (h.cells i hi)]
  · rw [World.cell?_setCell_other _ _ _ _ (fun e' => by simp only [Addr.mk.injEq, true_and, and_true] at e'; omega), h.cells i hi]
    rcases Nat.lt_or_gt_of_ne e with h1 | h1
    · rw [dg_put_lo h1]
    · rw [dg_put_hi htB (by omega)]
/-- the bits from j on -/
def hbt (R j : Nat) : Nat := R / 2 ^ j * 2 ^ j
theorem bit_set {V q s : Nat} (hs : s ≤ 31) (hV : V % 2 ^ (32 * q + s + 1) = 0) :
    dg V q % 2 ^ (s + 1) = 0 ∧ dg V q + 2 ^ s < 4294967296 ∧ (dg V q ||| 2 ^ s) = dg V q + 2 ^ s ∧ put V q 1 (dg V q + 2 ^ s) = V + 2 ^ (32 * q + s) := by
  have e32 : (4294967296 : Nat) = 2 ^ (s + 1) * 2 ^ (31 - s) := by rw [← Nat.pow_add, show s + 1 + (31 - s) = 32 by omega]
  have hB : BB ^ q = 2 ^ (32 * q) := by rw [Nat.pow_mul]; rfl
  have h1 : dg V q % 2 ^ (s + 1) = 0 := by
    unfold dg
    rw [hB, BB_eq, e32, Nat.mod_mul_right_mod]
    have hd : 2 ^ (32 * q + s + 1) ∣ V := Nat.dvd_of_mod_eq_zero hV
    obtain ⟨t, rfl⟩ := hd
    rw [show 2 ^ (32 * q + s + 1) * t = 2 ^ (32 * q) * (2 ^ (s + 1) * t) by rw [Nat.add_assoc, Nat.pow_add, Nat.mul_assoc], Nat.mul_div_cancel_left _ (Nat.two_pow_pos _), Nat.mul_mod_right]
  have hd := dg_lt V q
  have hp : 2 ^ (s + 1) = 2 * 2 ^ s := by rw [Nat.pow_succ, Nat.mul_comm]
  have h2 : dg V q + 2 ^ (s + 1) ≤ 4294967296 := by
    have hdv : 2 ^ (s + 1) ∣ dg V q := Nat.dvd_of_mod_eq_zero h1
    obtain ⟨t, ht⟩ := hdv
    have : t < 2 ^ (31 - s) := by
      rw [ht] at hd
      have h3 : 2 ^ (s + 1) * t < 2 ^ (s + 1) * 2 ^ (31 - s) := by rw [← e32]; exact hd
      exact Nat.lt_of_mul_lt_mul_left h3
    rw [ht, e32, ← Nat.mul_succ]
    exact Nat.mul_le_mul_left _ this
  have hps := Nat.two_pow_pos s
  have h3 : dg V q + 2 ^ s < 4294967296 := by omega
  refine ⟨h1, h3, nat_join (s + 1) _ _ h1 (by omega), ?_⟩
  rw [put_add h3, hB, ← Nat.pow_add, Nat.add_comm s]
theorem bit_clear {d s : Nat} (hs : s ≤ 31) (hd : d < 4294967296) (h : d % 2 ^ (s + 1) = 0) (ho : (d ||| 2 ^ s) = d + 2 ^ s) : ((d + 2 ^ s) &&& (4294967295 - 2 ^ s)) = d := by
  rw [← ho]
  have h0 : d.testBit s = false := by
    have hdv : 2 ^ (s + 1) ∣ d := Nat.dvd_of_mod_eq_zero h
    obtain ⟨t, rfl⟩ := hdv
    rw [Nat.testBit_two_pow_mul, decide_eq_false (by omega)]; rfl
  refine Nat.eq_of_testBit_eq fun j => ?_
  rw [Nat.testBit_and, Nat.testBit_or, Nat.testBit_two_pow, show (4294967295 : Nat) - 2 ^ s = 2 ^ 32 - (2 ^ s + 1) by omega, Nat.testBit_two_pow_sub_succ (by
    have : 2 ^ s ≤ 2 ^ 31 := Nat.pow_le_pow_right (by omega) hs
    omega), Nat.testBit_two_pow]
  by_cases e : s = j
  · subst e; simp [h0]
  · simp only [decide_eq_false e, Bool.or_false, Bool.not_false, Bool.and_true]
    by_cases hj : j < 32
    · simp [hj]
    · rw [Nat.testBit_lt_two_pow (Nat.lt_of_lt_of_le hd (show 4294967296 ≤ 2 ^ j from Nat.pow_le_pow_right (show 0 < 2 by omega) (show 32 ≤ j by omega)))]; simp
theorem hbt_step (R i : Nat) : hbt R i = hbt R (i + 1) + R / 2 ^ i % 2 * 2 ^ i ∧ hbt R (i + 1) % 2 ^ (i + 1) = 0 ∧ hbt R (i + 1) ≤ R ∧ R < hbt R i + 2 ^ i := by
  have h1 : R / 2 ^ (i + 1) = R / 2 ^ i / 2 := by rw [Nat.pow_succ, Nat.div_div_eq_div_mul]
  have h2 := Nat.div_add_mod (R / 2 ^ i) 2
  have h3 := Nat.div_add_mod R (2 ^ i)
  have h4 := Nat.mod_lt R (Nat.two_pow_pos i)
  unfold hbt
  refine ⟨?_, Nat.mul_mod_left _ _, Nat.div_mul_le_self _ _, ?_⟩
  · rw [h1, Nat.pow_succ]
    generalize R / 2 ^ i = c at *
    have : c * 2 ^ i = (2 * (c / 2) + c % 2) * 2 ^ i := by rw [h2]
    rw [this, Nat.add_mul]
    congr 1
    rw [Nat.mul_comm (2 ^ i) 2, ← Nat.mul_assoc, Nat.mul_comm 2]
  · rw [Nat.mul_comm]; omega
theorem hbt_zero (R : Nat) : hbt R 0 = R := by unfold hbt; simp
theorem hbt_top {R L : Nat} (h : R < BB ^ L) : hbt R (32 * L) = 0 := by
  unfold hbt
  rw [Nat.div_eq_of_lt (by rw [show 2 ^ (32 * L) = BB ^ L by rw [Nat.pow_mul]; rfl]; exact h), Nat.zero_mul]
theorem isq_lt_half {X R n : Nat} (h : isq X R) (hX : X < BB ^ n) : R < BB ^ (n / 2 + 1) := by
  rcases Nat.lt_or_ge R (BB ^ (n / 2 + 1)) with k | k
  · exact k
  · have h1 := Nat.mul_le_mul k k
    rw [← Nat.pow_add] at h1
    have h2 : BB ^ n ≤ BB ^ (n / 2 + 1 + (n / 2 + 1)) := Nat.pow_le_pow_right (by rw [BB_eq]; omega) (by omega)
    have := h.1
    omega
set_option maxHeartbeats 4000000 in
set_option maxRecDepth 100000 in
theorem rRoot_is (ao : Option Addr) (n cap X R : Nat) (w : World) (hn : n ≤ 1073741824) (hS : Seg w ao X n) (hq : isq X R) :
    Calls Try.prog 17 #[.slice ao n cap] w fun e w' => ∃ a, e = .returned (.slice a (ln R) (ln R)) ∧ New w w' a R (ln R) := by
  have hR := isq_lt_half hq hS.1
  obtain ⟨L, hL⟩ : ∃ L, n / 2 + 1 = L := ⟨_, rfl⟩
  rw [hL] at hR
  have L1 : L ≤ 1073741825 := by omega
  have L0 : 1 ≤ L := by omega
  have e1 : (n : Int) / 2 + 1 = (L : Int) := by omega
  replace hL := hide' hL
  replace hq := hide' hq
  replace hR := hide' hR
  go_enter Try.func17, Try.ntmps17
  go_wp2_with (at_make; refine mk_law _ rfl _ _ rfl _ L rfl rfl (by go_num) (by omega) ?_; intro w1 hnew hrow)
  clear e1
  have hbl := hnew.below
  have sg0 := hnew.seg
  go_loopw [4] (fun vi wr => ∃ j : Nat, j ≤ 32 * L ∧ vi = .int .i64 ((j : Int) - 1) ∧ Seg wr (some ⟨w.heap.size, 0, none⟩) (hbt R j) L ∧ Row wr w.heap.size ∧ Below w.heap.size w wr) (fun vi _ => ((intOf vi) + 1).toNat)
  case atStart => exact ⟨32 * L, Nat.le_refl _, by go_num, by rw [hbt_top hR.out]; exact sg0, hrow, hbl⟩
  case round =>
    clear sg0 hrow hbl hnew
    obtain ⟨j, hj, rfl, sg, hrow, hB⟩ := hrel
    by_cases h0 : j = 0
    · subst h0
      rw [hbt_zero] at sg
      have q0 : ¬ ((((0 : Nat) : Int) - 1) ≥ 0) := by omega
      have G1 := hide' (fun w' k1 => rNorm_any (some ⟨w.heap.size, 0, none⟩) L L R w' (by omega) k1)
      go_wp2_with fail
      refine (G1.out _ sg).mono ?_
      rintro e w9 ⟨a9, rfl, n9⟩
      go_wp2
      go_ret
      exact ⟨a9, rfl, n9.back hB⟩
    · obtain ⟨i, rfl⟩ : ∃ i, j = i + 1 := ⟨j - 1, by omega⟩
      have e1 : (((i + 1 : Nat) : Int) - 1) = (i : Int) := by omega
      rw [e1]
      have q0 : (0 : Int) ≤ (i : Int) := by omega
      obtain ⟨g1, g2, g3, g4⟩ := hbt_step R i
      obtain ⟨q, s, his, hs⟩ : ∃ q s, i = 32 * q + s ∧ s ≤ 31 := ⟨i / 32, i % 32, by omega, by omega⟩
      have hqL : q < L := by omega
      obtain ⟨V, hV⟩ : ∃ V, hbt R (i + 1) = V := ⟨_, rfl⟩
      rw [hV] at sg g1 g2 g3
      obtain ⟨b1, b2, b3, b4⟩ := bit_set (V := V) (q := q) hs (by rw [his] at g2; exact g2)
      have bc := bit_clear hs (dg_lt V q) b1 b3
      have e2 : (i : Int) / 32 = (q : Int) := by omega
      have e3 : (i : Int) % 32 = (s : Int) := by omega
      have e2t : Int.tdiv (i : Int) 32 = (q : Int) := by rw [Int.tdiv_eq_ediv_of_nonneg (by omega)]; exact e2
      have e3t : Int.tmod (i : Int) 32 = (s : Int) := by rw [Int.tmod_eq_emod_of_nonneg (by omega)]; exact e3
      have c0 := sg.cells q hqL
      rw [Nat.zero_add] at c0
      have fz := fun o => hrow.frozen o
      have hqi : ((q : Int) < (L : Int)) := by omega
      have hq0 : (0 : Int) ≤ (q : Int) := by omega
      have hs0 : (0 : Int) ≤ (s : Int) := by omega
      have hs32 : (s : Int) ≤ 31 := by omega
      replace g1 := hide' g1
      replace g2 := hide' g2
      replace g3 := hide' g3
      replace g4 := hide' g4
      replace hV := hide' hV
      replace his := hide' his
      replace b4 := hide' b4
      replace bc := hide' bc
      replace b1 := hide' b1
      replace b3 := hide' b3
      clear e1 hj h0
      obtain ⟨t, ht⟩ : ∃ t, dg V q + 2 ^ s = t := ⟨_, rfl⟩
      have hps : (2 : Nat) ^ s < 4294967296 := by have := two_le hs; omega
      have ep : ((2 : Int) ^ s) % 4294967296 = ((2 ^ s : Nat) : Int) := by rw [← cast_two]; clear c0; generalize (2 : Nat) ^ s = P at hps ⊢; omega
      have eo : bits BinOp.or IntKind.u32 ((dg V q : Nat) : Int) ((2 : Int) ^ s % 4294967296) = (t : Int) := by rw [ep, u32_or_nat _ _ (dg_lt V q) hps, b3.out, ht]
      have ea : bits BinOp.andNot IntKind.u32 (t : Int) ((2 : Int) ^ s % 4294967296) = ((dg V q : Nat) : Int) := by rw [ep, ← ht, u32_andNot_nat _ _ b2 hps, bc.out]
      have ht32 : t < 4294967296 := by omega
      have hU := hide' (show put V q 1 t = V + 2 ^ i by rw [← ht, his.out]; exact b4.out)
      have hVB := hide' (show V < BB ^ L from sg.1)
      have sg2 := sg.putO hqL ht32
      rw [Nat.zero_add] at sg2
      have hB2 : Below w.heap.size w (wr.setCell ⟨w.heap.size, q, none⟩ (.int .u32 (t : Nat))) := hB.trans ((Ch.set _).below (Nat.le_refl _))
      have hrow2 := hrow.setCell ⟨w.heap.size, q, none⟩ (.int .u32 (t : Nat))
      replace ht := hide' ht
      clear ep hps b2
      obtain ⟨d, hd⟩ : ∃ d, dg V q = d := ⟨_, rfl⟩
      rw [hd] at c0 eo ea
      replace hd := hide' hd
      obtain ⟨U, hUe⟩ : ∃ U, put V q 1 t = U := ⟨_, rfl⟩
      rw [hUe] at sg2 hU
      replace hUe := hide' hUe
      have GM := hide' (fun w' k1 => rMul_is (some ⟨w.heap.size, 0, none⟩) (some ⟨w.heap.size, 0, none⟩) L L U L L U (U * U) w' (by omega) k1 k1 rfl)
      obtain ⟨UU, hUU⟩ : ∃ UU, U * U = UU := ⟨_, rfl⟩
      rw [hUU] at GM
      have lUU : ln UU ≤ 2147483660 := by rw [← hUU]; have := ln_le_of_lt (show U * U < BB ^ (L + L) by rw [Nat.pow_add]; exact Nat.mul_lt_mul_of_lt_of_lt sg2.1 sg2.1); omega
      replace hUU := hide' hUU
      have GC := hide' (fun w' a k1 k2 => rCmp_any a ao (ln UU) (ln UU) UU n cap X w' (by omega) k1 (by omega) k2)
      by_cases hb : R / 2 ^ i % 2 = 1
      · skip
        have hc : ¬ (cmpI UU X > 0) := by
          have h1 : U * U ≤ X := by
            have h2 := g1.out
            rw [hb, Nat.one_mul, ← hU.out] at h2
            have h3 : U ≤ R := by rw [← h2]; exact Nat.div_mul_le_self _ _
            exact Nat.le_trans (Nat.mul_le_mul h3 h3) hq.out.1
          rw [hUU.out] at h1
          unfold cmpI
          split
          · omega
          · split <;> omega
        have hcd : decide (cmpI UU X > 0) = false := decide_eq_false hc
        replace hb := hide' hb
        go_wp2_with fail
        refine (GM.out _ sg2).mono ?_
        rintro e w7 ⟨a7, rfl, n7⟩
        have k7 := n7.seg
        have b7 := n7.below
        clear n7
        replace sg2 := sg2.below b7 (Nat.le_refl _)
        replace hrow2 := hrow2.below b7 hrow2.lt
        replace hB2 := hB2.trans (b7.mono hB2.size)
        clear b7 GM
        go_wp2_with fail
        refine (GC.out _ a7 k7 (hS.below hB2 (Nat.le_refl _))).mono ?_
        rintro e w8 ⟨rfl, rfl⟩
        clear GC k7
        clear c0 fz
        go_wp2
        go_roundw
        case rel => exact ⟨i, by omega, by go_num, by rw [g1.out, hb.out, Nat.one_mul, ← hU.out]; exact sg2, hrow2, hB2⟩
        case measure => simp [intOf]
      · skip
        have hc : cmpI UU X > 0 := by
          have h1 : X < U * U := by
            have h2 := g1.out
            rw [show R / 2 ^ i % 2 = 0 by omega, Nat.zero_mul, Nat.add_zero] at h2
            have h3 : R + 1 ≤ U := by rw [hU.out, ← h2]; exact g4.out
            exact Nat.lt_of_lt_of_le hq.out.2 (Nat.mul_le_mul h3 h3)
          rw [hUU.out] at h1
          unfold cmpI
          rw [if_neg (by omega), if_neg (by omega)]
          omega
        have hcd : decide (cmpI UU X > 0) = true := decide_eq_true hc
        replace hb := hide' hb
        go_wp2_with fail
        refine (GM.out _ sg2).mono ?_
        rintro e w7 ⟨a7, rfl, n7⟩
        have k7 := n7.seg
        have b7 := n7.below
        clear n7
        replace sg2 := sg2.below b7 (Nat.le_refl _)
        replace hrow2 := hrow2.below b7 hrow2.lt
        replace hB2 := hB2.trans (b7.mono hB2.size)
        clear b7 GM
        go_wp2_with fail
        refine (GC.out _ a7 k7 (hS.below hB2 (Nat.le_refl _))).mono ?_
        rintro e w8 ⟨rfl, rfl⟩
        clear GC k7
        have sg3 := Seg.unputO (V := V) (q := q) (t := t) (by rw [hUe.out]; exact sg2) hVB.out hqL ht32
        rw [Nat.zero_add, hd.out] at sg3
        have c8 := sg2.cells q hqL
        rw [Nat.zero_add, show dg U q = t by rw [← hUe.out, dg_put_mid (Nat.le_refl _) (by omega), Nat.sub_self, dg0, Nat.mod_eq_of_lt ht32]] at c8
        have hrow3 := hrow2.setCell ⟨w.heap.size, q, none⟩ (.int .u32 (d : Nat))
        have fz2 := fun o => hrow2.frozen o
        have hB3 := hB2.trans ((Ch.set (c := w.heap.size) (o := q) (.int .u32 (d : Nat))).below (Nat.le_refl _))
        clear c0 fz
        go_wp2
        go_roundw
        case rel => exact ⟨i, by omega, by go_num, by rw [g1.out, show R / 2 ^ i % 2 = 0 by have := hb.out; omega, Nat.zero_mul, Nat.add_zero]; exact sg3, hrow3, hB3⟩
        case measure => simp [intOf]
end Go.Proofs.Ytechjealbccpbaa
