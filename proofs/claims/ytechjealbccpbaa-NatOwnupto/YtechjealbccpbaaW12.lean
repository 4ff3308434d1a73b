/-
  Powers: the library's Len64 of a small number, Len, Pow.
-/
import Derived.Test.YtechjealbccpbaaW11
import Derived.Test.YtechjealbccpbaaW8
namespace Go.Proofs.Ytechjealbccpbaa
open Go.RowKit
set_option linter.unusedVariables false

set_option maxHeartbeats 4000000 in
set_option maxRecDepth 100000 in
theorem Len64_small (x : Int) (w : World) (h0 : 0 ≤ x) (h1 : x ≤ 4096) :
    Calls Try.prog 57 #[.int .u64 x] w fun e w' => e = .returned (.int .i64 (Lib.bitLen x.toNat : Nat)) ∧ w = w' := by
  have hts := tab_size
  go_enter Try.func57, Try.ntmps57
  go_wp2
  all_goals (go_ret; refine ⟨ret_int ?_, rfl⟩)
  · have e : (x / 256).toNat = x.toNat / 256 := by omega
    refine fin8 8 _ (by rw [tab_size]; omega) _ ?_ (by omega) (by omega)
    rw [e]; exact Lib.bitLen_shift8 x.toNat (by omega) (by omega)
  · rw [tab_at]
    have := bitLen8 (show x.toNat < 256 by omega)
    unfold wrap64; omega
theorem Len_small (x : Nat) (w : World) (h : x ≤ 4096) :
    Calls Try.prog 41 #[.int .u64 x] w fun e w' => e = .returned (.int .i64 (bl x : Nat)) ∧ w = w' := by
  have L := Len64_small x w (by omega) (by omega)
  rw [Int.toNat_natCast, bl_lib (by omega)] at L
  go_enter Try.func41, Try.ntmps41
  go_wp2_with fail
  refine L.mono ?_
  clear L
  rintro e w' ⟨rfl, rfl⟩
  go_wp2
  go_ret
  exact ⟨rfl, rfl⟩

theorem i64_and1 (n : Int) : bits .and .i64 n 1 = n % 2 := by
  have h1 : (BitVec.ofInt 64 1).toNat = 2 ^ 1 - 1 := by decide
  have key : (BitVec.ofInt 64 n &&& BitVec.ofInt 64 1).toNat = (n % ((2 ^ 64 : Nat) : Int)).toNat % 2 ^ 1 := by
    rw [BitVec.toNat_and, BitVec.toNat_ofInt, h1, Nat.and_two_pow_sub_one_eq_mod]
  show IntKind.i64.wrap ((BitVec.ofInt 64 n &&& BitVec.ofInt 64 1).toNat : Nat) = n % 2
  rw [key, IntKind.wrap_i64]
  omega
theorem bit_i64 (n j : Nat) : (bits BinOp.and IntKind.i64 ((n : Int) / 2 ^ j) 1 == 1) = decide (bt n j = 1) := by
  rw [i64_and1]
  have e : (n : Int) / 2 ^ j = ((n / 2 ^ j : Nat) : Int) := by simp
  rw [e]
  unfold bt
  generalize n / 2 ^ j = q
  by_cases h : q % 2 = 1
  · simp only [h, decide_true]; rw [beq_iff_eq]; omega
  · simp only [h, decide_false]; rw [beq_eq_false_iff_ne]; omega
theorem half_step (n k : Nat) : n / 2 ^ k = 2 * (n / 2 ^ (k + 1)) + bt n k := by
  unfold bt
  rw [Nat.pow_succ, ← Nat.div_div_eq_div_mul]
  have := Nat.div_add_mod (n / 2 ^ k) 2
  omega
theorem ln_pow {X m : Nat} (h : X < BB ^ m) : ∀ k, ln (X ^ k) ≤ m * k + 1
  | 0 => by rw [Nat.pow_zero, ln_one]; omega
  | k + 1 => by
    refine ln_le_of_lt ?_
    rw [Nat.pow_succ, Nat.pow_succ]
    have e : X ^ k ≤ BB ^ (m * k) := by rw [Nat.pow_mul]; exact Nat.pow_le_pow_left (Nat.le_of_lt h) k
    have h2 : X ^ k * X < BB ^ (m * k) * BB ^ m := Nat.lt_of_le_of_lt (Nat.mul_le_mul_right _ e) (Nat.mul_lt_mul_of_pos_left h (BBp _))
    rw [← Nat.pow_add, ← Nat.mul_succ] at h2
    refine Nat.lt_of_lt_of_le h2 (Nat.le_mul_of_pos_right _ BB_pos)

set_option maxHeartbeats 4000000 in
theorem Pow_any (ao : Option Addr) (m cap X n : Nat) (w : World) (hc : m ≤ cap) (hm : m ≤ 35184372088832) (hn : n ≤ 4096) (hmn : m * n ≤ 35184372088831) (hS : Seg w ao X m) :
    Calls Try.prog 21 #[.slice ao m cap, .int .i64 n] w fun e w' => ∃ ao', e = .returned (.tuple #[.slice ao' (ln (X ^ n)) (ln (X ^ n)), .int .i64 0]) ∧ New w w' ao' (X ^ n) (ln (X ^ n)) := by
  go_enter Try.func21, Try.ntmps21
  go_wp2_with fail
  refine (Of_any 1 _ (by omega)).mono ?_
  rintro e w1 ⟨a1, rfl, hn1⟩
  go_wp2_with fail
  refine (Len_small n _ hn).mono ?_
  rintro e w2 ⟨rfl, rfl⟩
  have hbl : bl n ≤ 13 := by
    by_cases h : n = 0
    · subst h; rw [bl_zero]; omega
    · have := bl_le h
      by_cases hx : bl n ≤ 13
      · exact hx
      · have := Nat.pow_le_pow_right (show 0 < 2 by omega) (show 13 ≤ bl n - 1 by omega); omega
  have HB : Hid (n / 2 ^ bl n = 0) := Nat.div_eq_of_lt (bl_lt n)
  go_wp2_with fail
  go_loopw [6, 7] (fun v i wr => ∃ k ao', k ≤ bl n ∧ i = .int .i64 ((k : Int) - 1) ∧ v = .slice ao' (ln (X ^ (n / 2 ^ k))) (ln (X ^ (n / 2 ^ k))) ∧ New w wr ao' (X ^ (n / 2 ^ k)) (ln (X ^ (n / 2 ^ k)))) (fun _ i _ => (intOf i + 1).toNat)
  case atStart => exact ⟨bl n, a1, Nat.le_refl _, rfl, by rw [HB.out, Nat.pow_zero], by rw [HB.out, Nat.pow_zero]; exact hn1⟩
  case round =>
    obtain ⟨k, ao', hk, rfl, rfl, hN⟩ := hrel
    by_cases hlt : 0 < k
    · obtain ⟨j, rfl⟩ : ∃ j, k = j + 1 := ⟨k - 1, by omega⟩
      have hcast : ((j + 1 : Nat) : Int) - 1 = (j : Nat) := by omega
      rw [hcast]
      obtain ⟨P, hP⟩ : ∃ P, P = X ^ (n / 2 ^ (j + 1)) := ⟨_, rfl⟩
      have hhalf := half_step n j
      have hbt : bt n j < 2 := Nat.mod_lt _ (by omega)
      have hle : n / 2 ^ j ≤ n := Nat.div_le_self _ _
      have l1 : ln (X ^ (n / 2 ^ (j + 1))) ≤ 35184372088832 := by
        have h1 := ln_pow hS.1 (n / 2 ^ (j + 1))
        have h2 : m * (n / 2 ^ (j + 1)) ≤ m * n := Nat.mul_le_mul_left _ (Nat.div_le_self _ _)
        omega
      have eP2 : X ^ (n / 2 ^ (j + 1)) * X ^ (n / 2 ^ (j + 1)) = X ^ (2 * (n / 2 ^ (j + 1))) := by rw [← Nat.pow_add, ← Nat.two_mul]
      have l2 : ln (X ^ (2 * (n / 2 ^ (j + 1)))) ≤ 35184372088832 := by
        have h1 := ln_pow hS.1 (2 * (n / 2 ^ (j + 1)))
        have h2 : m * (2 * (n / 2 ^ (j + 1))) ≤ m * n := Nat.mul_le_mul_left _ (by omega)
        omega
      obtain ⟨P2, hP2⟩ : ∃ P, P = X ^ (2 * (n / 2 ^ (j + 1))) := ⟨_, rfl⟩
      rw [← hP] at l1 hN eP2 ⊢
      rw [← hP2] at l2 eP2
      have HP2 : Hid (P * P = P2) := eP2
      have hbv : (bits BinOp.and IntKind.i64 ((n : Int) / 2 ^ j) 1 == 1) = decide (bt n j = 1) := bit_i64 n j
      by_cases hb : bt n j = 1
      · have FIN : Hid (P2 * X = X ^ (n / 2 ^ j)) := by show _ = _; rw [hhalf, hb, Nat.pow_succ, hP2]
        have hbd : (bits BinOp.and IntKind.i64 ((n : Int) / 2 ^ j) 1 == 1) = true := by rw [hbv]; exact decide_eq_true hb
        clear hbv hhalf hbt hle hP hP2 eP2 hb
        go_wp2_with fail
        refine (Mul_is _ _ _ _ P _ _ P P2 _ (Nat.le_refl _) l1 hN.seg (Nat.le_refl _) l1 hN.seg HP2.out).mono ?_
        rintro e w3 ⟨a3, rfl, hn3⟩
        have hB3 := hN.below.trans (hn3.below.mono hN.below.size)
        go_wp2_with fail
        refine (Mul_is _ _ _ _ P2 _ _ X (X ^ (n / 2 ^ j)) _ (Nat.le_refl _) l2 hn3.seg hc hm (hS.below hB3 (Nat.le_refl _)) FIN.out).mono ?_
        rintro e w4 ⟨a4, rfl, hn4⟩
        go_wp2
        go_roundw
        case rel => exact ⟨j, a4, by omega, by go_num, rfl, hn4.back hB3⟩
        case measure => simp [intOf]
      · have FIN : Hid (P2 = X ^ (n / 2 ^ j)) := by show _ = _; rw [hhalf, show bt n j = 0 by omega, Nat.add_zero, hP2]
        have hbd : (bits BinOp.and IntKind.i64 ((n : Int) / 2 ^ j) 1 == 1) = false := by rw [hbv]; exact decide_eq_false hb
        clear hbv hhalf hbt hle hP hP2 eP2 hb
        go_wp2_with fail
        refine (Mul_is _ _ _ _ P _ _ P P2 _ (Nat.le_refl _) l1 hN.seg (Nat.le_refl _) l1 hN.seg HP2.out).mono ?_
        rintro e w3 ⟨a3, rfl, hn3⟩
        go_wp2
        go_roundw
        case rel => exact ⟨j, a3, by omega, by go_num, by rw [← FIN.out], by rw [← FIN.out]; exact hn3.back hN.below⟩
        case measure => simp [intOf]
    · have hk0 : k = 0 := by omega
      subst hk0
      rw [Nat.pow_zero, Nat.div_one] at hN ⊢
      go_wp2
      go_ret2
      exact ⟨_, rfl, hN⟩
end Go.Proofs.Ytechjealbccpbaa
