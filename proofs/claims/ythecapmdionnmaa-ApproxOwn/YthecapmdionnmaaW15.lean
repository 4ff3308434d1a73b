/-
  Greatest common divisors: limb, wordAt, highWords, gcdSteps, timesLess, euclidStep, gcdStep, gcdOfWords, Gcd.
-/
import Derived.Test.YthecapmdionnmaaNumG
import Derived.Test.YthecapmdionnmaaW11
namespace Go.Proofs.Ythecapmdionnmaa
open Go.RowKit
set_option linter.unusedVariables false

theorem hid15 {p : Prop} (h : p) : Hid p := h
theorem limb_any (ao : Option Addr) (n cap X i : Nat) (w : World) (hm : n ≤ 70368744177664) (hi : i ≤ 70368744177664) (hS : Seg w ao X n) :
    Calls Try.prog 79 #[.slice ao n cap, .int .i64 i] w fun e w' => e = .returned (.int .u64 (dg X i : Nat)) ∧ w = w' := by
  by_cases h : i < n
  · obtain ⟨b, off, rfl, hb, hc⟩ := hS.2 (by omega)
    have hx := dg_lt X i
    go_enter Try.func79, Try.ntmps79
    go_wp2
    go_ret
    exact ⟨rfl, rfl⟩
  · have h0 : dg X i = 0 := dg_big (Nat.lt_of_lt_of_le hS.1 (pow_mono (by omega)))
    have H0 : Hid (dg X i = 0) := h0
    clear h0
    go_enter Try.func79, Try.ntmps79
    go_wp2
    go_ret
    rw [H0.out]
    exact ⟨rfl, rfl⟩
theorem limb_q (ao : Option Addr) (n cap X : Nat) (z : Int) (w : World) (hm : n ≤ 70368744177664) (h0 : 0 ≤ z) (hi : z ≤ 70368744177664) (hS : Seg w ao X n) :
    Calls Try.prog 79 #[.slice ao n cap, .int .i64 z] w fun e w' => e = .returned (.int .u64 (dg X z.toNat : Nat)) ∧ w' = w := by
  obtain ⟨i, rfl⟩ := Int.eq_ofNat_of_zero_le h0
  refine (limb_any ao n cap X i w hm (by omega) hS).mono ?_
  rintro e w' ⟨rfl, rfl⟩
  exact ⟨rfl, rfl⟩
/-- 64 bits of a number -/
theorem word_cut {X d up : Nat} (hup : up ≤ 31) :
    X / 2 ^ (32 * (d + 1) - up) % 18446744073709551616 = (dg X (d + 2) * 4294967296 + dg X (d + 1)) * 2 ^ up % 18446744073709551616 + dg X d / 2 ^ (32 - up) ∧
    dg X d / 2 ^ (32 - up) < 2 ^ up ∧ (dg X (d + 2) * 4294967296 + dg X (d + 1)) * 2 ^ up % 18446744073709551616 % 2 ^ up = 0 := by
  have hc := dg_lt X d
  have e32 : (4294967296 : Nat) = 2 ^ (32 - up) * 2 ^ up := by rw [← Nat.pow_add, show 32 - up + up = 32 by omega]
  have e64 : (18446744073709551616 : Nat) = 2 ^ up * 2 ^ (64 - up) := by rw [← Nat.pow_add, show up + (64 - up) = 64 by omega]
  have hr : dg X d / 2 ^ (32 - up) < 2 ^ up := (Nat.div_lt_iff_lt_mul (Nat.two_pow_pos _)).2 (by rw [Nat.mul_comm, ← e32]; exact hc)
  have hT : ∀ T, T * 2 ^ up % 18446744073709551616 = 2 ^ up * (T % 2 ^ (64 - up)) := fun T => by
    rw [e64, Nat.mul_comm T, Nat.mul_mod_mul_left]
  refine ⟨?_, hr, by rw [hT, Nat.mul_mod_right]⟩
  have eh : 32 * (d + 1) - up = 32 * d + (32 - up) := by omega
  have e1 := div_succ X d
  have e2 := div_succ X (d + 1)
  have e3 := div_succ X (d + 2)
  rw [e3] at e2
  rw [e2, BB_eq] at e1
  rw [eh, Nat.pow_add, ← BB_two', ← Nat.div_div_eq_div_mul, BB_eq, e1]
  generalize X / 4294967296 ^ (d + 2 + 1) = M
  rw [show dg X (d + 1 + 1) = dg X (d + 2) from rfl]
  generalize dg X (d + 2) = a
  generalize dg X (d + 1) = b
  generalize dg X d = c at *
  have e4 : ((M * 4294967296 + a) * 4294967296 + b) * 4294967296 + c = 2 ^ (32 - up) * (((M * 4294967296 + a) * 4294967296 + b) * 2 ^ up) + c := by
    congr 1
    generalize (M * 4294967296 + a) * 4294967296 + b = N
    rw [e32]; ac_rfl
  rw [e4, Nat.mul_add_div (Nat.two_pow_pos _)]
  generalize c / 2 ^ (32 - up) = r at *
  have e5 : ((M * 4294967296 + a) * 4294967296 + b) * 2 ^ up + r = ((a * 4294967296 + b) * 2 ^ up + r) + 18446744073709551616 * (M * 2 ^ up) := by
    generalize 2 ^ up = p; grind
  rw [e5, Nat.add_mul_mod_self_left, hT, e64, Nat.mod_mul]
  have hp := Nat.two_pow_pos up
  have e6 : ((a * 4294967296 + b) * 2 ^ up + r) / 2 ^ up = a * 4294967296 + b := by
    rw [Nat.mul_comm, Nat.mul_add_div hp, Nat.div_eq_of_lt hr, Nat.add_zero]
  have e7 : ((a * 4294967296 + b) * 2 ^ up + r) % 2 ^ up = r := by
    rw [Nat.mul_comm, Nat.mul_add_mod, Nat.mod_eq_of_lt hr]
  rw [e6, e7, Nat.add_comm]
theorem word_val {a b c up : Nat} (ha : a < 4294967296) (hb : b < 4294967296) (hc : c < 4294967296) (hup : up ≤ 31) (hr : c / 2 ^ (32 - up) < 2 ^ up) (hm : (a * 4294967296 + b) * 2 ^ up % 18446744073709551616 % 2 ^ up = 0) :
    bits BinOp.or IntKind.u64 (IntKind.u64.wrap (bits BinOp.or IntKind.u64 (IntKind.u64.wrap ((a : Int) * 4294967296)) (b : Int) * 2 ^ up)) ((c : Int) / 2 ^ (32 - up)) = (((a * 4294967296 + b) * 2 ^ up % 18446744073709551616 + c / 2 ^ (32 - up) : Nat) : Int) := by
  have e : IntKind.u64.wrap ((a : Int) * 4294967296) = ((a * 4294967296 : Nat) : Int) := by rw [IntKind.wrap_u64]; omega
  rw [e, u64_or_nat _ _ (by omega) (by omega), nat_join 32 _ _ (by omega) (by omega), IntKind.wrap_u64]
  have e2 : ((a * 4294967296 + b : Nat) : Int) * 2 ^ up % 18446744073709551616 = (((a * 4294967296 + b) * 2 ^ up % 18446744073709551616 : Nat) : Int) := by
    rw [← cast_two, ← Int.natCast_mul]; generalize (a * 4294967296 + b) * 2 ^ up = t; omega
  have e3 : (c : Int) / 2 ^ (32 - up) = ((c / 2 ^ (32 - up) : Nat) : Int) := by rw [← cast_two, ← Int.natCast_ediv]
  have h2 := two_le hup
  have hlt : (a * 4294967296 + b) * 2 ^ up % 18446744073709551616 < 18446744073709551616 := Nat.mod_lt _ (by omega)
  rw [e2, e3, u64_or_nat _ _ hlt (by omega), nat_join up _ _ hm hr]
set_option maxHeartbeats 1000000 in
theorem wordAt_any (ao : Option Addr) (n cap X e up : Nat) (w : World) (hm : n ≤ 70368744177664) (he : e ≤ 70368744177664) (he3 : 3 ≤ e) (hup : up ≤ 31) (hS : Seg w ao X n) :
    Calls Try.prog 78 #[.slice ao n cap, .int .i64 e, .int .i64 up] w fun r w' => r = .returned (.int .u64 (X / 2 ^ (32 * (e - 2) - up) % 18446744073709551616 : Nat)) ∧ Dr w w' := by
  obtain ⟨d, rfl⟩ : ∃ d, e = d + 3 := ⟨e - 3, by omega⟩
  have t1 : ((d : Int) + 3 - 1).toNat = d + 2 := by omega
  have t2 : ((d : Int) + 3 - 2).toNat = d + 1 := by omega
  have t3 : ((d : Int) + 3 - 3).toNat = d := by omega
  go_enter Try.func78, Try.ntmps78
  go_wp2
  go_quiet ((go_at_call 79; exact Calls.quiet_of_same (limb_q _ _ _ X _ _ (by omega) (by omega) (by omega) hS.drewN)))
  go_wp2
  go_ret
  obtain ⟨f1, f2, f3⟩ := word_cut (X := X) (d := d) hup
  refine ⟨ret_int ?_, (Dr.refl _).drewN _⟩
  rw [show d + 3 - 2 = d + 1 by omega, f1]
  exact word_val (dg_lt _ _) (dg_lt _ _) (dg_lt _ _) hup f2 f3
set_option maxHeartbeats 1000000 in
theorem highWords_any (ao ao2 : Option Addr) (n cap X m cap2 Y : Nat) (w : World) (hm : n ≤ 70368744177664) (hm2 : m ≤ 70368744177664) (hS : Seg w ao X n) (hS2 : Seg w ao2 Y m) (hln : ln X = n) (h3 : 3 ≤ n) (hle : Y ≤ X) :
    ∃ h xh yh, xh = X / 2 ^ h ∧ yh = Y / 2 ^ h ∧ xh < 18446744073709551616 ∧
    Calls Try.prog 76 #[.slice ao n cap, .slice ao2 m cap2] w fun r w' => r = .returned (.tuple #[.int .u64 xh, .int .u64 yh]) ∧ Dr w w' := by
  obtain ⟨b, off, rfl, hb, hc⟩ := hS.2 (by omega)
  have htop : dg X (n - 1) ≠ 0 := by
    have h0 : X ≠ 0 := fun e => by rw [e, ln_zero] at hln; omega
    have := dg_top h0; rwa [hln] at this
  obtain ⟨hb32, hb1', hDlt, -⟩ := lead (by omega) hS.1 htop
  obtain ⟨up, hup⟩ : ∃ u, u = 32 - bl (dg X (n - 1)) := ⟨_, rfl⟩
  rw [← hup] at hDlt
  have hup31 : up ≤ 31 := by omega
  have LZ := LeadingZeros32_any (dg X (n - 1)) w (dg_lt _ _) hb32
  rw [← hup] at LZ
  have hX64 : X < 18446744073709551616 * 2 ^ (32 * (n - 2) - up) := by
    have e1 : BB ^ n = 2 ^ up * (18446744073709551616 * 2 ^ (32 * (n - 2) - up)) := by
      rw [BB_two', show (18446744073709551616 : Nat) = 2 ^ 64 from rfl, ← Nat.pow_add, ← Nat.pow_add]; congr 1; omega
    rw [e1] at hDlt
    exact Nat.lt_of_mul_lt_mul_left hDlt
  have hx : X / 2 ^ (32 * (n - 2) - up) < 18446744073709551616 := (Nat.div_lt_iff_lt_mul (Nat.two_pow_pos _)).2 hX64
  have hy : Y / 2 ^ (32 * (n - 2) - up) < 18446744073709551616 := (Nat.div_lt_iff_lt_mul (Nat.two_pow_pos _)).2 (Nat.lt_of_le_of_lt hle hX64)
  refine ⟨32 * (n - 2) - up, _, _, rfl, rfl, hx, ?_⟩
  have WX : Hid (∀ W, Dr w W → Calls Try.prog 78 #[.slice (some ⟨b, off, none⟩) n cap, .int .i64 n, .int .i64 up] W fun r w' => r = .returned (.int .u64 (X / 2 ^ (32 * (n - 2) - up) : Nat)) ∧ Dr W w') := fun W hW => by
    have := wordAt_any (some ⟨b, off, none⟩) n cap X n up W hm hm h3 hup31 (hS.dr hW)
    rwa [Nat.mod_eq_of_lt hx] at this
  have WY : Hid (∀ W, Dr w W → Calls Try.prog 78 #[.slice ao2 m cap2, .int .i64 n, .int .i64 up] W fun r w' => r = .returned (.int .u64 (Y / 2 ^ (32 * (n - 2) - up) : Nat)) ∧ Dr W w') := fun W hW => by
    have := wordAt_any ao2 m cap2 Y n up W hm2 hm h3 hup31 (hS2.dr hW)
    rwa [Nat.mod_eq_of_lt hy] at this
  generalize X / 2 ^ (32 * (n - 2) - up) = xh at *
  generalize Y / 2 ^ (32 * (n - 2) - up) = yh at *
  have HLZ := hid15 LZ
  clear hup hb32 hb1' hDlt htop LZ hX64 hle hln
  go_enter Try.func76, Try.ntmps76
  go_wp2_with fail
  refine HLZ.out.mono ?_
  rintro e w' ⟨rfl, rfl⟩
  go_wp2_with fail
  refine (WX.out _ (Dr.refl _)).mono ?_
  rintro e w1 ⟨rfl, hd1⟩
  go_wp2_with fail
  refine (WY.out _ hd1).mono ?_
  rintro e w2 ⟨rfl, hd2⟩
  go_wp2
  go_ret2
  exact ⟨rfl, hd1.trans hd2⟩
theorem gcdOfWords_any (x y : Nat) (w : World) (hx : x < 18446744073709551616) (hy : y < 18446744073709551616) :
    Calls Try.prog 74 #[.int .u64 x, .int .u64 y] w fun r w' => r = .returned (.int .u64 (Nat.gcd x y : Nat)) ∧ Dr w w' := by
  go_enter Try.func74, Try.ntmps74
  go_wp2
  go_loopw [0, 1] (fun vx vy wr => ∃ a b : Nat, vx = .int .u64 a ∧ vy = .int .u64 b ∧ a < 18446744073709551616 ∧ b < 18446744073709551616 ∧ Nat.gcd a b = Nat.gcd x y ∧ Dr w wr) (fun _ vy _ => (intOf vy).toNat)
  case atStart => exact ⟨x, y, rfl, rfl, hx, hy, rfl, Dr.refl _⟩
  case round =>
    obtain ⟨a, b, rfl, rfl, ha, hb, hg, hd⟩ := hrel
    have HG := hid15 hg
    clear hg
    by_cases hb0 : b = 0
    · subst hb0
      go_wp2
      go_ret
      refine ⟨ret_int ?_, hd⟩
      have := HG.out; rw [Nat.gcd_zero_right] at this; rw [this]
    · have hbn : ((b : Int) != 0) = true := by rw [bne_iff_ne]; omega
      have hbz : ((b : Int) == 0) = false := by rw [beq_eq_false_iff_ne]; omega
      go_wp2
      go_quiet (fail)
      go_wp2
      go_roundw
      case rel => exact ⟨b, a % b, rfl, by simp, hb, Nat.lt_of_le_of_lt (Nat.mod_le _ _) ha, by rw [Nat.gcd_comm, ← Nat.gcd_rec, Nat.gcd_comm]; exact HG.out, hd.drewN _⟩
      case measure =>
        have e : (a : Int) % (b : Int) = ((a % b : Nat) : Int) := by simp
        simp only [intOf, e, Int.toNat_natCast]
        exact Nat.mod_lt _ (by omega)
theorem euclidStep_any (ao ao2 : Option Addr) (n cap X m Y : Nat) (w : World) (hc : n ≤ cap) (hm : n ≤ 70368744177663) (hm2 : m ≤ 70368744177663) (hS : Seg w ao X n) (hS2 : Seg w ao2 Y m) (hY : Y ≠ 0) :
    Calls Try.prog 73 #[.slice ao n cap, .slice ao2 m m] w fun r w' => ∃ ar, r = .returned (.tuple #[.slice ao2 m m, .slice ar (ln (X % Y)) (ln (X % Y))]) ∧ New w w' ar (X % Y) (ln (X % Y)) := by
  go_enter Try.func73, Try.ntmps73
  go_wp2_with fail
  refine (Div_any _ _ _ _ X _ _ Y _ hc hm hS (Nat.le_refl _) hm2 hS2 hY).mono ?_
  rintro e w1 ⟨aq, ar, rfl, hq, hr⟩
  go_wp2
  go_ret2
  exact ⟨_, rfl, hr⟩
theorem tl_arith {mx dx m lc dy q dA dZ mx' lc' : Nat} (h1 : (dx * m + mx) % 4294967296 = dA) (h2 : (dx * m + mx) / 4294967296 = mx')
    (h3 : (dy * q + lc) / 4294967296 + (if dA < (dy * q + lc) % 4294967296 then 1 else 0) = lc') (h4 : dZ = (dA + 4294967296 - (dy * q + lc) % 4294967296) % 4294967296) :
    ((mx : Int) + (dx : Int) * (m : Int)) / 4294967296 = (mx' : Int) ∧
    (((mx : Int) + (dx : Int) * (m : Int)) % 4294967296 < ((lc : Int) + (dy : Int) * (q : Int)) % 4294967296 → ((lc : Int) + (dy : Int) * (q : Int)) / 4294967296 + 1 = (lc' : Int) ∧ ((mx : Int) + (dx : Int) * (m : Int) - ((lc : Int) + (dy : Int) * (q : Int))) % 4294967296 = (dZ : Int)) ∧
    (((lc : Int) + (dy : Int) * (q : Int)) % 4294967296 ≤ ((mx : Int) + (dx : Int) * (m : Int)) % 4294967296 → ((lc : Int) + (dy : Int) * (q : Int)) / 4294967296 = (lc' : Int) ∧ ((mx : Int) + (dx : Int) * (m : Int)) % 4294967296 - ((lc : Int) + (dy : Int) * (q : Int)) % 4294967296 = (dZ : Int)) := by
  have e1 : (dx : Int) * (m : Int) = ((dx * m : Nat) : Int) := (Int.natCast_mul _ _).symm
  have e2 : (dy : Int) * (q : Int) = ((dy * q : Nat) : Int) := (Int.natCast_mul _ _).symm
  rw [e1, e2]
  generalize dx * m = p at *
  generalize dy * q = r at *
  refine ⟨by omega, fun h => ?_, fun h => ?_⟩
  · rw [if_pos (by omega)] at h3; omega
  · rw [if_neg (by omega)] at h3; omega
set_option maxHeartbeats 1000000 in
theorem timesLess_any (ao ao2 : Option Addr) (n cap X m k cap2 Y q L : Nat) (w : World) (hn : n ≤ 70368744177664) (hk : k ≤ 70368744177664) (hmm : m < 4294967296) (hqq : q < 4294967296) (hL : L = max n k) (hS : Seg w ao X n) (hS2 : Seg w ao2 Y k)
    (hle : q * Y ≤ m * X) (hlt : m * X - q * Y < BB ^ L) :
    Calls Try.prog 77 #[.slice ao n cap, .int .u64 m, .slice ao2 k cap2, .int .u64 q] w fun r w' => ∃ a', r = .returned (.slice a' (ln (m * X - q * Y)) (ln (m * X - q * Y))) ∧ New w w' a' (m * X - q * Y) (ln (m * X - q * Y)) := by
  have hmx : max (n : Int) (k : Int) = (L : Int) := by omega
  have hnL : n ≤ L := by omega
  have hkL : k ≤ L := by omega
  have hL2 : L ≤ 70368744177664 := by omega
  clear hL
  go_enter Try.func77, Try.ntmps77
  go_wp2_with (at_make; refine mk_law _ rfl _ _ rfl _ L rfl rfl (by go_num) (by omega) ?_; intro w1 hnew hrow)
  obtain ⟨A, hA⟩ : ∃ A, A = m * X := ⟨_, rfl⟩
  obtain ⟨C, hC⟩ : ∃ C, C = q * Y := ⟨_, rfl⟩
  rw [← hA, ← hC] at hle hlt
  have HA := hid15 hA
  have HC := hid15 hC
  have HZ := hid15 hlt
  have HLE := hid15 hle
  clear hA hC hlt hle hmx
  go_loopw [10, 11, 22] (fun vm vl vi wr => ∃ j : Nat, j ≤ L ∧ vi = .int .i64 j ∧ vm = .int .u64 (mcy 0 X m j : Nat) ∧ vl = .int .u64 (mcy 0 Y q j + bw A C j : Nat) ∧ Wr w.heap.size 0 (0 + L) w1 wr ∧ Seg wr (some ⟨w.heap.size, 0, none⟩) (mix (A - C) 0 j) L) (fun _ _ vi _ => L - (intOf vi).toNat)
  case atStart => exact ⟨0, Nat.zero_le _, rfl, by rw [mcy_zero]; rfl, by rw [mcy_zero, bw_zero]; rfl, Wr.refl _ _ _ _, by rw [mix_zero]; exact hnew.seg⟩
  case round =>
    obtain ⟨j, hj, rfl, rfl, rfl, hwr, hseg⟩ := hrel
    have hB : Below w.heap.size w wr := hnew.below.trans (hwr.below (Nat.le_refl _) hnew.below.size)
    by_cases hlt : j < L
    · have hcx := hseg.rest j (Nat.le_refl _) hlt
      rw [Nat.zero_add] at hcx
      have hfz := fun o => (hwr.row hrow).frozen o
      have hc1 := mcy_le (a := m) 0 X j
      have hc2 := mcy_le (a := q) 0 Y j
      have hb1 := bw_le A C j
      have hx1 := dg_lt X j
      have hx2 := dg_lt Y j
      obtain ⟨hp0, hp1⟩ := prod_int hx1 hmm
      obtain ⟨hq0, hq1⟩ := prod_int hx2 hqq
      obtain ⟨lc, hlc⟩ : ∃ l, l = mcy 0 Y q j + bw A C j := ⟨_, rfl⟩
      rw [← hlc]
      have hlb : lc ≤ 4294967296 := by omega
      have HLC := hid15 hlc
      clear hlc
      go_wp2_with fail
      refine (limb_any _ _ _ X j _ (by omega) (by omega) (hS.below hB (Nat.le_refl _))).mono ?_
      rintro e w' ⟨rfl, rfl⟩
      go_wp2_with fail
      refine (limb_any _ _ _ Y j _ (by omega) (by omega) (hS2.below hB (Nat.le_refl _))).mono ?_
      rintro e w' ⟨rfl, rfl⟩
      have g1 := mul_dg 0 X m j
      have g2 := mul_cy 0 X m j
      rw [dg_zero, Nat.add_zero] at g1 g2
      rw [Nat.zero_add, ← HA.out] at g1
      have g3 := less_step (k := j) (n := q) (Y := Y) (by rw [Nat.zero_add]; exact HC.out) HLE.out
      rw [← HLC.out] at g3
      have AR := hid15 (tl_arith g1 g2 g3.1 g3.2)
      clear g1 g2 g3
      go_wp2
      all_goals go_roundw
      case rel =>
        obtain ⟨r1, r2, r3⟩ := AR.out
        rename_i hcmp2
        obtain ⟨r4, r5⟩ := r2 hcmp2
        refine ⟨j + 1, by omega, by go_num, by rw [r1], by rw [r4], ?_, ?_⟩
        · have := hwr.setCell j (by omega) (by omega) (.int .u32 ((((mcy 0 X m j : Nat) : Int) + ((dg X j : Nat) : Int) * (m : Int) - ((lc : Int) + ((dg Y j : Nat) : Int) * (q : Int))) % 4294967296))
          exact this
        · have := hseg.set (k := j) hlt (BBp _) (v := (((mcy 0 X m j : Nat) : Int) + ((dg X j : Nat) : Int) * (m : Int) - ((lc : Int) + ((dg Y j : Nat) : Int) * (q : Int))) % 4294967296) r5
          rw [Nat.zero_add] at this
          exact this
      case measure => simp [intOf]; omega
      case rel =>
        obtain ⟨r1, r2, r3⟩ := AR.out
        rename_i hcmp2
        obtain ⟨r4, r5⟩ := r3 hcmp2
        refine ⟨j + 1, by omega, by go_num, by rw [r1], by rw [r4], ?_, ?_⟩
        · have := hwr.setCell j (by omega) (by omega) (.int .u32 ((((mcy 0 X m j : Nat) : Int) + ((dg X j : Nat) : Int) * (m : Int)) % 4294967296 - ((lc : Int) + ((dg Y j : Nat) : Int) * (q : Int)) % 4294967296))
          exact this
        · have := hseg.set (k := j) hlt (BBp _) (v := (((mcy 0 X m j : Nat) : Int) + ((dg X j : Nat) : Int) * (m : Int)) % 4294967296 - ((lc : Int) + ((dg Y j : Nat) : Int) * (q : Int)) % 4294967296) r5
          rw [Nat.zero_add] at this
          exact this
      case measure => simp [intOf]; omega
    · have hjL : j = L := by omega
      subst hjL
      rw [mix_nought HZ.out] at hseg
      have hN : New w wr (some ⟨w.heap.size, 0, none⟩) (A - C) j := ⟨hseg, hB, fun _ => ⟨_, _, rfl, Nat.le_refl _, hwr.row hrow⟩⟩
      go_wp2_with fail
      refine (trim_any _ _ _ (A - C) _ (Nat.le_refl _) (by omega) hseg).mono ?_
      rintro e w4 ⟨a4, rfl, rfl, ht4⟩
      go_wp2
      go_ret
      rw [← HA.out, ← HC.out]
      exact ⟨_, rfl, hN.trm ht4⟩
end Go.Proofs.Ythecapmdionnmaa
