/-
  The reference's Shift.
-/
import Derived.Test.YtejlnodillnoaaaGreatDoorW13
import Derived.Test.YtejlnodillnoaaaGreatDoorW9
namespace Go.Proofs.YtejlnodillnoaaaGreatDoor
open Go.RowKit
set_option linter.unusedVariables false

/-- digits moved by s within a limb: one digit more -/
theorem sh_step {Q e d s : Nat} (hd : d < 4294967296) (hs : s ≤ 31) (hQ : Q < 2 ^ s * BB ^ e) :
    dg Q e + d * 2 ^ s % 4294967296 < 4294967296 ∧ bits BinOp.or IntKind.u32 ((dg Q e : Nat) : Int) (((d * 2 ^ s : Nat) : Int) % 4294967296) = ((dg Q e + d * 2 ^ s % 4294967296 : Nat) : Int) ∧
    put Q e 1 (dg Q e + d * 2 ^ s % 4294967296) = Q + d * 2 ^ s % 4294967296 * BB ^ e ∧ dg (Q + d * 2 ^ s % 4294967296 * BB ^ e) (e + 1) = 0 ∧ d * 2 ^ s / 4294967296 < 2 ^ s ∧
    put (Q + d * 2 ^ s % 4294967296 * BB ^ e) (e + 1) 1 (d * 2 ^ s / 4294967296) = Q + d * 2 ^ s * BB ^ e := by
  have hp := Nat.two_pow_pos s
  have h2s := two_le hs
  have hc : dg Q e < 2 ^ s := by
    have h1 : Q / BB ^ e < 2 ^ s := (Nat.div_lt_iff_lt_mul (BBp e)).2 hQ
    unfold dg
    exact Nat.lt_of_le_of_lt (Nat.mod_le _ _) h1
  have e32 : (4294967296 : Nat) = 2 ^ s * 2 ^ (32 - s) := by rw [← Nat.pow_add, show s + (32 - s) = 32 by omega]
  have hl : d * 2 ^ s % 4294967296 = d % 2 ^ (32 - s) * 2 ^ s := by
    rw [e32, Nat.mul_comm d, Nat.mul_mod_mul_left, Nat.mul_comm]
  have hlm : d * 2 ^ s % 4294967296 % 2 ^ s = 0 := by rw [hl, Nat.mul_mod_left]
  have hlt : d * 2 ^ s % 4294967296 < 4294967296 := Nat.mod_lt _ (by omega)
  have hup : d * 2 ^ s % 4294967296 + 2 ^ s ≤ 4294967296 := by
    have h1 : d % 2 ^ (32 - s) < 2 ^ (32 - s) := Nat.mod_lt _ (Nat.two_pow_pos _)
    have h2 : (d % 2 ^ (32 - s) + 1) * 2 ^ s ≤ 2 ^ (32 - s) * 2 ^ s := Nat.mul_le_mul_right _ h1
    rw [Nat.mul_comm (2 ^ (32 - s)), ← e32, Nat.add_mul, Nat.one_mul, ← hl] at h2
    exact h2
  have hroom : dg Q e + d * 2 ^ s % 4294967296 < 4294967296 := by omega
  have hh : d * 2 ^ s / 4294967296 < 2 ^ s := (Nat.div_lt_iff_lt_mul (by omega)).2 (by rw [Nat.mul_comm]; exact Nat.mul_lt_mul_of_pos_left hd hp)
  have hQ1 : Q + d * 2 ^ s % 4294967296 * BB ^ e < BB ^ (e + 1) := by
    have h1 : (d * 2 ^ s % 4294967296 + 2 ^ s) * BB ^ e ≤ 4294967296 * BB ^ e := Nat.mul_le_mul_right _ hup
    rw [Nat.add_mul] at h1
    rw [pow_succ', Nat.mul_comm (BB ^ e) BB]
    have e4 : BB * BB ^ e = 4294967296 * BB ^ e := by rw [← BB_eq]
    rw [e4]
    exact Nat.lt_of_lt_of_le (by omega) h1
  have hz := dg_big hQ1
  refine ⟨hroom, ?_, put_add hroom, hz, hh, ?_⟩
  · have ec : ((d * 2 ^ s : Nat) : Int) % 4294967296 = ((d * 2 ^ s % 4294967296 : Nat) : Int) := by generalize d * 2 ^ s = t; omega
    rw [ec, u32_or_nat _ _ (by omega) (by omega), Nat.or_comm, nat_join s _ _ hlm hc, Nat.add_comm]
  · have h1 := put_add (Q := Q + d * 2 ^ s % 4294967296 * BB ^ e) (p := e + 1) (t := d * 2 ^ s / 4294967296) (by rw [hz]; omega)
    rw [hz, Nat.zero_add] at h1
    rw [h1, pow_succ', Nat.add_assoc]
    congr 1
    have h2 := Nat.div_add_mod (d * 2 ^ s) 4294967296
    have e5 : d * 2 ^ s / 4294967296 * (BB ^ e * BB) = 4294967296 * (d * 2 ^ s / 4294967296) * BB ^ e := by
      have e6 : d * 2 ^ s / 4294967296 * (BB ^ e * BB) = BB * (d * 2 ^ s / 4294967296) * BB ^ e := by ac_rfl
      rw [e6]; congr 2
    rw [e5, ← Nat.add_mul, Nat.add_comm, h2]
theorem or_nought {t : Nat} (h : t / 4294967296 < 4294967296) : bits BinOp.or IntKind.u32 0 ((t : Int) / 4294967296) = ((t / 4294967296 : Nat) : Int) := by
  have e : (t : Int) / 4294967296 = ((t / 4294967296 : Nat) : Int) := by omega
  have := u32_or_nat 0 (t / 4294967296) (by omega) h
  rw [Nat.zero_or] at this
  rw [e]; exact this
theorem sh_val {d s : Nat} (hd : d < 4294967296) (hs : s ≤ 31) : IntKind.u64.wrap ((d : Int) * 2 ^ s) = ((d * 2 ^ s : Nat) : Int) := by
  have h1 := two_le hs
  have h2 : d * 2 ^ s ≤ 4294967295 * 2147483648 := Nat.mul_le_mul (by omega) h1
  rw [IntKind.wrap_u64, ← cast_two, ← Int.natCast_mul]
  omega
/-- what stands in a number moved down, once k digits have been looked at -/
def vd (X s p k : Nat) : Nat := X % BB ^ k * 2 ^ s / BB ^ p
theorem vd_zero (X s p : Nat) : vd X s p 0 = 0 := by unfold vd; rw [Nat.pow_zero, Nat.mod_one, Nat.zero_mul, Nat.zero_div]
theorem vd_top (X s k : Nat) : X % BB ^ k * 2 ^ s < 2 ^ s * BB ^ k := by
  rw [Nat.mul_comm]; exact Nat.mul_lt_mul_of_pos_left (Nat.mod_lt _ (BBp k)) (Nat.two_pow_pos s)
theorem vd_end {X s p n m : Nat} (hX : X < BB ^ n) (he : 32 * p = m + s) : vd X s p n = X / 2 ^ m := by
  unfold vd
  rw [Nat.mod_eq_of_lt hX, BB_two', he, Nat.pow_add, Nat.mul_div_mul_right _ _ (Nat.two_pow_pos s)]
theorem vd_lt (X s p j : Nat) : vd X s p (p + j) < 2 ^ s * BB ^ j := by
  unfold vd
  refine (Nat.div_lt_iff_lt_mul (BBp p)).2 ?_
  rw [Nat.mul_assoc, ← Nat.pow_add, Nat.add_comm j p]
  exact vd_top X s (p + j)
theorem vd_step (X s p j : Nat) : vd X s p (p + j + 1) = vd X s p (p + j) + dg X (p + j) * 2 ^ s * BB ^ j := by
  unfold vd
  rw [mod_succ, Nat.add_mul]
  have e : dg X (p + j) * BB ^ (p + j) * 2 ^ s = dg X (p + j) * 2 ^ s * BB ^ j * BB ^ p := by rw [Nat.pow_add]; ac_rfl
  rw [e, Nat.add_mul_div_right _ _ (BBp p)]
theorem vd_low {X s p k : Nat} (hs : s ≤ 31) (hk : k < p) : vd X s p k = 0 := by
  unfold vd
  refine Nat.div_eq_of_lt (Nat.lt_of_lt_of_le (vd_top X s k) ?_)
  refine Nat.le_trans ?_ (pow_mono (show k + 1 ≤ p from hk))
  rw [pow_succ', Nat.mul_comm]
  exact Nat.mul_le_mul_left _ (by have := two_le hs; rw [BB_eq]; omega)
theorem vd_first {X s k : Nat} (hs : s ≤ 31) : vd X s (k + 1) (k + 1) = dg X k * 2 ^ s / 4294967296 := by
  obtain ⟨f1, -⟩ := sh_step (Q := X % BB ^ k * 2 ^ s) (e := k) (dg_lt X k) hs (vd_top X s k)
  have h1 : dg (X % BB ^ k * 2 ^ s) k = X % BB ^ k * 2 ^ s / BB ^ k := by
    unfold dg
    have h2 : X % BB ^ k * 2 ^ s / BB ^ k < 2 ^ s := (Nat.div_lt_iff_lt_mul (BBp k)).2 (vd_top X s k)
    exact Nat.mod_eq_of_lt (Nat.lt_of_lt_of_le h2 (by have := two_le hs; rw [BB_eq]; omega))
  rw [h1] at f1
  unfold vd
  rw [mod_succ, Nat.add_mul]
  have e : dg X k * BB ^ k * 2 ^ s = dg X k * 2 ^ s * BB ^ k := by ac_rfl
  rw [e, pow_succ', ← Nat.div_div_eq_div_mul, Nat.add_mul_div_right _ _ (BBp k), BB_eq]
  rw [BB_eq] at f1
  generalize dg X k * 2 ^ s = t at *
  generalize X % 4294967296 ^ k * 2 ^ s / 4294967296 ^ k = c at *
  omega
theorem rShift_no (ao : Option Addr) (n cap : Nat) (z : Int) (w : World) (h : z < -1048576 ∨ 1048576 < z) :
    Calls Tryz.prog 80 #[.slice ao n cap, .int .i64 z] w fun e w' => e = .returned (.tuple #[.slice none 0 0, .int .i64 12]) ∧ w = w' := by
  rcases h with h | h
  · go_enter Tryz.func80, Tryz.ntmps80
    go_wp2
    go_ret2
    exact ⟨rfl, rfl⟩
  · have h' : ¬ z < -1048576 := by omega
    go_enter Tryz.func80, Tryz.ntmps80
    go_wp2
    go_ret2
    exact ⟨rfl, rfl⟩
theorem rShift_zero (ao : Option Addr) (n cap : Nat) (z : Int) (w : World) (hm : n ≤ 70368744177660) (h1 : -1048576 ≤ z) (h2 : z ≤ 1048576) (hS : Seg w ao 0 n) :
    Calls Tryz.prog 80 #[.slice ao n cap, .int .i64 z] w fun e w' => ∃ ao', e = .returned (.tuple #[.slice ao' 0 0, .int .i64 0]) ∧ Below w.heap.size w w' := by
  have hb : (((ln 0 : Nat) : Int) == 0) = true := by rw [ln_zero]; rfl
  have hz1 : ¬ z < -1048576 := by omega
  have hz2 : ¬ 1048576 < z := by omega
  go_enter Tryz.func80, Tryz.ntmps80
  go_wp2_with fail
  refine (rNorm_any _ _ _ 0 _ (by omega) hS).mono ?_
  rintro e w1 ⟨a1, rfl, hn1⟩
  go_wp2
  go_ret2
  exact ⟨_, rfl, hn1.below.alloc hn1.below.size _⟩
set_option maxRecDepth 30000 in
set_option maxHeartbeats 4000000 in
theorem rShift_up (ao : Option Addr) (n cap X z : Nat) (w : World) (hm : n ≤ 70368744100000) (hz : z ≤ 1048576) (hS : Seg w ao X n) (hX : X ≠ 0) :
    Calls Tryz.prog 80 #[.slice ao n cap, .int .i64 z] w fun e w' => ∃ ao', e = .returned (.tuple #[.slice ao' (ln (X * 2 ^ z)) (ln (X * 2 ^ z)), .int .i64 0]) ∧ New w w' ao' (X * 2 ^ z) (ln (X * 2 ^ z)) := by
  have hb0 : (((ln X : Nat) : Int) == 0) = false := by rw [beq_eq_false_iff_ne]; have := mt ln_eq_zero.1 hX; omega
  have hln := ln_le_of_lt hS.1
  have hn0 : 0 < n := by have := mt ln_eq_zero.1 hX; omega
  obtain ⟨q, hq⟩ : ∃ q, q = z / 32 := ⟨_, rfl⟩
  obtain ⟨r, hr⟩ : ∃ r, r = z % 32 := ⟨_, rfl⟩
  have hqi : (z : Int) / 32 = (q : Int) := by omega
  have hri : (z : Int) % 32 = (r : Int) := by omega
  have hr31 : r ≤ 31 := by omega
  have hqz : q ≤ 32768 := by omega
  have hpow : Hid (X * 2 ^ z = X * 2 ^ r * BB ^ q) := by
    show _ = _
    have e1 : z = 32 * q + r := by omega
    rw [BB_two', e1, Nat.pow_add]; ac_rfl
  have hr0 : Hid (¬ 0 < z → r = 0 ∧ q = 0) := fun h => by omega
  obtain ⟨V, hVe⟩ : ∃ V : Nat → Nat, V = fun k => X % BB ^ k * 2 ^ r * BB ^ q := ⟨_, rfl⟩
  have HV0 : Hid (V 0 = 0) := by show V 0 = 0; rw [hVe]; show X % BB ^ 0 * 2 ^ r * BB ^ q = 0; rw [Nat.pow_zero, Nat.mod_one, Nat.zero_mul, Nat.zero_mul]
  have HVn : Hid (V n = X * 2 ^ z) := by show V n = _; rw [hVe]; show X % BB ^ n * 2 ^ r * BB ^ q = _; rw [Nat.mod_eq_of_lt hS.1, hpow.out]
  have HVl : Hid (∀ k, V k < 2 ^ r * BB ^ (k + q)) := fun k => by
    rw [hVe]; show X % BB ^ k * 2 ^ r * BB ^ q < _
    rw [Nat.pow_add, Nat.mul_comm (X % BB ^ k), Nat.mul_assoc]
    exact Nat.mul_lt_mul_of_pos_left (Nat.mul_lt_mul_of_pos_right (Nat.mod_lt _ (BBp k)) (BBp q)) (Nat.two_pow_pos r)
  have HVs : Hid (∀ k, V (k + 1) = V k + dg X k * 2 ^ r * BB ^ (k + q)) := fun k => by
    rw [hVe]; show X % BB ^ (k + 1) * 2 ^ r * BB ^ q = X % BB ^ k * 2 ^ r * BB ^ q + _
    rw [mod_succ, Nat.add_mul, Nat.add_mul, Nat.pow_add]; congr 1; ac_rfl
  clear hq hr hX hpow hVe
  by_cases hz0 : 0 < z
  · have hzz : 0 < z := hz0
    go_enter Tryz.func80, Tryz.ntmps80
    go_wp2_with fail
    refine (rNorm_any _ _ _ X _ (by omega) hS).mono ?_
    rintro e w1 ⟨a1, rfl, hn1⟩
    go_wp2_with (at_make; refine mk_law _ rfl _ _ rfl _ (n + (q + 1)) rfl rfl (by go_num) (by omega) ?_; intro w2 hnew hrow)
    have hxs := (hS.below hn1.below (Nat.le_refl _)).below hnew.below (Nat.le_refl _)
    have hB2 := hn1.below.trans (hnew.below.mono hn1.below.size)
    have hg1 := hn1.below.size
    have hne : ∀ o, ao ≠ some ⟨w1.heap.size, o, none⟩ := (hS.below hn1.below (Nat.le_refl _)).ne_new hn0 (Nat.le_refl _)
    clear hn1
    simp only [hri]
    go_loopw [10] (fun i wr => ∃ k : Nat, k ≤ n ∧ i = .int .i64 k ∧ Wr w1.heap.size 0 (0 + (n + (q + 1))) w2 wr ∧ Seg wr (some ⟨w1.heap.size, 0, none⟩) (V k) (n + (q + 1))) (fun i _ => n - (intOf i).toNat)
    case atStart => exact ⟨0, Nat.zero_le _, rfl, Wr.refl _ _ _ _, by rw [HV0.out]; exact hnew.seg⟩
    case round =>
      obtain ⟨k, hk, rfl, hwr, hseg⟩ := hrel
      by_cases hlt : k < n
      · have hfz := fun o => (hwr.row hrow).frozen o
        obtain ⟨b2, o2, rfl, hb2, hcell⟩ := (hxs.wr hwr hne).2 (by omega)
        have hx := dg_lt X k
        have ST := hide'' (sh_step hx hr31 (HVl.out k))
        have SV := sh_val hx hr31
        have hc1 := hseg.cells (k + q) (by omega)
        rw [Nat.zero_add] at hc1
        have HNX := hide'' (HVs.out k)
        have hTb : dg X k * 2 ^ r < 18446744073709551616 := by
          have := Nat.mul_le_mul (show dg X k ≤ 4294967295 by omega) (two_le hr31); omega
        obtain ⟨Tt, hTt⟩ : ∃ T, dg X k * 2 ^ r = T := ⟨_, rfl⟩
        rw [hTt] at ST SV HNX hTb
        clear hTt
        have HDZ : Hid (dg (V k) (k + q + 1) = 0) := by
          refine dg_big (Nat.lt_of_lt_of_le (HVl.out k) ?_)
          rw [pow_succ', Nat.mul_comm]
          exact Nat.mul_le_mul_left _ (by have := two_le hr31; rw [BB_eq]; omega)
        by_cases hin : k + q + 1 < n + (q + 1)
        · have hc2 := hseg.cells (k + q + 1) hin
          rw [Nat.zero_add, HDZ.out] at hc2
          go_wp2
          go_roundw
          case rel =>
            obtain ⟨f1, f2, f3, f4, f5, f6⟩ := ST.out
            have h2r := two_le hr31
            refine ⟨k + 1, by omega, by go_num, ?_, ?_⟩
            · have := (hwr.setCell (k + q) (by omega) (by omega) (.int .u32 (bits BinOp.or IntKind.u32 ((dg (V k) (k + q) : Nat) : Int) ((Tt : Int) % 4294967296)))).setCell (k + q + 1) (by omega) (by omega) (.int .u32 (bits BinOp.or IntKind.u32 0 ((Tt : Int) / 4294967296)))
              exact this
            · have g1 := hseg.store (i := k + q) (d := dg (V k) (k + q) + Tt % 4294967296) (by omega) f1 (v := bits BinOp.or IntKind.u32 ((dg (V k) (k + q) : Nat) : Int) ((Tt : Int) % 4294967296)) f2
              rw [f3, Nat.zero_add] at g1
              have g2 := g1.store (i := k + q + 1) (d := Tt / 4294967296) hin (by omega) (v := bits BinOp.or IntKind.u32 0 ((Tt : Int) / 4294967296)) (or_nought (by omega))
              rw [f6, Nat.zero_add, ← HNX.out] at g2
              exact g2
          case measure => simp [intOf]; omega
        · first
          | (exfalso; omega)
          | (go_wp2
             go_roundw
             case rel =>
               obtain ⟨f1, f2, f3, f4, f5, f6⟩ := ST.out
               refine ⟨k + 1, by omega, by go_num, hwr.setCell (k + q) (by omega) (by omega) _, ?_⟩
               have g1 := hseg.store (i := k + q) (d := dg (V k) (k + q) + Tt % 4294967296) (by omega) f1 (v := bits BinOp.or IntKind.u32 ((dg (V k) (k + q) : Nat) : Int) ((Tt : Int) % 4294967296)) f2
               rw [f3, Nat.zero_add] at g1
               have e1 : Tt % 4294967296 = Tt := by
                 rw [HZZ.out.1, Nat.pow_zero] at f5; omega
               rw [e1, ← HNX.out] at g1
               exact g1
             case measure => simp [intOf]; omega)
      · have hkn : k = n := by omega
        subst hkn
        rw [HVn.out] at hseg
        have hB3 := hB2.trans (hwr.below hg1 hB2.size)
        go_wp2_with fail
        refine (rNorm_any _ _ _ (X * 2 ^ z) _ (by omega) hseg).mono ?_
        rintro e w5 ⟨a5, rfl, hn5⟩
        go_wp2
        go_ret2
        exact ⟨_, rfl, hn5.back hB3⟩
  · have HZZ := hide'' (hr0.out hz0)
    have hq0 : q ≤ 0 := by have := (hr0.out hz0).2; omega
    go_enter Tryz.func80, Tryz.ntmps80
    go_wp2_with fail
    refine (rNorm_any _ _ _ X _ (by omega) hS).mono ?_
    rintro e w1 ⟨a1, rfl, hn1⟩
    go_wp2_with (at_make; refine mk_law _ rfl _ _ rfl _ (n) rfl rfl (by go_num) (by omega) ?_; intro w2 hnew hrow)
    have hxs := (hS.below hn1.below (Nat.le_refl _)).below hnew.below (Nat.le_refl _)
    have hB2 := hn1.below.trans (hnew.below.mono hn1.below.size)
    have hg1 := hn1.below.size
    have hne : ∀ o, ao ≠ some ⟨w1.heap.size, o, none⟩ := (hS.below hn1.below (Nat.le_refl _)).ne_new hn0 (Nat.le_refl _)
    clear hn1
    simp only [hri]
    go_loopw [10] (fun i wr => ∃ k : Nat, k ≤ n ∧ i = .int .i64 k ∧ Wr w1.heap.size 0 (0 + (n)) w2 wr ∧ Seg wr (some ⟨w1.heap.size, 0, none⟩) (V k) (n)) (fun i _ => n - (intOf i).toNat)
    case atStart => exact ⟨0, Nat.zero_le _, rfl, Wr.refl _ _ _ _, by rw [HV0.out]; exact hnew.seg⟩
    case round =>
      obtain ⟨k, hk, rfl, hwr, hseg⟩ := hrel
      by_cases hlt : k < n
      · have hfz := fun o => (hwr.row hrow).frozen o
        obtain ⟨b2, o2, rfl, hb2, hcell⟩ := (hxs.wr hwr hne).2 (by omega)
        have hx := dg_lt X k
        have ST := hide'' (sh_step hx hr31 (HVl.out k))
        have SV := sh_val hx hr31
        have hc1 := hseg.cells (k + q) (by omega)
        rw [Nat.zero_add] at hc1
        have HNX := hide'' (HVs.out k)
        have hTb : dg X k * 2 ^ r < 18446744073709551616 := by
          have := Nat.mul_le_mul (show dg X k ≤ 4294967295 by omega) (two_le hr31); omega
        obtain ⟨Tt, hTt⟩ : ∃ T, dg X k * 2 ^ r = T := ⟨_, rfl⟩
        rw [hTt] at ST SV HNX hTb
        clear hTt
        have HDZ : Hid (dg (V k) (k + q + 1) = 0) := by
          refine dg_big (Nat.lt_of_lt_of_le (HVl.out k) ?_)
          rw [pow_succ', Nat.mul_comm]
          exact Nat.mul_le_mul_left _ (by have := two_le hr31; rw [BB_eq]; omega)
        by_cases hin : k + q + 1 < n
        · have hc2 := hseg.cells (k + q + 1) hin
          rw [Nat.zero_add, HDZ.out] at hc2
          go_wp2
          go_roundw
          case rel =>
            obtain ⟨f1, f2, f3, f4, f5, f6⟩ := ST.out
            have h2r := two_le hr31
            refine ⟨k + 1, by omega, by go_num, ?_, ?_⟩
            · have := (hwr.setCell (k + q) (by omega) (by omega) (.int .u32 (bits BinOp.or IntKind.u32 ((dg (V k) (k + q) : Nat) : Int) ((Tt : Int) % 4294967296)))).setCell (k + q + 1) (by omega) (by omega) (.int .u32 (bits BinOp.or IntKind.u32 0 ((Tt : Int) / 4294967296)))
              exact this
            · have g1 := hseg.store (i := k + q) (d := dg (V k) (k + q) + Tt % 4294967296) (by omega) f1 (v := bits BinOp.or IntKind.u32 ((dg (V k) (k + q) : Nat) : Int) ((Tt : Int) % 4294967296)) f2
              rw [f3, Nat.zero_add] at g1
              have g2 := g1.store (i := k + q + 1) (d := Tt / 4294967296) hin (by omega) (v := bits BinOp.or IntKind.u32 0 ((Tt : Int) / 4294967296)) (or_nought (by omega))
              rw [f6, Nat.zero_add, ← HNX.out] at g2
              exact g2
          case measure => simp [intOf]; omega
        · first
          | (exfalso; omega)
          | (go_wp2
             go_roundw
             case rel =>
               obtain ⟨f1, f2, f3, f4, f5, f6⟩ := ST.out
               refine ⟨k + 1, by omega, by go_num, hwr.setCell (k + q) (by omega) (by omega) _, ?_⟩
               have g1 := hseg.store (i := k + q) (d := dg (V k) (k + q) + Tt % 4294967296) (by omega) f1 (v := bits BinOp.or IntKind.u32 ((dg (V k) (k + q) : Nat) : Int) ((Tt : Int) % 4294967296)) f2
               rw [f3, Nat.zero_add] at g1
               have e1 : Tt % 4294967296 = Tt := by
                 rw [HZZ.out.1, Nat.pow_zero] at f5; omega
               rw [e1, ← HNX.out] at g1
               exact g1
             case measure => simp [intOf]; omega)
      · have hkn : k = n := by omega
        subst hkn
        rw [HVn.out] at hseg
        have hB3 := hB2.trans (hwr.below hg1 hB2.size)
        go_wp2_with fail
        refine (rNorm_any _ _ _ (X * 2 ^ z) _ (by omega) hseg).mono ?_
        rintro e w5 ⟨a5, rfl, hn5⟩
        go_wp2
        go_ret2
        exact ⟨_, rfl, hn5.back hB3⟩
set_option maxRecDepth 30000 in
set_option maxHeartbeats 4000000 in
theorem rShift_down (ao : Option Addr) (n cap X m : Nat) (w : World) (hm : n ≤ 70368744177600) (hm0 : 0 < m) (hmz : m ≤ 1048576) (hS : Seg w ao X n) (hX : X ≠ 0) :
    Calls Tryz.prog 80 #[.slice ao n cap, .int .i64 (-(m : Int))] w fun e w' => ∃ ao', e = .returned (.tuple #[.slice ao' (ln (X / 2 ^ m)) (ln (X / 2 ^ m)), .int .i64 0]) ∧ New w w' ao' (X / 2 ^ m) (ln (X / 2 ^ m)) := by
  have hb0 : (((ln X : Nat) : Int) == 0) = false := by rw [beq_eq_false_iff_ne]; have := mt ln_eq_zero.1 hX; omega
  have hln := ln_le_of_lt hS.1
  have hn0 : 0 < n := by have := mt ln_eq_zero.1 hX; omega
  have hng : ¬ (0 : Int) < -(m : Int) := by omega
  obtain ⟨p, hp⟩ : ∃ p, p = (m + 31) / 32 := ⟨_, rfl⟩
  obtain ⟨s, hs⟩ : ∃ s, s = 32 * p - m := ⟨_, rfl⟩
  have hs31 : s ≤ 31 := by omega
  have hp0 : 0 < p := by omega
  have hpb : p ≤ 32768 := by omega
  have HVn : Hid (vd X s p n = X / 2 ^ m) := vd_end hS.1 (by omega)
  have HA : Hid (0 < m % 32 → -((m : Int) / 32) - 1 = -(p : Int) ∧ -((m : Int) % 32) + 32 = (s : Int)) := fun h => by omega
  have HB : Hid (¬ 0 < m % 32 → -((m : Int) / 32) = -(p : Int) ∧ -((m : Int) % 32) = (s : Int)) := fun h => by omega
  clear hp hs hX
  go_enter Tryz.func80, Tryz.ntmps80
  go_wp2_with fail
  refine (rNorm_any _ _ _ X _ (by omega) hS).mono ?_
  rintro e w1 ⟨a1, rfl, hn1⟩
  go_wp2_with (at_make; refine mk_law _ rfl _ _ rfl _ n rfl rfl (by go_num) (by omega) ?_; intro w2 hnew hrow)
  · obtain ⟨ew, er⟩ := HA.out (by omega)
    have ed : decide (0 < (m : Int) % 32) = true := decide_eq_true (by omega)
    simp only [ew, er, ed]
    clear ed
    have hxs := (hS.below hn1.below (Nat.le_refl _)).below hnew.below (Nat.le_refl _)
    have hB2 := hn1.below.trans (hnew.below.mono hn1.below.size)
    have hg1 := hn1.below.size
    have hne : ∀ o, ao ≠ some ⟨w1.heap.size, o, none⟩ := (hS.below hn1.below (Nat.le_refl _)).ne_new hn0 (Nat.le_refl _)
    clear hn1 ew er
    go_loopw [10] (fun i wr => ∃ k : Nat, k ≤ n ∧ i = .int .i64 k ∧ Wr w1.heap.size 0 (0 + n) w2 wr ∧ Seg wr (some ⟨w1.heap.size, 0, none⟩) (vd X s p k) n) (fun i _ => n - (intOf i).toNat)
    case atStart => exact ⟨0, Nat.zero_le _, rfl, Wr.refl _ _ _ _, by rw [vd_zero]; exact hnew.seg⟩
    case round =>
      obtain ⟨k, hk, rfl, hwr, hseg⟩ := hrel
      by_cases hlt : k < n
      · have hfz := fun o => (hwr.row hrow).frozen o
        obtain ⟨b2, o2, rfl, hb2, hcell⟩ := (hxs.wr hwr hne).2 (by omega)
        have hx := dg_lt X k
        have SV := sh_val hx hs31
        have hTb : dg X k * 2 ^ s < 18446744073709551616 := by
          have := Nat.mul_le_mul (show dg X k ≤ 4294967295 by omega) (two_le hs31); omega
        by_cases c1 : p ≤ k
        · obtain ⟨j, hj⟩ : ∃ j, k = p + j := ⟨k - p, by omega⟩
          have hji : (k : Int) + -(p : Int) = (j : Int) := by omega
          have HL := hide'' (vd_lt X s p j)
          have ST := hide'' (sh_step hx hs31 HL.out)
          have HNX := hide'' (vd_step X s p j)
          rw [← hj] at ST HNX HL
          obtain ⟨Tt, hTt⟩ : ∃ T, dg X k * 2 ^ s = T := ⟨_, rfl⟩
          rw [hTt] at ST SV HNX hTb
          have hjn : j + 1 < n := by omega
          clear hTt hj
          obtain ⟨Q, hQ⟩ : ∃ Q, vd X s p k = Q := ⟨_, rfl⟩
          rw [hQ] at ST HNX HL hseg
          clear hQ
          have hc1 := hseg.cells j (by omega)
          have hc2 := hseg.cells (j + 1) (by omega)
          have HDZ : dg Q (j + 1) = 0 := by
            refine dg_big (Nat.lt_of_lt_of_le HL.out ?_)
            rw [pow_succ', Nat.mul_comm]
            exact Nat.mul_le_mul_left _ (by have := two_le hs31; rw [BB_eq]; omega)
          rw [Nat.zero_add] at hc1
          rw [Nat.zero_add, HDZ] at hc2
          clear HDZ
          go_wp2
          go_roundw
          case rel =>
            obtain ⟨f1, f2, f3, f4, f5, f6⟩ := ST.out
            have h2r := two_le hs31
            refine ⟨k + 1, by omega, by go_num, ?_, ?_⟩
            · exact (hwr.setCell j (by omega) (by omega) (.int .u32 (bits BinOp.or IntKind.u32 ((dg Q j : Nat) : Int) ((Tt : Int) % 4294967296)))).setCell (j + 1) (by omega) (by omega) (.int .u32 (bits BinOp.or IntKind.u32 0 ((Tt : Int) / 4294967296)))
            · have g1 := hseg.store (i := j) (d := dg Q j + Tt % 4294967296) (by omega) f1 (v := bits BinOp.or IntKind.u32 ((dg Q j : Nat) : Int) ((Tt : Int) % 4294967296)) f2
              rw [f3, Nat.zero_add] at g1
              have g2 := g1.store (i := j + 1) (d := Tt / 4294967296) hjn (by omega) (v := bits BinOp.or IntKind.u32 0 ((Tt : Int) / 4294967296)) (or_nought (by omega))
              rw [f6, Nat.zero_add, ← HNX.out] at g2
              exact g2
          case measure => simp [intOf]; omega
        · have HV := hide'' (vd_low (X := X) hs31 (show k < p by omega))
          rw [HV.out] at hseg
          by_cases c2 : k + 1 = p
          · have hji : (k : Int) + -(p : Int) = -1 := by omega
            have HNX : Hid (vd X s p (k + 1) = dg X k * 2 ^ s / 4294967296) := by subst c2; exact vd_first hs31
            have HH : Hid (dg X k * 2 ^ s / 4294967296 < 4294967296) := (Nat.div_lt_iff_lt_mul (by omega)).2 hTb
            obtain ⟨Tt, hTt⟩ : ∃ T, dg X k * 2 ^ s = T := ⟨_, rfl⟩
            rw [hTt] at SV HNX hTb HH
            clear hTt c2
            have hc1 := hseg.cells 0 (by omega)
            rw [Nat.zero_add, dg_zero] at hc1
            go_wp2
            go_roundw
            case rel =>
              refine ⟨k + 1, by omega, by go_num, hwr.setCell 0 (by omega) (by omega) _, ?_⟩
              have g2 := hseg.store (i := 0) (d := Tt / 4294967296) hn0 HH.out (v := bits BinOp.or IntKind.u32 0 ((Tt : Int) / 4294967296)) (or_nought HH.out)
              have e : put 0 0 1 (Tt / 4294967296) = Tt / 4294967296 := by
                have := put_add (Q := 0) (p := 0) (t := Tt / 4294967296) (by rw [dg_zero]; have := HH.out; omega)
                rw [dg_zero, Nat.pow_zero, Nat.zero_add, Nat.zero_add, Nat.mul_one] at this
                exact this
              rw [e, ← HNX.out, Nat.zero_add] at g2
              exact g2
            case measure => simp [intOf]; omega
          · have HNX : Hid (vd X s p (k + 1) = 0) := vd_low hs31 (by omega)
            have g1 : ¬ 0 ≤ (k : Int) + -(p : Int) := by omega
            have g2 : ¬ 0 ≤ (k : Int) + -(p : Int) + 1 := by omega
            go_wp2
            go_roundw
            case rel =>
              refine ⟨k + 1, by omega, by go_num, hwr, ?_⟩
              rw [HNX.out]; exact hseg
            case measure => simp [intOf]; omega
      · have hkn : k = n := by omega
        subst hkn
        rw [HVn.out] at hseg
        have hB3 := hB2.trans (hwr.below hg1 hB2.size)
        go_wp2_with fail
        refine (rNorm_any _ _ _ (X / 2 ^ m) _ (by omega) hseg).mono ?_
        rintro e w5 ⟨a5, rfl, hn5⟩
        go_wp2
        go_ret2
        exact ⟨_, rfl, hn5.back hB3⟩
  · obtain ⟨ew, er⟩ := HB.out (by omega)
    simp only [ew, er]
    have hxs := (hS.below hn1.below (Nat.le_refl _)).below hnew.below (Nat.le_refl _)
    have hB2 := hn1.below.trans (hnew.below.mono hn1.below.size)
    have hg1 := hn1.below.size
    have hne : ∀ o, ao ≠ some ⟨w1.heap.size, o, none⟩ := (hS.below hn1.below (Nat.le_refl _)).ne_new hn0 (Nat.le_refl _)
    clear hn1 ew er
    go_loopw [10] (fun i wr => ∃ k : Nat, k ≤ n ∧ i = .int .i64 k ∧ Wr w1.heap.size 0 (0 + n) w2 wr ∧ Seg wr (some ⟨w1.heap.size, 0, none⟩) (vd X s p k) n) (fun i _ => n - (intOf i).toNat)
    case atStart => exact ⟨0, Nat.zero_le _, rfl, Wr.refl _ _ _ _, by rw [vd_zero]; exact hnew.seg⟩
    case round =>
      obtain ⟨k, hk, rfl, hwr, hseg⟩ := hrel
      by_cases hlt : k < n
      · have hfz := fun o => (hwr.row hrow).frozen o
        obtain ⟨b2, o2, rfl, hb2, hcell⟩ := (hxs.wr hwr hne).2 (by omega)
        have hx := dg_lt X k
        have SV := sh_val hx hs31
        have hTb : dg X k * 2 ^ s < 18446744073709551616 := by
          have := Nat.mul_le_mul (show dg X k ≤ 4294967295 by omega) (two_le hs31); omega
        by_cases c1 : p ≤ k
        · obtain ⟨j, hj⟩ : ∃ j, k = p + j := ⟨k - p, by omega⟩
          have hji : (k : Int) + -(p : Int) = (j : Int) := by omega
          have HL := hide'' (vd_lt X s p j)
          have ST := hide'' (sh_step hx hs31 HL.out)
          have HNX := hide'' (vd_step X s p j)
          rw [← hj] at ST HNX HL
          obtain ⟨Tt, hTt⟩ : ∃ T, dg X k * 2 ^ s = T := ⟨_, rfl⟩
          rw [hTt] at ST SV HNX hTb
          have hjn : j + 1 < n := by omega
          clear hTt hj
          obtain ⟨Q, hQ⟩ : ∃ Q, vd X s p k = Q := ⟨_, rfl⟩
          rw [hQ] at ST HNX HL hseg
          clear hQ
          have hc1 := hseg.cells j (by omega)
          have hc2 := hseg.cells (j + 1) (by omega)
          have HDZ : dg Q (j + 1) = 0 := by
            refine dg_big (Nat.lt_of_lt_of_le HL.out ?_)
            rw [pow_succ', Nat.mul_comm]
            exact Nat.mul_le_mul_left _ (by have := two_le hs31; rw [BB_eq]; omega)
          rw [Nat.zero_add] at hc1
          rw [Nat.zero_add, HDZ] at hc2
          clear HDZ
          go_wp2
          go_roundw
          case rel =>
            obtain ⟨f1, f2, f3, f4, f5, f6⟩ := ST.out
            have h2r := two_le hs31
            refine ⟨k + 1, by omega, by go_num, ?_, ?_⟩
            · exact (hwr.setCell j (by omega) (by omega) (.int .u32 (bits BinOp.or IntKind.u32 ((dg Q j : Nat) : Int) ((Tt : Int) % 4294967296)))).setCell (j + 1) (by omega) (by omega) (.int .u32 (bits BinOp.or IntKind.u32 0 ((Tt : Int) / 4294967296)))
            · have g1 := hseg.store (i := j) (d := dg Q j + Tt % 4294967296) (by omega) f1 (v := bits BinOp.or IntKind.u32 ((dg Q j : Nat) : Int) ((Tt : Int) % 4294967296)) f2
              rw [f3, Nat.zero_add] at g1
              have g2 := g1.store (i := j + 1) (d := Tt / 4294967296) hjn (by omega) (v := bits BinOp.or IntKind.u32 0 ((Tt : Int) / 4294967296)) (or_nought (by omega))
              rw [f6, Nat.zero_add, ← HNX.out] at g2
              exact g2
          case measure => simp [intOf]; omega
        · have HV := hide'' (vd_low (X := X) hs31 (show k < p by omega))
          rw [HV.out] at hseg
          by_cases c2 : k + 1 = p
          · have hji : (k : Int) + -(p : Int) = -1 := by omega
            have HNX : Hid (vd X s p (k + 1) = dg X k * 2 ^ s / 4294967296) := by subst c2; exact vd_first hs31
            have HH : Hid (dg X k * 2 ^ s / 4294967296 < 4294967296) := (Nat.div_lt_iff_lt_mul (by omega)).2 hTb
            obtain ⟨Tt, hTt⟩ : ∃ T, dg X k * 2 ^ s = T := ⟨_, rfl⟩
            rw [hTt] at SV HNX hTb HH
            clear hTt c2
            have hc1 := hseg.cells 0 (by omega)
            rw [Nat.zero_add, dg_zero] at hc1
            go_wp2
            go_roundw
            case rel =>
              refine ⟨k + 1, by omega, by go_num, hwr.setCell 0 (by omega) (by omega) _, ?_⟩
              have g2 := hseg.store (i := 0) (d := Tt / 4294967296) hn0 HH.out (v := bits BinOp.or IntKind.u32 0 ((Tt : Int) / 4294967296)) (or_nought HH.out)
              have e : put 0 0 1 (Tt / 4294967296) = Tt / 4294967296 := by
                have := put_add (Q := 0) (p := 0) (t := Tt / 4294967296) (by rw [dg_zero]; have := HH.out; omega)
                rw [dg_zero, Nat.pow_zero, Nat.zero_add, Nat.zero_add, Nat.mul_one] at this
                exact this
              rw [e, ← HNX.out, Nat.zero_add] at g2
              exact g2
            case measure => simp [intOf]; omega
          · have HNX : Hid (vd X s p (k + 1) = 0) := vd_low hs31 (by omega)
            have g1 : ¬ 0 ≤ (k : Int) + -(p : Int) := by omega
            have g2 : ¬ 0 ≤ (k : Int) + -(p : Int) + 1 := by omega
            go_wp2
            go_roundw
            case rel =>
              refine ⟨k + 1, by omega, by go_num, hwr, ?_⟩
              rw [HNX.out]; exact hseg
            case measure => simp [intOf]; omega
      · have hkn : k = n := by omega
        subst hkn
        rw [HVn.out] at hseg
        have hB3 := hB2.trans (hwr.below hg1 hB2.size)
        go_wp2_with fail
        refine (rNorm_any _ _ _ (X / 2 ^ m) _ (by omega) hseg).mono ?_
        rintro e w5 ⟨a5, rfl, hn5⟩
        go_wp2
        go_ret2
        exact ⟨_, rfl, hn5.back hB3⟩
end Go.Proofs.YtejlnodillnoaaaGreatDoor
