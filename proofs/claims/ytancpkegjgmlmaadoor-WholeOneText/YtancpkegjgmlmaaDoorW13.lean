/-
  The reference's products and quotients: Mul, twice, Div.
-/
import Derived.Test.YtancpkegjgmlmaaDoorW5
import Derived.Test.YtancpkegjgmlmaaDoorW6
namespace Go.Proofs.YtancpkegjgmlmaaDoor
open Go.RowKit
set_option linter.unusedVariables false

theorem hide'' {p : Prop} (h : p) : Hid p := h
set_option maxHeartbeats 4000000 in
theorem rMul_any (ao ao2 : Option Addr) (n cap X m cap2 Y : Nat) (w : World) (hm : n + m ≤ 70368744177664) (hS : Seg w ao X n) (hS2 : Seg w ao2 Y m) :
    Calls Tryd.prog 39 #[.slice ao n cap, .slice ao2 m cap2] w fun e w' => ∃ ao', e = .returned (.slice ao' (ln (X * Y)) (ln (X * Y))) ∧ New w w' ao' (X * Y) (ln (X * Y)) := by
  go_enter Tryd.func39, Tryd.ntmps39
  go_wp2_with (at_make; refine mk_law _ rfl _ _ rfl _ (n + m) rfl rfl (by go_num) hm ?_; intro w1 hnew hrow)
  go_loopw [6] (fun v wr => ∃ i : Nat, i ≤ n ∧ v = .int .i64 i ∧ Wr w.heap.size 0 (0 + (n + m)) w1 wr ∧ Seg wr (some ⟨w.heap.size, 0, none⟩) (X % BB ^ i * Y) (n + m)) (fun v _ => n - (intOf v).toNat)
  case atStart => exact ⟨0, Nat.zero_le _, rfl, Wr.refl _ _ _ _, by rw [Nat.pow_zero, Nat.mod_one, Nat.zero_mul]; exact hnew.seg⟩
  case round =>
    obtain ⟨i, hi, rfl, hwr, hseg⟩ := hrel
    have hlt1 := hrow.lt
    have hB : Below w.heap.size w wr := hnew.below.trans (hwr.below (Nat.le_refl _) hnew.below.size)
    by_cases hlt : i < n
    · obtain ⟨C, hC⟩ : ∃ C, C = X % BB ^ i * Y := ⟨_, rfl⟩
      rw [← hC] at hseg
      obtain ⟨a, ha⟩ : ∃ a, a = dg X i := ⟨_, rfl⟩
      have ha32 : a < 4294967296 := by rw [ha]; exact dg_lt _ _
      obtain ⟨Z, hZ⟩ : ∃ Z, Z = C + a * Y * BB ^ i := ⟨_, rfl⟩
      have hZn : Z = X % BB ^ (i + 1) * Y := by rw [hZ, hC, ha, mod_succ, Nat.add_mul, Nat.mul_right_comm]
      have hZdiv : Z / BB ^ i = C / BB ^ i + a * Y := by rw [hZ, Nat.add_mul_div_right _ _ (BBp i)]
      have hClt : C / BB ^ i < BB ^ m := by
        refine (Nat.div_lt_iff_lt_mul (BBp i)).2 ?_
        rw [hC, Nat.mul_comm (BB ^ m)]
        have h1 : X % BB ^ i < BB ^ i := Nat.mod_lt _ (BBp i)
        exact Nat.lt_of_le_of_lt (Nat.mul_le_mul_right _ (Nat.le_of_lt h1)) (Nat.mul_lt_mul_of_pos_left hS2.1 (BBp i))
      have hxs := hS.below hB (Nat.le_refl _)
      obtain ⟨b1, o1, rfl, hb1, hcx⟩ := hxs.2 (by omega)
      have hb1w : b1 < w.heap.size := hS.lt (by omega)
      have HZN : Hid (Z = X % BB ^ (i + 1) * Y) := hZn
      have HZD : Hid (Z / BB ^ i = C / BB ^ i + a * Y) := hZdiv
      have HCL : Hid (C / BB ^ i < BB ^ m) := hClt
      have HA : Hid (a = dg X i) := ha
      have HCB : Hid (C < BB ^ (n + m)) := hseg.1
      have HZE : Hid (Z % BB ^ i = C % BB ^ i) := by show _ = _; rw [hZ, Nat.add_mul_mod_self_right]
      clear hZ hZn hZdiv hClt hC ha
      go_wp2
      go_loopw [7, 8] (fun vc vk wr2 => ∃ k : Nat, k ≤ m ∧ vk = .int .i64 k ∧ vc = .int .u64 (mcy (C / BB ^ i) Y a k : Nat) ∧ Wr w.heap.size 0 (0 + (n + m)) w1 wr2 ∧ Seg wr2 (some ⟨w.heap.size, 0, none⟩) (mix Z C (i + k)) (n + m)) (fun _ vk _ => m - (intOf vk).toNat)
      case atStart =>
        refine ⟨0, Nat.zero_le _, rfl, by rw [mcy_zero]; rfl, hwr, ?_⟩
        refine hseg.congr (mix_lt HCB.out (by omega)) fun j hj => ?_
        by_cases h : j < i
        · rw [dg_mix_lo _ _ (by omega)]
          rw [← dg_mod Z j i h, HZE.out, dg_mod C j i h]
        · rw [dg_mix_hi _ _ (by omega)]
      case round =>
        clear hwr hseg hB hxs hcx
        obtain ⟨k, hk, rfl, rfl, hwr, hseg⟩ := hrel
        have hB : Below w.heap.size w wr := hnew.below.trans (hwr.below (Nat.le_refl _) hnew.below.size)
        have hcy := mcy_le (a := a) (C / BB ^ i) Y k
        by_cases hlt2 : k < m
        · have hxc := (hS.below hB (Nat.le_refl _)).cells i hlt
          rw [← HA.out] at hxc
          obtain ⟨b2, o2, rfl, hb2, hcy2⟩ := (hS2.below hB (Nat.le_refl _)).2 (by omega)
          have hb2w : b2 < w.heap.size := hS2.lt (by omega)
          have hcz := hseg.cells (i + k) (by omega)
          rw [Nat.zero_add, dg_mix_hi _ _ (Nat.le_refl _), ← dg_div] at hcz
          have hfz := fun o => (hwr.row hrow).frozen o
          have h1 := dg_lt (C / BB ^ i) k
          have h2 := dg_lt Y k
          obtain ⟨hp0, hp1⟩ := prod_int ha32 h2
          go_wp2
          go_quiet (fail)
          go_wp2
          go_roundw
          case rel =>
            have e1 := mul_dg (C / BB ^ i) Y a k
            have e2 := mul_cy (C / BB ^ i) Y a k
            have ep : ((dg Y k * a : Nat) : Int) = (a : Int) * ((dg Y k : Nat) : Int) := by rw [Int.natCast_mul, Int.mul_comm]
            have e3 : dg Z (i + k) = dg (C / BB ^ i + a * Y) k := by rw [← dg_div, HZD.out]
            refine ⟨k + 1, by omega, by go_num, ?_, ?_, ?_⟩
            · congr 1; omega
            · have := (hwr.drewN (n := nq)).setCell (0 + (i + k)) (by omega) (by omega) (.int .u32 (((a : Int) * ((dg Y k : Nat) : Int) + ((dg (C / BB ^ i) k : Nat) : Int) + ((mcy (C / BB ^ i) Y a k : Nat) : Int)) % 4294967296))
              simpa using this
            · have := (hseg.drewN (q := nq)).set (k := i + k) (by omega) HCB.out (v := ((a : Int) * ((dg Y k : Nat) : Int) + ((dg (C / BB ^ i) k : Nat) : Int) + ((mcy (C / BB ^ i) Y a k : Nat) : Int)) % 4294967296) (by omega)
              rw [Nat.zero_add] at this
              exact this
          case measure => simp [intOf]; omega
        · have hkm : k = m := by omega
          subst hkm
          have hcz := hseg.cells (i + k) (by omega)
          rw [Nat.zero_add] at hcz
          have hfz := fun o => (hwr.row hrow).frozen o
          have hc32 : mcy (C / BB ^ i) Y a k < 4294967296 := by omega
          go_wp2
          go_roundw
          case rel =>
            have e := mcy_end (a := a) HCL.out hS2.1
            have e3 : dg Z (i + k) = mcy (C / BB ^ i) Y a k := by
              rw [← dg_div, HZD.out, dg, ← e, Nat.mod_eq_of_lt (Nat.lt_of_lt_of_eq hc32 BB_eq.symm)]
            refine ⟨i + 1, by omega, by go_num, ?_, ?_⟩
            · have := hwr.setCell (0 + (i + k)) (by omega) (by omega) (.int .u32 (mcy (C / BB ^ i) Y a k : Nat))
              simpa using this
            · have := hseg.set (k := i + k) (by omega) HCB.out (v := (mcy (C / BB ^ i) Y a k : Nat)) (by rw [e3])
              rw [Nat.zero_add] at this
              have hCs : C < BB ^ (i + k + 1) := by
                have := (Nat.div_lt_iff_lt_mul (BBp i)).1 HCL.out
                rw [← Nat.pow_add] at this
                exact Nat.lt_of_lt_of_le this (pow_mono (by omega))
              have hZs : Z < BB ^ (i + k + 1) := by
                rw [HZN.out, show i + k + 1 = i + 1 + k by omega, Nat.pow_add BB (i + 1) k]
                have h1 : X % BB ^ (i + 1) < BB ^ (i + 1) := Nat.mod_lt _ (BBp _)
                exact Nat.lt_of_le_of_lt (Nat.mul_le_mul_right _ (Nat.le_of_lt h1)) (Nat.mul_lt_mul_of_pos_left hS2.1 (BBp _))
              rw [mix_full hCs hZs, HZN.out] at this
              exact this
          case measure => simp [intOf]; omega
    · have hin : i = n := by omega
      subst hin
      rw [Nat.mod_eq_of_lt hS.1] at hseg
      go_wp2_with fail
      refine (rNorm_any _ _ _ (X * Y) _ (by omega) hseg).mono ?_
      rintro e w2 ⟨a2, rfl, hn2⟩
      go_wp2
      go_ret
      exact ⟨_, rfl, hn2.back hB⟩

/-- 2 X and a digit -/
def tw (X : Nat) (d : Bool) : Nat := 2 * X + (if d then 1 else 0)
def tcy (X : Nat) (d : Bool) (k : Nat) : Nat := (2 * (X % BB ^ k) + (if d then 1 else 0)) / BB ^ k
theorem tcy_le (X : Nat) (d : Bool) (k : Nat) : tcy X d k ≤ 1 := by
  unfold tcy
  have h1 : X % BB ^ k < BB ^ k := Nat.mod_lt _ (BBp k)
  have : (2 * (X % BB ^ k) + (if d then 1 else 0)) / BB ^ k < 2 := (Nat.div_lt_iff_lt_mul (BBp k)).2 (by split <;> omega)
  omega
theorem tw_split (X : Nat) (d : Bool) (k : Nat) : tw X d / BB ^ k = 2 * (X / BB ^ k) + tcy X d k := by
  have h1 := split_at X k
  have h3 : tw X d = BB ^ k * (2 * (X / BB ^ k)) + (2 * (X % BB ^ k) + (if d then 1 else 0)) := by
    have e : BB ^ k * (2 * (X / BB ^ k)) = 2 * (X / BB ^ k * BB ^ k) := by ac_rfl
    unfold tw; rw [e]; omega
  rw [h3, Nat.mul_add_div (BBp k)]; rfl
theorem tw_dg (X : Nat) (d : Bool) (k : Nat) : (2 * dg X k + tcy X d k) % 4294967296 = dg (tw X d) k := by
  rw [← BB_eq, show dg (tw X d) k = (tw X d / BB ^ k) % BB from rfl, tw_split]
  unfold dg
  have := Nat.div_add_mod (X / BB ^ k) BB
  generalize X / BB ^ k = x at *
  have e : 2 * x + tcy X d k = 2 * (x % BB) + tcy X d k + BB * (2 * (x / BB)) := by
    have e1 : BB * (2 * (x / BB)) = 2 * (BB * (x / BB)) := by ac_rfl
    rw [e1]; omega
  rw [e, Nat.add_mul_mod_self_left]
theorem tw_cy (X : Nat) (d : Bool) (k : Nat) : dg X k / 2147483648 = tcy X d (k + 1) := by
  have h := tw_split X d (k + 1)
  have h2 := tw_split X d k
  have e1 := div_succ (tw X d) k
  have e2 := div_succ X k
  have hd := dg_lt X k
  have hz := dg_lt (tw X d) k
  have hc := tcy_le X d k
  have hc2 := tcy_le X d (k + 1)
  rw [h2, e2, h] at e1
  rw [BB_eq] at e1
  have e3 : 2 * (X / 4294967296 ^ (k + 1) * 4294967296 + dg X k) + tcy X d k = (2 * (X / 4294967296 ^ (k + 1)) + tcy X d (k + 1)) * 4294967296 + dg (tw X d) k := e1
  generalize X / 4294967296 ^ (k + 1) = q at *
  omega
theorem twice_or {x c : Nat} (hx : x < 4294967296) (hc : c ≤ 1) : bits BinOp.or IntKind.u32 ((x : Int) * 2 % 4294967296) (c : Int) = (((2 * x + c) % 4294967296 : Nat) : Int) := by
  have e : (x : Int) * 2 % 4294967296 = ((2 * x % 4294967296 : Nat) : Int) := by omega
  rw [e, u32_or_nat _ _ (by omega) (by omega), nat_join 1 _ _ (by omega) (by omega)]
  congr 1; omega

theorem Seg.setOther1 {w : World} {ao : Option Addr} {X n g o : Nat} {u : Value} (h : Seg w ao X n) (hne : ∀ o, ao ≠ some ⟨g, o, none⟩) : Seg (w.setCell ⟨g, o, none⟩ u) ao X n :=
  h.wr ((Wr.refl g 0 (o + 1) w).setCell o (by omega) (by omega) u) hne
theorem Seg.setOther2 {w : World} {b off X n g o : Nat} {u : Value} (h : Seg w (some ⟨b, off, none⟩) X n) (hne : b ≠ g) : Seg (w.setCell ⟨g, o, none⟩ u) (some ⟨b, off, none⟩) X n :=
  h.setOther1 (fun o' e => by simp only [Option.some.injEq, Addr.mk.injEq] at e; exact hne e.1)
theorem half_step' (n k : Nat) : n / 2 ^ k = 2 * (n / 2 ^ (k + 1)) + bt n k := by
  unfold bt
  rw [Nat.pow_succ, ← Nat.div_div_eq_div_mul]
  have := Nat.div_add_mod (n / 2 ^ k) 2
  omega
set_option maxRecDepth 30000 in
theorem sl_end (ao : Option Addr) (n : Nat) (L : Int) (hL : L = (n : Int)) (w : World) :
    (Instr.slice 23 (.slice ao n n) (some (.int .i64 L)) none none).run Tryd.prog w = .ok (.slice ao 0 0) w := by
  subst hL
  rw [run_slice_l (P := Tryd.prog) w 23 _ n n A_under_nat .i64 _ (by omega) (by omega)]
  have es : (sizeOf (Tryd.prog.elem 23)).run Tryd.prog w = .ok 1 w := by kernel_rfl
  rw [es]
  simp only [Result.andThen, sliced, Int.toNat_natCast]
  rw [if_pos trivial, Nat.sub_self]

/-- a number's bits from k on -/
def hib (Q k : Nat) : Nat := Q / 2 ^ k * 2 ^ k
theorem hib_step (Q k : Nat) : hib Q k = hib Q (k + 1) + bt Q k * 2 ^ k := by
  unfold hib bt
  have e : Q / 2 ^ (k + 1) = Q / 2 ^ k / 2 := by rw [Nat.pow_succ, Nat.div_div_eq_div_mul]
  rw [e, Nat.pow_succ]
  have := Nat.div_add_mod (Q / 2 ^ k) 2
  generalize Q / 2 ^ k = x at *
  have e2 : x / 2 * (2 ^ k * 2) = 2 * (x / 2) * 2 ^ k := by ac_rfl
  rw [e2, ← Nat.add_mul, this]
theorem put_add {Q p t : Nat} (h : dg Q p + t < 4294967296) : put Q p 1 (dg Q p + t) = Q + t * BB ^ p := by
  unfold put
  have h1 := split_at Q (p + 1)
  have h2 := mod_succ Q p
  rw [h2] at h1
  rw [Nat.add_mul]
  omega
theorem hib_dg {Q j : Nat} : dg (hib Q (j + 1)) (j / 32) % 2 ^ (j % 32 + 1) = 0 := by
  have hs : j % 32 < 32 := Nat.mod_lt _ (by omega)
  unfold hib dg
  have e1 : (2 : Nat) ^ (j + 1) = 2 ^ (j % 32 + 1) * BB ^ (j / 32) := by
    rw [BB_two, ← Nat.pow_add]; congr 1; omega
  rw [e1, ← Nat.mul_assoc, Nat.mul_div_cancel _ (BBp _)]
  have e2 : BB = 2 ^ (j % 32 + 1) * 2 ^ (31 - j % 32) := by rw [← Nat.pow_add, BB_eq, show j % 32 + 1 + (31 - j % 32) = 32 by omega]
  rw [e2, Nat.mod_mul_right_mod, Nat.mul_mod_left]
theorem hib_room {c s : Nat} (hc : c < 4294967296) (hs : s < 32) (hz : c % 2 ^ (s + 1) = 0) : c + 2 ^ s < 4294967296 := by
  have e2 : (4294967296 : Nat) = 2 ^ (s + 1) * 2 ^ (31 - s) := by rw [← Nat.pow_add, show s + 1 + (31 - s) = 32 by omega]
  have hp := Nat.two_pow_pos s
  have h1 := Nat.div_add_mod c (2 ^ (s + 1))
  rw [hz, Nat.add_zero] at h1
  have h2 : c / 2 ^ (s + 1) < 2 ^ (31 - s) := (Nat.div_lt_iff_lt_mul (Nat.two_pow_pos _)).2 (by rw [Nat.mul_comm, ← e2]; exact hc)
  have h3 : 2 ^ (s + 1) * (c / 2 ^ (s + 1) + 1) ≤ 2 ^ (s + 1) * 2 ^ (31 - s) := Nat.mul_le_mul_left _ h2
  rw [← e2, Nat.mul_add, h1, Nat.mul_one, Nat.pow_succ] at h3
  omega
theorem hib_or {c s : Nat} (hc : c < 4294967296) (hs : s < 32) (hz : c % 2 ^ (s + 1) = 0) :
    bits BinOp.or IntKind.u32 (c : Int) (2 ^ s % 4294967296) = ((c + 2 ^ s : Nat) : Int) := by
  have h1 := hib_room hc hs hz
  have h3 : (2 : Int) ^ s % 4294967296 = 2 ^ s := by
    rw [show (2 : Int) ^ s = ((2 ^ s : Nat) : Int) by simp]; omega
  rw [h3]
  have h2 : (2 : Nat) ^ s < 2 ^ (s + 1) := Nat.pow_lt_pow_right (by omega) (by omega)
  rw [show (2 : Int) ^ s = ((2 ^ s : Nat) : Int) by simp, u32_or_nat _ _ hc (by omega), nat_join (s + 1) _ _ hz h2]

/-- one digit of a quotient in base 2 -/
theorem div_bit {A Y j : Nat} (hY : 0 < Y) : tw (A / 2 ^ (j + 1) % Y) (decide (bt A j = 1)) / Y = bt (A / Y) j ∧ tw (A / 2 ^ (j + 1) % Y) (decide (bt A j = 1)) % Y = A / 2 ^ j % Y ∧ tw (A / 2 ^ (j + 1) % Y) (decide (bt A j = 1)) < 2 * Y := by
  have hb : bt A j < 2 := Nat.mod_lt _ (by omega)
  have hst := half_step' A j
  have htw : tw (A / 2 ^ (j + 1) % Y) (decide (bt A j = 1)) = 2 * (A / 2 ^ (j + 1) % Y) + bt A j := by
    unfold tw
    by_cases h : bt A j = 1
    · simp [h]
    · have : bt A j = 0 := by omega
      simp [this]
  rw [htw]
  have hdm := Nat.div_add_mod (A / 2 ^ (j + 1)) Y
  have hlt : A / 2 ^ (j + 1) % Y < Y := Nat.mod_lt _ hY
  have hq : A / Y / 2 ^ j = A / 2 ^ j / Y := by rw [Nat.div_div_eq_div_mul, Nat.div_div_eq_div_mul, Nat.mul_comm]
  have key : A / 2 ^ j = Y * (2 * (A / 2 ^ (j + 1) / Y)) + (2 * (A / 2 ^ (j + 1) % Y) + bt A j) := by
    have e : Y * (2 * (A / 2 ^ (j + 1) / Y)) = 2 * (Y * (A / 2 ^ (j + 1) / Y)) := by ac_rfl
    rw [hst, e]; omega
  have hr2 : 2 * (A / 2 ^ (j + 1) % Y) + bt A j < 2 * Y := by omega
  refine ⟨?_, ?_, hr2⟩
  · rw [show bt (A / Y) j = A / Y / 2 ^ j % 2 from rfl, hq, key, Nat.mul_add_div hY]
    generalize 2 * (A / 2 ^ (j + 1) % Y) + bt A j = r at *
    have hr : r / Y < 2 := (Nat.div_lt_iff_lt_mul hY).2 hr2
    generalize r / Y = x at *
    omega
  · rw [key, Nat.mul_add_mod]

theorem rMul_is (ao ao2 : Option Addr) (n cap X m cap2 Y Z : Nat) (w : World) (hm : n + m ≤ 70368744177664) (hS : Seg w ao X n) (hS2 : Seg w ao2 Y m) (hz : X * Y = Z) :
    Calls Tryd.prog 39 #[.slice ao n cap, .slice ao2 m cap2] w fun e w' => ∃ ao', e = .returned (.slice ao' (ln Z) (ln Z)) ∧ New w w' ao' Z (ln Z) := by
  subst hz; exact rMul_any ao ao2 n cap X m cap2 Y w hm hS hS2
end Go.Proofs.YtancpkegjgmlmaaDoor
