import Derived.Test.YtejlnodillnoaaaGreatDoorNumM
import Derived.Test.YtejlnodillnoaaaGreatDoorW11
set_option linter.unusedSimpArgs false
namespace Go.Proofs.YtejlnodillnoaaaGreatDoor
structure Leh (X Y xh yh x y u0 v0 u1 v1 : Nat) (ev : Bool) : Prop where
  bx : x * v1 + y * v0 = xh
  bv : x * u1 + y * u0 = yh
  le : y ≤ x
  v1p : 1 ≤ v1
  v01 : v0 ≤ v1
  uv1 : u1 ≤ v1
  uv0 : (v0 = 0 ∧ u0 = 1 ∧ u1 = 0 ∧ v1 = 1 ∧ ev = false) ∨ (1 ≤ v0 ∧ u0 ≤ v0)
  det : (ev = true ∧ u1 * v0 = u0 * v1 + 1) ∨ (ev = false ∧ u0 * v1 = u1 * v0 + 1)
  low : v0 = 0 ∨ (ev = true ∧ v0 * Y ≤ u0 * X + Y) ∨ (ev = false ∧ u0 * X ≤ v0 * Y + Y)
def Told (X Y um vm u0 v0 : Nat) (ev : Bool) : Prop :=
  vm = 0 ∨ (um < 4294967296 ∧ vm < 4294967296 ∧ u0 < 4294967296 ∧ v0 < 4294967296 ∧
    ∃ P Q, Q < P ∧ P ≤ Y ∧ Nat.gcd P Q = Nat.gcd X Y ∧ ((ev = true ∧ P + vm * Y = um * X ∧ Q + u0 * X = v0 * Y) ∨ (ev = false ∧ P + um * X = vm * Y ∧ Q + v0 * Y = u0 * X)))
theorem leh_start {X Y xh yh : Nat} (h : yh ≤ xh) : Leh X Y xh yh xh yh 1 0 0 1 false :=
  ⟨by simp, by simp, h, Nat.le_refl _, by omega, by omega, Or.inl ⟨rfl, rfl, rfl, rfl, rfl⟩, Or.inr ⟨rfl, by simp⟩, Or.inl rfl⟩
theorem gcd_keep {a b c d P Q X Y : Nat} (h1 : P + b * Y = a * X) (h2 : Q + d * X = c * Y) (h3 : a * c = b * d + 1) : Nat.gcd P Q = Nat.gcd X Y := by
  have hX : X = c * P + b * Q := by grind
  have hY : Y = d * P + a * Q := by grind
  apply Nat.dvd_antisymm
  · refine Nat.dvd_gcd ?_ ?_
    · rw [hX]; exact Nat.dvd_add (Nat.dvd_mul_left_of_dvd (Nat.gcd_dvd_left P Q) c) (Nat.dvd_mul_left_of_dvd (Nat.gcd_dvd_right P Q) b)
    · rw [hY]; exact Nat.dvd_add (Nat.dvd_mul_left_of_dvd (Nat.gcd_dvd_left P Q) d) (Nat.dvd_mul_left_of_dvd (Nat.gcd_dvd_right P Q) a)
  · refine Nat.dvd_gcd ?_ ?_
    · have h4 : Nat.gcd X Y ∣ P + b * Y := by rw [h1]; exact Nat.dvd_mul_left_of_dvd (Nat.gcd_dvd_left X Y) a
      exact (Nat.dvd_add_iff_left (Nat.dvd_mul_left_of_dvd (Nat.gcd_dvd_right X Y) b)).2 h4
    · have h4 : Nat.gcd X Y ∣ Q + d * X := by rw [h2]; exact Nat.dvd_mul_left_of_dvd (Nat.gcd_dvd_right X Y) c
      exact (Nat.dvd_add_iff_left (Nat.dvd_mul_left_of_dvd (Nat.gcd_dvd_left X Y) d)).2 h4
theorem sq_lt {v x : Nat} (h : v ≤ x) (hb : x * v < 18446744073709551616) : v < 4294967296 := by
  by_cases hc : v < 4294967296
  · exact hc
  · have h1 : 4294967296 * 4294967296 ≤ x * v := Nat.mul_le_mul (by omega) (by omega)
    omega
theorem leh_even {X Y H xh yh x y u0 v0 u1 v1 xl yl : Nat} (hX : X = xh * H + xl) (hY : Y = yh * H + yl) (hxl : xl < H) (hyl : yl < H)
    (bx : x * v1 + y * v0 = xh) (bv : x * u1 + y * u0 = yh) (det : u0 * v1 = u1 * v0 + 1) (uv1 : u1 ≤ v1) (v1p : 1 ≤ v1) (c1 : v1 ≤ y) (c2 : v0 + v1 + y ≤ x) :
    v0 * Y ≤ u0 * X ∧ u1 * X ≤ v1 * Y ∧ v1 * Y + v0 * Y < u0 * X + u1 * X := by
  have e1 : u0 * xh = x + v0 * yh := by grind
  have e2 : v1 * yh = y + u1 * xh := by grind
  have a1 : u0 * X = x * H + v0 * yh * H + u0 * xl := by grind
  have a2 : v0 * Y = v0 * yh * H + v0 * yl := by grind
  have a3 : v1 * Y = y * H + u1 * xh * H + v1 * yl := by grind
  have a4 : u1 * X = u1 * xh * H + u1 * xl := by grind
  have b1 : v0 * yl ≤ v0 * H := Nat.mul_le_mul_left _ (by omega)
  have b2 : v0 * H ≤ x * H := Nat.mul_le_mul_right _ (by omega)
  have b3 : u1 * xl ≤ y * H := Nat.mul_le_mul (by omega) (by omega)
  have b4 : (v0 + v1) * yl < (v0 + v1) * H := Nat.mul_lt_mul_of_pos_left hyl (by omega)
  have b5 : (v0 + v1 + y) * H ≤ x * H := Nat.mul_le_mul_right _ c2
  rw [Nat.add_mul] at b4 b5
  rw [Nat.add_mul] at b4 b5
  refine ⟨by omega, by omega, by omega⟩
theorem leh_odd {X Y H xh yh x y u0 v0 u1 v1 xl yl : Nat} (hX : X = xh * H + xl) (hY : Y = yh * H + yl) (hxl : xl < H) (hyl : yl < H)
    (bx : x * v1 + y * v0 = xh) (bv : x * u1 + y * u0 = yh) (det : u1 * v0 = u0 * v1 + 1) (uv1 : u1 ≤ v1) (uv0 : u0 ≤ v0) (v1p : 1 ≤ v1) (c1 : v1 ≤ y) (c2 : v0 + v1 + y ≤ x) :
    u0 * X ≤ v0 * Y ∧ v1 * Y ≤ u1 * X ∧ u1 * X + u0 * X < v0 * Y + v1 * Y := by
  have e1 : v0 * yh = x + u0 * xh := by grind
  have e2 : u1 * xh = y + v1 * yh := by grind
  have a1 : v0 * Y = x * H + u0 * xh * H + v0 * yl := by grind
  have a2 : u0 * X = u0 * xh * H + u0 * xl := by grind
  have a3 : u1 * X = y * H + v1 * yh * H + u1 * xl := by grind
  have a4 : v1 * Y = v1 * yh * H + v1 * yl := by grind
  have b1 : u0 * xl ≤ x * H := Nat.mul_le_mul (by omega) (by omega)
  have b3 : v1 * yl ≤ y * H := Nat.mul_le_mul (by omega) (by omega)
  have b4 : (v0 + v1) * xl < (v0 + v1) * H := Nat.mul_lt_mul_of_pos_left hxl (by omega)
  have b6 : (u0 + u1) * xl ≤ (v0 + v1) * xl := Nat.mul_le_mul_right _ (by omega)
  have b5 : (v0 + v1 + y) * H ≤ x * H := Nat.mul_le_mul_right _ c2
  rw [Nat.add_mul] at b4 b5
  rw [Nat.add_mul] at b4 b5
  rw [Nat.add_mul, Nat.add_mul] at b6
  refine ⟨by omega, by omega, by omega⟩
theorem leh_bounds {X Y xh yh x y u0 v0 u1 v1 : Nat} {ev : Bool} (L : Leh X Y xh yh x y u0 v0 u1 v1 ev) (hxh : xh < 18446744073709551616) (hle : yh ≤ xh) (c1 : v1 ≤ y) :
    u0 < 4294967296 ∧ v0 < 4294967296 ∧ u1 < 4294967296 ∧ v1 < 4294967296 ∧ u0 + x / y * u1 < 18446744073709551616 ∧ v0 + x / y * v1 < 18446744073709551616 := by
  obtain ⟨bx, bv, le, v1p, v01, uv1, uv0, det, low⟩ := L
  have h1 : x * v1 ≤ xh := by omega
  have hv : v1 < 4294967296 := sq_lt (by omega) (Nat.lt_of_le_of_lt h1 hxh)
  have hq : x / y * y ≤ x := Nat.div_mul_le_self x y
  have h2 : y * (v0 + x / y * v1) ≤ xh := by
    have : x / y * y * v1 ≤ x * v1 := Nat.mul_le_mul_right _ hq
    grind
  have h3 : y * (u0 + x / y * u1) ≤ yh := by
    have : x / y * y * u1 ≤ x * u1 := Nat.mul_le_mul_right _ hq
    grind
  have h4 : 1 * (v0 + x / y * v1) ≤ y * (v0 + x / y * v1) := Nat.mul_le_mul_right _ (by omega)
  have h5 : 1 * (u0 + x / y * u1) ≤ y * (u0 + x / y * u1) := Nat.mul_le_mul_right _ (by omega)
  rw [Nat.one_mul] at h4 h5
  refine ⟨?_, by omega, by omega, hv, by omega, by omega⟩
  rcases uv0 with h | h <;> omega
theorem leh_step {X Y H xh yh x y u0 v0 u1 v1 xl yl : Nat} {ev : Bool} (hX : X = xh * H + xl) (hY : Y = yh * H + yl) (hxl : xl < H) (hyl : yl < H) (hxh : xh < 18446744073709551616) (hle : yh ≤ xh)
    (L : Leh X Y xh yh x y u0 v0 u1 v1 ev) (c1 : v1 ≤ y) (c2 : v0 + v1 + y ≤ x) :
    Leh X Y xh yh y (x % y) u1 v1 (u0 + x / y * u1) (v0 + x / y * v1) (!ev) ∧ Told X Y u0 v0 u1 v1 (!ev) := by
  have hb := leh_bounds L hxh hle c1
  obtain ⟨bx, bv, le, v1p, v01, uv1, uv0, det, low⟩ := L
  have hy : 0 < y := by omega
  have hdm := Nat.div_add_mod x y
  have hq : 1 ≤ x / y := (Nat.le_div_iff_mul_le hy).2 (by omega)
  have hqv : 1 * v1 ≤ x / y * v1 := Nat.mul_le_mul_right _ hq
  have hqu : x / y * u1 ≤ x / y * v1 := Nat.mul_le_mul_left _ uv1
  have hm : x % y < y := Nat.mod_lt _ hy
  generalize x / y = q at *
  generalize x % y = r at *
  have huv : u0 + q * u1 ≤ v0 + q * v1 := by
    rcases uv0 with ⟨rfl, rfl, rfl, rfl, -⟩ | h <;> omega
  have hlow : (ev = false ∧ v1 * Y ≤ u1 * X + Y) ∨ (ev = true ∧ u1 * X ≤ v1 * Y + Y) := by
    rcases det with ⟨he, hd⟩ | ⟨he, hd⟩
    · right
      refine ⟨he, ?_⟩
      rcases uv0 with ⟨_, _, _, _, h5⟩ | h
      · rw [he] at h5; cases h5
      · obtain ⟨k1, k2, k3⟩ := leh_odd hX hY hxl hyl bx bv hd uv1 h.2 v1p c1 c2
        rcases low with h6 | h6 | h6
        · omega
        · omega
        · rw [he] at h6; cases h6.1
    · left
      refine ⟨he, ?_⟩
      obtain ⟨k1, k2, k3⟩ := leh_even hX hY hxl hyl bx bv hd uv1 v1p c1 c2
      rcases uv0 with ⟨h1, h2, h3, h4, h5⟩ | h
      · rw [h4, h3]; omega
      · rcases low with h6 | h6 | h6
        · omega
        · rw [he] at h6; cases h6.1
        · omega
  refine ⟨⟨by grind, by grind, by omega, by omega, by omega, huv, Or.inr ⟨v1p, uv1⟩, ?_, ?_⟩, ?_⟩
  · rcases det with ⟨he, hd⟩ | ⟨he, hd⟩
    · right; exact ⟨by rw [he]; rfl, by grind⟩
    · left; exact ⟨by rw [he]; rfl, by grind⟩
  · rcases hlow with ⟨he, h⟩ | ⟨he, h⟩
    · right; left; exact ⟨by rw [he]; rfl, h⟩
    · right; right; exact ⟨by rw [he]; rfl, h⟩
  · by_cases hv0 : v0 = 0
    · exact Or.inl hv0
    · right
      have hu : 1 ≤ v0 ∧ u0 ≤ v0 := by rcases uv0 with h | h <;> omega
      refine ⟨hb.1, hb.2.1, hb.2.2.1, hb.2.2.2.1, ?_⟩
      rcases det with ⟨he, hd⟩ | ⟨he, hd⟩
      · obtain ⟨k1, k2, k3⟩ := leh_odd hX hY hxl hyl bx bv hd uv1 hu.2 v1p c1 c2
        refine ⟨v0 * Y - u0 * X, u1 * X - v1 * Y, by omega, ?_, ?_, Or.inr ⟨by rw [he]; rfl, by omega, by omega⟩⟩
        · rcases low with h6 | h6 | h6
          · omega
          · omega
          · rw [he] at h6; cases h6.1
        · rw [Nat.gcd_comm X Y]
          exact gcd_keep (a := v0) (b := u0) (c := u1) (d := v1) (by omega) (by omega) (by grind)
      · obtain ⟨k1, k2, k3⟩ := leh_even hX hY hxl hyl bx bv hd uv1 v1p c1 c2
        refine ⟨u0 * X - v0 * Y, v1 * Y - u1 * X, by omega, ?_, ?_, Or.inl ⟨by rw [he]; rfl, by omega, by omega⟩⟩
        · rcases low with h6 | h6 | h6
          · omega
          · rw [he] at h6; cases h6.1
          · omega
        · exact gcd_keep (a := u0) (b := v0) (c := v1) (d := u1) (by omega) (by omega) (by grind)
theorem less_step {A C Y n k : Nat} (hC : C = 0 + n * Y) (hle : C ≤ A) :
    (dg Y k * n + (mcy 0 Y n k + bw A C k)) / 4294967296 + (if dg A k < (dg Y k * n + (mcy 0 Y n k + bw A C k)) % 4294967296 then 1 else 0) = mcy 0 Y n (k + 1) + bw A C (k + 1) ∧
    dg (A - C) k = (dg A k + 4294967296 - (dg Y k * n + (mcy 0 Y n k + bw A C k)) % 4294967296) % 4294967296 := by
  have h1 := mul_dg 0 Y n k
  have h2 := mul_cy 0 Y n k
  rw [dg_zero, Nat.add_zero] at h1 h2
  rw [← hC] at h1
  have h3 := sub_step k hle
  have h4 := bw_le A C k
  have h5 := bw_le A C (k + 1)
  have h6 := dg_lt (A - C) k
  have h7 := dg_lt A k
  have h8 := dg_lt C k
  generalize dg Y k * n = p at *
  generalize mcy 0 Y n k = m0 at *
  generalize mcy 0 Y n (k + 1) = m1 at *
  generalize bw A C k = b0 at *
  generalize bw A C (k + 1) = b1 at *
  generalize dg (A - C) k = z at *
  generalize dg A k = a at *
  generalize dg C k = c at *
  constructor
  · split <;> omega
  · omega
open Go.RowKit
set_option linter.unusedVariables false
theorem hid15 {p : Prop} (h : p) : Hid p := h
theorem limb_any (ao : Option Addr) (n cap X i : Nat) (w : World) (hm : n ≤ 70368744177664) (hi : i ≤ 70368744177664) (hS : Seg w ao X n) :
    Calls Tryz.prog 158 #[.slice ao n cap, .int .i64 i] w fun e w' => e = .returned (.int .u64 (dg X i : Nat)) ∧ w = w' := by
  by_cases h : i < n
  · obtain ⟨b, off, rfl, hb, hc⟩ := hS.2 (by omega)
    have hx := dg_lt X i
    go_enter Tryz.func158, Tryz.ntmps158
    go_wp2
    go_ret
    exact ⟨rfl, rfl⟩
  · have h0 : dg X i = 0 := dg_big (Nat.lt_of_lt_of_le hS.1 (pow_mono (by omega)))
    have H0 : Hid (dg X i = 0) := h0
    clear h0
    go_enter Tryz.func158, Tryz.ntmps158
    go_wp2
    go_ret
    rw [H0.out]
    exact ⟨rfl, rfl⟩
theorem limb_q (ao : Option Addr) (n cap X : Nat) (z : Int) (w : World) (hm : n ≤ 70368744177664) (h0 : 0 ≤ z) (hi : z ≤ 70368744177664) (hS : Seg w ao X n) :
    Calls Tryz.prog 158 #[.slice ao n cap, .int .i64 z] w fun e w' => e = .returned (.int .u64 (dg X z.toNat : Nat)) ∧ w' = w := by
  obtain ⟨i, rfl⟩ := Int.eq_ofNat_of_zero_le h0
  refine (limb_any ao n cap X i w hm (by omega) hS).mono ?_
  rintro e w' ⟨rfl, rfl⟩
  exact ⟨rfl, rfl⟩
theorem word_cut {X d up : Nat} (hup : up ≤ 31) :
    X / 2 ^ (32 * (d + 1) - up) % 18446744073709551616 = (dg X (d + 2) * 4294967296 + dg X (d + 1)) * 2 ^ up % 18446744073709551616 + dg X d / 2 ^ (32 - up) ∧
    dg X d / 2 ^ (32 - up) < 2 ^ up ∧ (dg X (d + 2) * 4294967296 + dg X (d + 1)) * 2 ^ up % 18446744073709551616 % 2 ^ up = 0 := by
  have hc := dg_lt X d
  have e32 : (4294967296 : Nat) = 2 ^ (32 - up) * 2 ^ up := by rw [← Nat.pow_add, show 32 - up + up = 32 by omega]
  have e64 : (18446744073709551616 : Nat) = 2 ^ up * 2 ^ (64 - up) := by rw [← Nat.pow_add, show up + (64 - up) = 64 by omega]
  have hr : dg X d / 2 ^ (32 - up) < 2 ^ up := (Nat.div_lt_iff_lt_mul (Nat.two_pow_pos _)).2 (by rw [Nat.mul_comm, ← e32]; exact hc)
  have hT : ∀ T, T * 2 ^ up % 18446744073709551616 = 2 ^ up * (T % 2 ^ (64 - up)) := fun T => by
    rw [e64, Nat.mul_comm T, Nat.mul_mod_mul_left]
  refine ⟨?_, hr, by rw [hT, Nat.mul_mod_right]⟩
  have eh : 32 * (d + 1) - up = 32 * d + (32 - up) := by omega
  have e1 := div_succ X d
  have e2 := div_succ X (d + 1)
  have e3 := div_succ X (d + 2)
  rw [e3] at e2
  rw [e2, BB_eq] at e1
  rw [eh, Nat.pow_add, ← BB_two', ← Nat.div_div_eq_div_mul, BB_eq, e1]
  generalize X / 4294967296 ^ (d + 2 + 1) = M
  rw [show dg X (d + 1 + 1) = dg X (d + 2) from rfl]
  generalize dg X (d + 2) = a
  generalize dg X (d + 1) = b
  generalize dg X d = c at *
  have e4 : ((M * 4294967296 + a) * 4294967296 + b) * 4294967296 + c = 2 ^ (32 - up) * (((M * 4294967296 + a) * 4294967296 + b) * 2 ^ up) + c := by
    congr 1
    generalize (M * 4294967296 + a) * 4294967296 + b = N
    rw [e32]; ac_rfl
  rw [e4, Nat.mul_add_div (Nat.two_pow_pos _)]
  generalize c / 2 ^ (32 - up) = r at *
  have e5 : ((M * 4294967296 + a) * 4294967296 + b) * 2 ^ up + r = ((a * 4294967296 + b) * 2 ^ up + r) + 18446744073709551616 * (M * 2 ^ up) := by
    generalize 2 ^ up = p; grind
  rw [e5, Nat.add_mul_mod_self_left, hT, e64, Nat.mod_mul]
  have hp := Nat.two_pow_pos up
  have e6 : ((a * 4294967296 + b) * 2 ^ up + r) / 2 ^ up = a * 4294967296 + b := by
    rw [Nat.mul_comm, Nat.mul_add_div hp, Nat.div_eq_of_lt hr, Nat.add_zero]
  have e7 : ((a * 4294967296 + b) * 2 ^ up + r) % 2 ^ up = r := by
    rw [Nat.mul_comm, Nat.mul_add_mod, Nat.mod_eq_of_lt hr]
  rw [e6, e7, Nat.add_comm]
theorem word_val {a b c up : Nat} (ha : a < 4294967296) (hb : b < 4294967296) (hc : c < 4294967296) (hup : up ≤ 31) (hr : c / 2 ^ (32 - up) < 2 ^ up) (hm : (a * 4294967296 + b) * 2 ^ up % 18446744073709551616 % 2 ^ up = 0) :
    bits BinOp.or IntKind.u64 (IntKind.u64.wrap (bits BinOp.or IntKind.u64 (IntKind.u64.wrap ((a : Int) * 4294967296)) (b : Int) * 2 ^ up)) ((c : Int) / 2 ^ (32 - up)) = (((a * 4294967296 + b) * 2 ^ up % 18446744073709551616 + c / 2 ^ (32 - up) : Nat) : Int) := by
  have e : IntKind.u64.wrap ((a : Int) * 4294967296) = ((a * 4294967296 : Nat) : Int) := by rw [IntKind.wrap_u64]; omega
  rw [e, u64_or_nat _ _ (by omega) (by omega), nat_join 32 _ _ (by omega) (by omega), IntKind.wrap_u64]
  have e2 : ((a * 4294967296 + b : Nat) : Int) * 2 ^ up % 18446744073709551616 = (((a * 4294967296 + b) * 2 ^ up % 18446744073709551616 : Nat) : Int) := by
    rw [← cast_two, ← Int.natCast_mul]; generalize (a * 4294967296 + b) * 2 ^ up = t; omega
  have e3 : (c : Int) / 2 ^ (32 - up) = ((c / 2 ^ (32 - up) : Nat) : Int) := by rw [← cast_two, ← Int.natCast_ediv]
  have h2 := two_le hup
  have hlt : (a * 4294967296 + b) * 2 ^ up % 18446744073709551616 < 18446744073709551616 := Nat.mod_lt _ (by omega)
  rw [e2, e3, u64_or_nat _ _ hlt (by omega), nat_join up _ _ hm hr]
set_option maxHeartbeats 1000000 in
theorem wordAt_any (ao : Option Addr) (n cap X e up : Nat) (w : World) (hm : n ≤ 70368744177664) (he : e ≤ 70368744177664) (he3 : 3 ≤ e) (hup : up ≤ 31) (hS : Seg w ao X n) :
    Calls Tryz.prog 157 #[.slice ao n cap, .int .i64 e, .int .i64 up] w fun r w' => r = .returned (.int .u64 (X / 2 ^ (32 * (e - 2) - up) % 18446744073709551616 : Nat)) ∧ Dr w w' := by
  obtain ⟨d, rfl⟩ : ∃ d, e = d + 3 := ⟨e - 3, by omega⟩
  have t1 : ((d : Int) + 3 - 1).toNat = d + 2 := by omega
  have t2 : ((d : Int) + 3 - 2).toNat = d + 1 := by omega
  have t3 : ((d : Int) + 3 - 3).toNat = d := by omega
  go_enter Tryz.func157, Tryz.ntmps157
  go_wp2
  go_quiet ((go_at_call 158; exact Calls.quiet_of_same (limb_q _ _ _ X _ _ (by omega) (by omega) (by omega) hS.drewN)))
  go_wp2
  go_ret
  obtain ⟨f1, f2, f3⟩ := word_cut (X := X) (d := d) hup
  refine ⟨ret_int ?_, (Dr.refl _).drewN _⟩
  rw [show d + 3 - 2 = d + 1 by omega, f1]
  exact word_val (dg_lt _ _) (dg_lt _ _) (dg_lt _ _) hup f2 f3
set_option maxHeartbeats 1000000 in
theorem highWords_any (ao ao2 : Option Addr) (n cap X m cap2 Y : Nat) (w : World) (hm : n ≤ 70368744177664) (hm2 : m ≤ 70368744177664) (hS : Seg w ao X n) (hS2 : Seg w ao2 Y m) (hln : ln X = n) (h3 : 3 ≤ n) (hle : Y ≤ X) :
    ∃ h xh yh, xh = X / 2 ^ h ∧ yh = Y / 2 ^ h ∧ xh < 18446744073709551616 ∧
    Calls Tryz.prog 139 #[.slice ao n cap, .slice ao2 m cap2] w fun r w' => r = .returned (.tuple #[.int .u64 xh, .int .u64 yh]) ∧ Dr w w' := by
  obtain ⟨b, off, rfl, hb, hc⟩ := hS.2 (by omega)
  have htop : dg X (n - 1) ≠ 0 := by
    have h0 : X ≠ 0 := fun e => by rw [e, ln_zero] at hln; omega
    have := dg_top h0; rwa [hln] at this
  obtain ⟨hb32, hb1', hDlt, -⟩ := lead (by omega) hS.1 htop
  obtain ⟨up, hup⟩ : ∃ u, u = 32 - bl (dg X (n - 1)) := ⟨_, rfl⟩
  rw [← hup] at hDlt
  have hup31 : up ≤ 31 := by omega
  have LZ := LeadingZeros32_any (dg X (n - 1)) w (dg_lt _ _) hb32
  rw [← hup] at LZ
  have hX64 : X < 18446744073709551616 * 2 ^ (32 * (n - 2) - up) := by
    have e1 : BB ^ n = 2 ^ up * (18446744073709551616 * 2 ^ (32 * (n - 2) - up)) := by
      rw [BB_two', show (18446744073709551616 : Nat) = 2 ^ 64 from rfl, ← Nat.pow_add, ← Nat.pow_add]; congr 1; omega
    rw [e1] at hDlt
    exact Nat.lt_of_mul_lt_mul_left hDlt
  have hx : X / 2 ^ (32 * (n - 2) - up) < 18446744073709551616 := (Nat.div_lt_iff_lt_mul (Nat.two_pow_pos _)).2 hX64
  have hy : Y / 2 ^ (32 * (n - 2) - up) < 18446744073709551616 := (Nat.div_lt_iff_lt_mul (Nat.two_pow_pos _)).2 (Nat.lt_of_le_of_lt hle hX64)
  refine ⟨32 * (n - 2) - up, _, _, rfl, rfl, hx, ?_⟩
  have WX : Hid (∀ W, Dr w W → Calls Tryz.prog 157 #[.slice (some ⟨b, off, none⟩) n cap, .int .i64 n, .int .i64 up] W fun r w' => r = .returned (.int .u64 (X / 2 ^ (32 * (n - 2) - up) : Nat)) ∧ Dr W w') := fun W hW => by
    have := wordAt_any (some ⟨b, off, none⟩) n cap X n up W hm hm h3 hup31 (hS.dr hW)
    rwa [Nat.mod_eq_of_lt hx] at this
  have WY : Hid (∀ W, Dr w W → Calls Tryz.prog 157 #[.slice ao2 m cap2, .int .i64 n, .int .i64 up] W fun r w' => r = .returned (.int .u64 (Y / 2 ^ (32 * (n - 2) - up) : Nat)) ∧ Dr W w') := fun W hW => by
    have := wordAt_any ao2 m cap2 Y n up W hm2 hm h3 hup31 (hS2.dr hW)
    rwa [Nat.mod_eq_of_lt hy] at this
  generalize X / 2 ^ (32 * (n - 2) - up) = xh at *
  generalize Y / 2 ^ (32 * (n - 2) - up) = yh at *
  have HLZ := hid15 LZ
  clear hup hb32 hb1' hDlt htop LZ hX64 hle hln
  go_enter Tryz.func139, Tryz.ntmps139
  go_wp2_with fail
  refine HLZ.out.mono ?_
  rintro e w' ⟨rfl, rfl⟩
  go_wp2_with fail
  refine (WX.out _ (Dr.refl _)).mono ?_
  rintro e w1 ⟨rfl, hd1⟩
  go_wp2_with fail
  refine (WY.out _ hd1).mono ?_
  rintro e w2 ⟨rfl, hd2⟩
  go_wp2
  go_ret2
  exact ⟨rfl, hd1.trans hd2⟩
theorem gcdOfWords_any (x y : Nat) (w : World) (hx : x < 18446744073709551616) (hy : y < 18446744073709551616) :
    Calls Tryz.prog 123 #[.int .u64 x, .int .u64 y] w fun r w' => r = .returned (.int .u64 (Nat.gcd x y : Nat)) ∧ Dr w w' := by
  go_enter Tryz.func123, Tryz.ntmps123
  go_wp2
  go_loopw [0, 1] (fun vx vy wr => ∃ a b : Nat, vx = .int .u64 a ∧ vy = .int .u64 b ∧ a < 18446744073709551616 ∧ b < 18446744073709551616 ∧ Nat.gcd a b = Nat.gcd x y ∧ Dr w wr) (fun _ vy _ => (intOf vy).toNat)
  case atStart => exact ⟨x, y, rfl, rfl, hx, hy, rfl, Dr.refl _⟩
  case round =>
    obtain ⟨a, b, rfl, rfl, ha, hb, hg, hd⟩ := hrel
    have HG := hid15 hg
    clear hg
    by_cases hb0 : b = 0
    · subst hb0
      go_wp2
      go_ret
      refine ⟨ret_int ?_, hd⟩
      have := HG.out; rw [Nat.gcd_zero_right] at this; rw [this]
    · have hbn : ((b : Int) != 0) = true := by rw [bne_iff_ne]; omega
      have hbz : ((b : Int) == 0) = false := by rw [beq_eq_false_iff_ne]; omega
      go_wp2
      go_quiet (fail)
      go_wp2
      go_roundw
      case rel => exact ⟨b, a % b, rfl, by simp, hb, Nat.lt_of_le_of_lt (Nat.mod_le _ _) ha, by rw [Nat.gcd_comm, ← Nat.gcd_rec, Nat.gcd_comm]; exact HG.out, hd.drewN _⟩
      case measure =>
        have e : (a : Int) % (b : Int) = ((a % b : Nat) : Int) := by simp
        simp only [intOf, e, Int.toNat_natCast]
        exact Nat.mod_lt _ (by omega)
theorem euclidStep_any (ao ao2 : Option Addr) (n cap X m Y : Nat) (w : World) (hc : n ≤ cap) (hm : n ≤ 70368744177663) (hm2 : m ≤ 70368744177663) (hS : Seg w ao X n) (hS2 : Seg w ao2 Y m) (hY : Y ≠ 0) :
    Calls Tryz.prog 122 #[.slice ao n cap, .slice ao2 m m] w fun r w' => ∃ ar, r = .returned (.tuple #[.slice ao2 m m, .slice ar (ln (X % Y)) (ln (X % Y))]) ∧ New w w' ar (X % Y) (ln (X % Y)) := by
  go_enter Tryz.func122, Tryz.ntmps122
  go_wp2_with fail
  refine (Div_any _ _ _ _ X _ _ Y _ hc hm hS (Nat.le_refl _) hm2 hS2 hY).mono ?_
  rintro e w1 ⟨aq, ar, rfl, hq, hr⟩
  go_wp2
  go_ret2
  exact ⟨_, rfl, hr⟩
theorem tl_arith {mx dx m lc dy q dA dZ mx' lc' : Nat} (h1 : (dx * m + mx) % 4294967296 = dA) (h2 : (dx * m + mx) / 4294967296 = mx')
    (h3 : (dy * q + lc) / 4294967296 + (if dA < (dy * q + lc) % 4294967296 then 1 else 0) = lc') (h4 : dZ = (dA + 4294967296 - (dy * q + lc) % 4294967296) % 4294967296) :
    ((mx : Int) + (dx : Int) * (m : Int)) / 4294967296 = (mx' : Int) ∧
    (((mx : Int) + (dx : Int) * (m : Int)) % 4294967296 < ((lc : Int) + (dy : Int) * (q : Int)) % 4294967296 → ((lc : Int) + (dy : Int) * (q : Int)) / 4294967296 + 1 = (lc' : Int) ∧ ((mx : Int) + (dx : Int) * (m : Int) - ((lc : Int) + (dy : Int) * (q : Int))) % 4294967296 = (dZ : Int)) ∧
    (((lc : Int) + (dy : Int) * (q : Int)) % 4294967296 ≤ ((mx : Int) + (dx : Int) * (m : Int)) % 4294967296 → ((lc : Int) + (dy : Int) * (q : Int)) / 4294967296 = (lc' : Int) ∧ ((mx : Int) + (dx : Int) * (m : Int)) % 4294967296 - ((lc : Int) + (dy : Int) * (q : Int)) % 4294967296 = (dZ : Int)) := by
  have e1 : (dx : Int) * (m : Int) = ((dx * m : Nat) : Int) := (Int.natCast_mul _ _).symm
  have e2 : (dy : Int) * (q : Int) = ((dy * q : Nat) : Int) := (Int.natCast_mul _ _).symm
  rw [e1, e2]
  generalize dx * m = p at *
  generalize dy * q = r at *
  refine ⟨by omega, fun h => ?_, fun h => ?_⟩
  · rw [if_pos (by omega)] at h3; omega
  · rw [if_neg (by omega)] at h3; omega
set_option maxHeartbeats 1000000 in
theorem timesLess_any (ao ao2 : Option Addr) (n cap X m k cap2 Y q L : Nat) (w : World) (hn : n ≤ 70368744177664) (hk : k ≤ 70368744177664) (hmm : m < 4294967296) (hqq : q < 4294967296) (hL : L = max n k) (hS : Seg w ao X n) (hS2 : Seg w ao2 Y k)
    (hle : q * Y ≤ m * X) (hlt : m * X - q * Y < BB ^ L) :
    Calls Tryz.prog 140 #[.slice ao n cap, .int .u64 m, .slice ao2 k cap2, .int .u64 q] w fun r w' => ∃ a', r = .returned (.slice a' (ln (m * X - q * Y)) (ln (m * X - q * Y))) ∧ New w w' a' (m * X - q * Y) (ln (m * X - q * Y)) := by
  have hmx : max (n : Int) (k : Int) = (L : Int) := by omega
  have hnL : n ≤ L := by omega
  have hkL : k ≤ L := by omega
  have hL2 : L ≤ 70368744177664 := by omega
  clear hL
  go_enter Tryz.func140, Tryz.ntmps140
  go_wp2_with (at_make; refine mk_law _ rfl _ _ rfl _ L rfl rfl (by go_num) (by omega) ?_; intro w1 hnew hrow)
  obtain ⟨A, hA⟩ : ∃ A, A = m * X := ⟨_, rfl⟩
  obtain ⟨C, hC⟩ : ∃ C, C = q * Y := ⟨_, rfl⟩
  rw [← hA, ← hC] at hle hlt
  have HA := hid15 hA
  have HC := hid15 hC
  have HZ := hid15 hlt
  have HLE := hid15 hle
  clear hA hC hlt hle hmx
  go_loopw [10, 11, 22] (fun vm vl vi wr => ∃ j : Nat, j ≤ L ∧ vi = .int .i64 j ∧ vm = .int .u64 (mcy 0 X m j : Nat) ∧ vl = .int .u64 (mcy 0 Y q j + bw A C j : Nat) ∧ Wr w.heap.size 0 (0 + L) w1 wr ∧ Seg wr (some ⟨w.heap.size, 0, none⟩) (mix (A - C) 0 j) L) (fun _ _ vi _ => L - (intOf vi).toNat)
  case atStart => exact ⟨0, Nat.zero_le _, rfl, by rw [mcy_zero]; rfl, by rw [mcy_zero, bw_zero]; rfl, Wr.refl _ _ _ _, by rw [mix_zero]; exact hnew.seg⟩
  case round =>
    obtain ⟨j, hj, rfl, rfl, rfl, hwr, hseg⟩ := hrel
    have hB : Below w.heap.size w wr := hnew.below.trans (hwr.below (Nat.le_refl _) hnew.below.size)
    by_cases hlt : j < L
    · have hcx := hseg.rest j (Nat.le_refl _) hlt
      rw [Nat.zero_add] at hcx
      have hfz := fun o => (hwr.row hrow).frozen o
      have hc1 := mcy_le (a := m) 0 X j
      have hc2 := mcy_le (a := q) 0 Y j
      have hb1 := bw_le A C j
      have hx1 := dg_lt X j
      have hx2 := dg_lt Y j
      obtain ⟨hp0, hp1⟩ := prod_int hx1 hmm
      obtain ⟨hq0, hq1⟩ := prod_int hx2 hqq
      obtain ⟨lc, hlc⟩ : ∃ l, l = mcy 0 Y q j + bw A C j := ⟨_, rfl⟩
      rw [← hlc]
      have hlb : lc ≤ 4294967296 := by omega
      have HLC := hid15 hlc
      clear hlc
      go_wp2_with fail
      refine (limb_any _ _ _ X j _ (by omega) (by omega) (hS.below hB (Nat.le_refl _))).mono ?_
      rintro e w' ⟨rfl, rfl⟩
      go_wp2_with fail
      refine (limb_any _ _ _ Y j _ (by omega) (by omega) (hS2.below hB (Nat.le_refl _))).mono ?_
      rintro e w' ⟨rfl, rfl⟩
      have g1 := mul_dg 0 X m j
      have g2 := mul_cy 0 X m j
      rw [dg_zero, Nat.add_zero] at g1 g2
      rw [Nat.zero_add, ← HA.out] at g1
      have g3 := less_step (k := j) (n := q) (Y := Y) (by rw [Nat.zero_add]; exact HC.out) HLE.out
      rw [← HLC.out] at g3
      have AR := hid15 (tl_arith g1 g2 g3.1 g3.2)
      clear g1 g2 g3
      go_wp2
      all_goals go_roundw
      case rel =>
        obtain ⟨r1, r2, r3⟩ := AR.out
        rename_i hcmp2
        obtain ⟨r4, r5⟩ := r2 hcmp2
        refine ⟨j + 1, by omega, by go_num, by rw [r1], by rw [r4], ?_, ?_⟩
        · have := hwr.setCell j (by omega) (by omega) (.int .u32 ((((mcy 0 X m j : Nat) : Int) + ((dg X j : Nat) : Int) * (m : Int) - ((lc : Int) + ((dg Y j : Nat) : Int) * (q : Int))) % 4294967296))
          exact this
        · have := hseg.set (k := j) hlt (BBp _) (v := (((mcy 0 X m j : Nat) : Int) + ((dg X j : Nat) : Int) * (m : Int) - ((lc : Int) + ((dg Y j : Nat) : Int) * (q : Int))) % 4294967296) r5
          rw [Nat.zero_add] at this
          exact this
      case measure => simp [intOf]; omega
      case rel =>
        obtain ⟨r1, r2, r3⟩ := AR.out
        rename_i hcmp2
        obtain ⟨r4, r5⟩ := r3 hcmp2
        refine ⟨j + 1, by omega, by go_num, by rw [r1], by rw [r4], ?_, ?_⟩
        · have := hwr.setCell j (by omega) (by omega) (.int .u32 ((((mcy 0 X m j : Nat) : Int) + ((dg X j : Nat) : Int) * (m : Int)) % 4294967296 - ((lc : Int) + ((dg Y j : Nat) : Int) * (q : Int)) % 4294967296))
          exact this
        · have := hseg.set (k := j) hlt (BBp _) (v := (((mcy 0 X m j : Nat) : Int) + ((dg X j : Nat) : Int) * (m : Int)) % 4294967296 - ((lc : Int) + ((dg Y j : Nat) : Int) * (q : Int)) % 4294967296) r5
          rw [Nat.zero_add] at this
          exact this
      case measure => simp [intOf]; omega
    · have hjL : j = L := by omega
      subst hjL
      rw [mix_nought HZ.out] at hseg
      have hN : New w wr (some ⟨w.heap.size, 0, none⟩) (A - C) j := ⟨hseg, hB, fun _ => ⟨_, _, rfl, Nat.le_refl _, hwr.row hrow⟩⟩
      go_wp2_with fail
      refine (trim_any _ _ _ (A - C) _ (Nat.le_refl _) (by omega) hseg).mono ?_
      rintro e w4 ⟨a4, rfl, rfl, ht4⟩
      go_wp2
      go_ret
      rw [← HA.out, ← HC.out]
      exact ⟨_, rfl, hN.trm ht4⟩
end Go.Proofs.YtejlnodillnoaaaGreatDoor
