/-
  Greatest common divisors: what Lehmer's steps keep. Plain mathematics: no program.
-/
import Derived.Test.YthecapmdionnmaaNumM
namespace Go.Proofs.Ythecapmdionnmaa

/-- what stands in the loop over the highest words -/
structure Leh (X Y xh yh x y u0 v0 u1 v1 : Nat) (ev : Bool) : Prop where
  bx : x * v1 + y * v0 = xh
  bv : x * u1 + y * u0 = yh
  le : y ≤ x
  v1p : 1 ≤ v1
  v01 : v0 ≤ v1
  uv1 : u1 ≤ v1
  uv0 : (v0 = 0 ∧ u0 = 1 ∧ u1 = 0 ∧ v1 = 1 ∧ ev = false) ∨ (1 ≤ v0 ∧ u0 ≤ v0)
  det : (ev = true ∧ u1 * v0 = u0 * v1 + 1) ∨ (ev = false ∧ u0 * v1 = u1 * v0 + 1)
  low : v0 = 0 ∨ (ev = true ∧ v0 * Y ≤ u0 * X + Y) ∨ (ev = false ∧ u0 * X ≤ v0 * Y + Y)

/-- what the steps tell -/
def Told (X Y um vm u0 v0 : Nat) (ev : Bool) : Prop :=
  vm = 0 ∨ (um < 4294967296 ∧ vm < 4294967296 ∧ u0 < 4294967296 ∧ v0 < 4294967296 ∧
    ∃ P Q, Q < P ∧ P ≤ Y ∧ Nat.gcd P Q = Nat.gcd X Y ∧ ((ev = true ∧ P + vm * Y = um * X ∧ Q + u0 * X = v0 * Y) ∨ (ev = false ∧ P + um * X = vm * Y ∧ Q + v0 * Y = u0 * X)))

theorem leh_start {X Y xh yh : Nat} (h : yh ≤ xh) : Leh X Y xh yh xh yh 1 0 0 1 false :=
  ⟨by simp, by simp, h, Nat.le_refl _, by omega, by omega, Or.inl ⟨rfl, rfl, rfl, rfl, rfl⟩, Or.inr ⟨rfl, by simp⟩, Or.inl rfl⟩

theorem gcd_keep {a b c d P Q X Y : Nat} (h1 : P + b * Y = a * X) (h2 : Q + d * X = c * Y) (h3 : a * c = b * d + 1) : Nat.gcd P Q = Nat.gcd X Y := by
  have hX : X = c * P + b * Q := by grind
  have hY : Y = d * P + a * Q := by grind
  apply Nat.dvd_antisymm
  · refine Nat.dvd_gcd ?_ ?_
    · rw [hX]; exact Nat.dvd_add (Nat.dvd_mul_left_of_dvd (Nat.gcd_dvd_left P Q) c) (Nat.dvd_mul_left_of_dvd (Nat.gcd_dvd_right P Q) b)
    · rw [hY]; exact Nat.dvd_add (Nat.dvd_mul_left_of_dvd (Nat.gcd_dvd_left P Q) d) (Nat.dvd_mul_left_of_dvd (Nat.gcd_dvd_right P Q) a)
  · refine Nat.dvd_gcd ?_ ?_
    · have h4 : Nat.gcd X Y ∣ P + b * Y := by rw [h1]; exact Nat.dvd_mul_left_of_dvd (Nat.gcd_dvd_left X Y) a
      exact (Nat.dvd_add_iff_left (Nat.dvd_mul_left_of_dvd (Nat.gcd_dvd_right X Y) b)).2 h4
    · have h4 : Nat.gcd X Y ∣ Q + d * X := by rw [h2]; exact Nat.dvd_mul_left_of_dvd (Nat.gcd_dvd_right X Y) c
      exact (Nat.dvd_add_iff_left (Nat.dvd_mul_left_of_dvd (Nat.gcd_dvd_left X Y) d)).2 h4

theorem sq_lt {v x : Nat} (h : v ≤ x) (hb : x * v < 18446744073709551616) : v < 4294967296 := by
  by_cases hc : v < 4294967296
  · exact hc
  · have h1 : 4294967296 * 4294967296 ≤ x * v := Nat.mul_le_mul (by omega) (by omega)
    omega

/-- both remainders, from the words: the lower digits change nothing (i even) -/
theorem leh_even {X Y H xh yh x y u0 v0 u1 v1 xl yl : Nat} (hX : X = xh * H + xl) (hY : Y = yh * H + yl) (hxl : xl < H) (hyl : yl < H)
    (bx : x * v1 + y * v0 = xh) (bv : x * u1 + y * u0 = yh) (det : u0 * v1 = u1 * v0 + 1) (uv1 : u1 ≤ v1) (v1p : 1 ≤ v1) (c1 : v1 ≤ y) (c2 : v0 + v1 + y ≤ x) :
    v0 * Y ≤ u0 * X ∧ u1 * X ≤ v1 * Y ∧ v1 * Y + v0 * Y < u0 * X + u1 * X := by
  have e1 : u0 * xh = x + v0 * yh := by grind
  have e2 : v1 * yh = y + u1 * xh := by grind
  have a1 : u0 * X = x * H + v0 * yh * H + u0 * xl := by grind
  have a2 : v0 * Y = v0 * yh * H + v0 * yl := by grind
  have a3 : v1 * Y = y * H + u1 * xh * H + v1 * yl := by grind
  have a4 : u1 * X = u1 * xh * H + u1 * xl := by grind
  have b1 : v0 * yl ≤ v0 * H := Nat.mul_le_mul_left _ (by omega)
  have b2 : v0 * H ≤ x * H := Nat.mul_le_mul_right _ (by omega)
  have b3 : u1 * xl ≤ y * H := Nat.mul_le_mul (by omega) (by omega)
  have b4 : (v0 + v1) * yl < (v0 + v1) * H := Nat.mul_lt_mul_of_pos_left hyl (by omega)
  have b5 : (v0 + v1 + y) * H ≤ x * H := Nat.mul_le_mul_right _ c2
  rw [Nat.add_mul] at b4 b5
  rw [Nat.add_mul] at b4 b5
  refine ⟨by omega, by omega, by omega⟩
theorem leh_odd {X Y H xh yh x y u0 v0 u1 v1 xl yl : Nat} (hX : X = xh * H + xl) (hY : Y = yh * H + yl) (hxl : xl < H) (hyl : yl < H)
    (bx : x * v1 + y * v0 = xh) (bv : x * u1 + y * u0 = yh) (det : u1 * v0 = u0 * v1 + 1) (uv1 : u1 ≤ v1) (uv0 : u0 ≤ v0) (v1p : 1 ≤ v1) (c1 : v1 ≤ y) (c2 : v0 + v1 + y ≤ x) :
    u0 * X ≤ v0 * Y ∧ v1 * Y ≤ u1 * X ∧ u1 * X + u0 * X < v0 * Y + v1 * Y := by
  have e1 : v0 * yh = x + u0 * xh := by grind
  have e2 : u1 * xh = y + v1 * yh := by grind
  have a1 : v0 * Y = x * H + u0 * xh * H + v0 * yl := by grind
  have a2 : u0 * X = u0 * xh * H + u0 * xl := by grind
  have a3 : u1 * X = y * H + v1 * yh * H + u1 * xl := by grind
  have a4 : v1 * Y = v1 * yh * H + v1 * yl := by grind
  have b1 : u0 * xl ≤ x * H := Nat.mul_le_mul (by omega) (by omega)
  have b3 : v1 * yl ≤ y * H := Nat.mul_le_mul (by omega) (by omega)
  have b4 : (v0 + v1) * xl < (v0 + v1) * H := Nat.mul_lt_mul_of_pos_left hxl (by omega)
  have b6 : (u0 + u1) * xl ≤ (v0 + v1) * xl := Nat.mul_le_mul_right _ (by omega)
  have b5 : (v0 + v1 + y) * H ≤ x * H := Nat.mul_le_mul_right _ c2
  rw [Nat.add_mul] at b4 b5
  rw [Nat.add_mul] at b4 b5
  rw [Nat.add_mul, Nat.add_mul] at b6
  refine ⟨by omega, by omega, by omega⟩

theorem leh_bounds {X Y xh yh x y u0 v0 u1 v1 : Nat} {ev : Bool} (L : Leh X Y xh yh x y u0 v0 u1 v1 ev) (hxh : xh < 18446744073709551616) (hle : yh ≤ xh) (c1 : v1 ≤ y) :
    u0 < 4294967296 ∧ v0 < 4294967296 ∧ u1 < 4294967296 ∧ v1 < 4294967296 ∧ u0 + x / y * u1 < 18446744073709551616 ∧ v0 + x / y * v1 < 18446744073709551616 := by
  obtain ⟨bx, bv, le, v1p, v01, uv1, uv0, det, low⟩ := L
  have h1 : x * v1 ≤ xh := by omega
  have hv : v1 < 4294967296 := sq_lt (by omega) (Nat.lt_of_le_of_lt h1 hxh)
  have hq : x / y * y ≤ x := Nat.div_mul_le_self x y
  have h2 : y * (v0 + x / y * v1) ≤ xh := by
    have : x / y * y * v1 ≤ x * v1 := Nat.mul_le_mul_right _ hq
    grind
  have h3 : y * (u0 + x / y * u1) ≤ yh := by
    have : x / y * y * u1 ≤ x * u1 := Nat.mul_le_mul_right _ hq
    grind
  have h4 : 1 * (v0 + x / y * v1) ≤ y * (v0 + x / y * v1) := Nat.mul_le_mul_right _ (by omega)
  have h5 : 1 * (u0 + x / y * u1) ≤ y * (u0 + x / y * u1) := Nat.mul_le_mul_right _ (by omega)
  rw [Nat.one_mul] at h4 h5
  refine ⟨?_, by omega, by omega, hv, by omega, by omega⟩
  rcases uv0 with h | h <;> omega

/-- one step more -/
theorem leh_step {X Y H xh yh x y u0 v0 u1 v1 xl yl : Nat} {ev : Bool} (hX : X = xh * H + xl) (hY : Y = yh * H + yl) (hxl : xl < H) (hyl : yl < H) (hxh : xh < 18446744073709551616) (hle : yh ≤ xh)
    (L : Leh X Y xh yh x y u0 v0 u1 v1 ev) (c1 : v1 ≤ y) (c2 : v0 + v1 + y ≤ x) :
    Leh X Y xh yh y (x % y) u1 v1 (u0 + x / y * u1) (v0 + x / y * v1) (!ev) ∧ Told X Y u0 v0 u1 v1 (!ev) := by
  have hb := leh_bounds L hxh hle c1
  obtain ⟨bx, bv, le, v1p, v01, uv1, uv0, det, low⟩ := L
  have hy : 0 < y := by omega
  have hdm := Nat.div_add_mod x y
  have hq : 1 ≤ x / y := (Nat.le_div_iff_mul_le hy).2 (by omega)
  have hqv : 1 * v1 ≤ x / y * v1 := Nat.mul_le_mul_right _ hq
  have hqu : x / y * u1 ≤ x / y * v1 := Nat.mul_le_mul_left _ uv1
  have hm : x % y < y := Nat.mod_lt _ hy
  generalize x / y = q at *
  generalize x % y = r at *
  have huv : u0 + q * u1 ≤ v0 + q * v1 := by
    rcases uv0 with ⟨rfl, rfl, rfl, rfl, -⟩ | h <;> omega
  have hlow : (ev = false ∧ v1 * Y ≤ u1 * X + Y) ∨ (ev = true ∧ u1 * X ≤ v1 * Y + Y) := by
    rcases det with ⟨he, hd⟩ | ⟨he, hd⟩
    · right
      refine ⟨he, ?_⟩
      rcases uv0 with ⟨_, _, _, _, h5⟩ | h
      · rw [he] at h5; cases h5
      · obtain ⟨k1, k2, k3⟩ := leh_odd hX hY hxl hyl bx bv hd uv1 h.2 v1p c1 c2
        rcases low with h6 | h6 | h6
        · omega
        · omega
        · rw [he] at h6; cases h6.1
    · left
      refine ⟨he, ?_⟩
      obtain ⟨k1, k2, k3⟩ := leh_even hX hY hxl hyl bx bv hd uv1 v1p c1 c2
      rcases uv0 with ⟨h1, h2, h3, h4, h5⟩ | h
      · rw [h4, h3]; omega
      · rcases low with h6 | h6 | h6
        · omega
        · rw [he] at h6; cases h6.1
        · omega
  refine ⟨⟨by grind, by grind, by omega, by omega, by omega, huv, Or.inr ⟨v1p, uv1⟩, ?_, ?_⟩, ?_⟩
  · rcases det with ⟨he, hd⟩ | ⟨he, hd⟩
    · right; exact ⟨by rw [he]; rfl, by grind⟩
    · left; exact ⟨by rw [he]; rfl, by grind⟩
  · rcases hlow with ⟨he, h⟩ | ⟨he, h⟩
    · right; left; exact ⟨by rw [he]; rfl, h⟩
    · right; right; exact ⟨by rw [he]; rfl, h⟩
  · by_cases hv0 : v0 = 0
    · exact Or.inl hv0
    · right
      have hu : 1 ≤ v0 ∧ u0 ≤ v0 := by rcases uv0 with h | h <;> omega
      refine ⟨hb.1, hb.2.1, hb.2.2.1, hb.2.2.2.1, ?_⟩
      rcases det with ⟨he, hd⟩ | ⟨he, hd⟩
      · obtain ⟨k1, k2, k3⟩ := leh_odd hX hY hxl hyl bx bv hd uv1 hu.2 v1p c1 c2
        refine ⟨v0 * Y - u0 * X, u1 * X - v1 * Y, by omega, ?_, ?_, Or.inr ⟨by rw [he]; rfl, by omega, by omega⟩⟩
        · rcases low with h6 | h6 | h6
          · omega
          · omega
          · rw [he] at h6; cases h6.1
        · rw [Nat.gcd_comm X Y]
          exact gcd_keep (a := v0) (b := u0) (c := u1) (d := v1) (by omega) (by omega) (by grind)
      · obtain ⟨k1, k2, k3⟩ := leh_even hX hY hxl hyl bx bv hd uv1 v1p c1 c2
        refine ⟨u0 * X - v0 * Y, v1 * Y - u1 * X, by omega, ?_, ?_, Or.inl ⟨by rw [he]; rfl, by omega, by omega⟩⟩
        · rcases low with h6 | h6 | h6
          · omega
          · rw [he] at h6; cases h6.1
          · omega
        · exact gcd_keep (a := u0) (b := v0) (c := v1) (d := u1) (by omega) (by omega) (by grind)

/-- a difference of products, limb by limb -/
theorem less_step {A C Y n k : Nat} (hC : C = 0 + n * Y) (hle : C ≤ A) :
    (dg Y k * n + (mcy 0 Y n k + bw A C k)) / 4294967296 + (if dg A k < (dg Y k * n + (mcy 0 Y n k + bw A C k)) % 4294967296 then 1 else 0) = mcy 0 Y n (k + 1) + bw A C (k + 1) ∧
    dg (A - C) k = (dg A k + 4294967296 - (dg Y k * n + (mcy 0 Y n k + bw A C k)) % 4294967296) % 4294967296 := by
  have h1 := mul_dg 0 Y n k
  have h2 := mul_cy 0 Y n k
  rw [dg_zero, Nat.add_zero] at h1 h2
  rw [← hC] at h1
  have h3 := sub_step k hle
  have h4 := bw_le A C k
  have h5 := bw_le A C (k + 1)
  have h6 := dg_lt (A - C) k
  have h7 := dg_lt A k
  have h8 := dg_lt C k
  generalize dg Y k * n = p at *
  generalize mcy 0 Y n k = m0 at *
  generalize mcy 0 Y n (k + 1) = m1 at *
  generalize bw A C k = b0 at *
  generalize bw A C (k + 1) = b1 at *
  generalize dg (A - C) k = z at *
  generalize dg A k = a at *
  generalize dg C k = c at *
  constructor
  · split <;> omega
  · omega
end Go.Proofs.Ythecapmdionnmaa
