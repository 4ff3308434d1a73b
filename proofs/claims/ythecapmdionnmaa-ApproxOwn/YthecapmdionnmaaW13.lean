/-
  The reference's products and quotients: Mul, twice, Div.
-/
import Derived.Test.YthecapmdionnmaaW5
import Derived.Test.YthecapmdionnmaaW6
namespace Go.Proofs.Ythecapmdionnmaa
open Go.RowKit
set_option linter.unusedVariables false

theorem hide'' {p : Prop} (h : p) : Hid p := h

/-- 2 X and a digit -/
def tw (X : Nat) (d : Bool) : Nat := 2 * X + (if d then 1 else 0)
def tcy (X : Nat) (d : Bool) (k : Nat) : Nat := (2 * (X % BB ^ k) + (if d then 1 else 0)) / BB ^ k
theorem tcy_le (X : Nat) (d : Bool) (k : Nat) : tcy X d k ≤ 1 := by
  unfold tcy
  have h1 : X % BB ^ k < BB ^ k := Nat.mod_lt _ (BBp k)
  have : (2 * (X % BB ^ k) + (if d then 1 else 0)) / BB ^ k < 2 := (Nat.div_lt_iff_lt_mul (BBp k)).2 (by split <;> omega)
  omega
theorem tw_split (X : Nat) (d : Bool) (k : Nat) : tw X d / BB ^ k = 2 * (X / BB ^ k) + tcy X d k := by
  have h1 := split_at X k
  have h3 : tw X d = BB ^ k * (2 * (X / BB ^ k)) + (2 * (X % BB ^ k) + (if d then 1 else 0)) := by
    have e : BB ^ k * (2 * (X / BB ^ k)) = 2 * (X / BB ^ k * BB ^ k) := by ac_rfl
    unfold tw; rw [e]; omega
  rw [h3, Nat.mul_add_div (BBp k)]; rfl
theorem tw_dg (X : Nat) (d : Bool) (k : Nat) : (2 * dg X k + tcy X d k) % 4294967296 = dg (tw X d) k := by
  rw [← BB_eq, show dg (tw X d) k = (tw X d / BB ^ k) % BB from rfl, tw_split]
  unfold dg
  have := Nat.div_add_mod (X / BB ^ k) BB
  generalize X / BB ^ k = x at *
  have e : 2 * x + tcy X d k = 2 * (x % BB) + tcy X d k + BB * (2 * (x / BB)) := by
    have e1 : BB * (2 * (x / BB)) = 2 * (BB * (x / BB)) := by ac_rfl
    rw [e1]; omega
  rw [e, Nat.add_mul_mod_self_left]
theorem tw_cy (X : Nat) (d : Bool) (k : Nat) : dg X k / 2147483648 = tcy X d (k + 1) := by
  have h := tw_split X d (k + 1)
  have h2 := tw_split X d k
  have e1 := div_succ (tw X d) k
  have e2 := div_succ X k
  have hd := dg_lt X k
  have hz := dg_lt (tw X d) k
  have hc := tcy_le X d k
  have hc2 := tcy_le X d (k + 1)
  rw [h2, e2, h] at e1
  rw [BB_eq] at e1
  have e3 : 2 * (X / 4294967296 ^ (k + 1) * 4294967296 + dg X k) + tcy X d k = (2 * (X / 4294967296 ^ (k + 1)) + tcy X d (k + 1)) * 4294967296 + dg (tw X d) k := e1
  generalize X / 4294967296 ^ (k + 1) = q at *
  omega
theorem twice_or {x c : Nat} (hx : x < 4294967296) (hc : c ≤ 1) : bits BinOp.or IntKind.u32 ((x : Int) * 2 % 4294967296) (c : Int) = (((2 * x + c) % 4294967296 : Nat) : Int) := by
  have e : (x : Int) * 2 % 4294967296 = ((2 * x % 4294967296 : Nat) : Int) := by omega
  rw [e, u32_or_nat _ _ (by omega) (by omega), nat_join 1 _ _ (by omega) (by omega)]
  congr 1; omega

theorem Seg.setOther1 {w : World} {ao : Option Addr} {X n g o : Nat} {u : Value} (h : Seg w ao X n) (hne : ∀ o, ao ≠ some ⟨g, o, none⟩) : Seg (w.setCell ⟨g, o, none⟩ u) ao X n :=
  h.wr ((Wr.refl g 0 (o + 1) w).setCell o (by omega) (by omega) u) hne
theorem Seg.setOther2 {w : World} {b off X n g o : Nat} {u : Value} (h : Seg w (some ⟨b, off, none⟩) X n) (hne : b ≠ g) : Seg (w.setCell ⟨g, o, none⟩ u) (some ⟨b, off, none⟩) X n :=
  h.setOther1 (fun o' e => by simp only [Option.some.injEq, Addr.mk.injEq] at e; exact hne e.1)
theorem half_step' (n k : Nat) : n / 2 ^ k = 2 * (n / 2 ^ (k + 1)) + bt n k := by
  unfold bt
  rw [Nat.pow_succ, ← Nat.div_div_eq_div_mul]
  have := Nat.div_add_mod (n / 2 ^ k) 2
  omega
set_option maxRecDepth 30000 in
theorem sl_end (ao : Option Addr) (n : Nat) (L : Int) (hL : L = (n : Int)) (w : World) :
    (Instr.slice 23 (.slice ao n n) (some (.int .i64 L)) none none).run Try.prog w = .ok (.slice ao 0 0) w := by
  subst hL
  rw [run_slice_l (P := Try.prog) w 23 _ n n A_under_nat .i64 _ (by omega) (by omega)]
  have es : (sizeOf (Try.prog.elem 23)).run Try.prog w = .ok 1 w := by kernel_rfl
  rw [es]
  simp only [Result.andThen, sliced, Int.toNat_natCast]
  rw [if_pos trivial, Nat.sub_self]

/-- a number's bits from k on -/
def hib (Q k : Nat) : Nat := Q / 2 ^ k * 2 ^ k
theorem hib_step (Q k : Nat) : hib Q k = hib Q (k + 1) + bt Q k * 2 ^ k := by
  unfold hib bt
  have e : Q / 2 ^ (k + 1) = Q / 2 ^ k / 2 := by rw [Nat.pow_succ, Nat.div_div_eq_div_mul]
  rw [e, Nat.pow_succ]
  have := Nat.div_add_mod (Q / 2 ^ k) 2
  generalize Q / 2 ^ k = x at *
  have e2 : x / 2 * (2 ^ k * 2) = 2 * (x / 2) * 2 ^ k := by ac_rfl
  rw [e2, ← Nat.add_mul, this]
theorem put_add {Q p t : Nat} (h : dg Q p + t < 4294967296) : put Q p 1 (dg Q p + t) = Q + t * BB ^ p := by
  unfold put
  have h1 := split_at Q (p + 1)
  have h2 := mod_succ Q p
  rw [h2] at h1
  rw [Nat.add_mul]
  omega
theorem hib_dg {Q j : Nat} : dg (hib Q (j + 1)) (j / 32) % 2 ^ (j % 32 + 1) = 0 := by
  have hs : j % 32 < 32 := Nat.mod_lt _ (by omega)
  unfold hib dg
  have e1 : (2 : Nat) ^ (j + 1) = 2 ^ (j % 32 + 1) * BB ^ (j / 32) := by
    rw [BB_two, ← Nat.pow_add]; congr 1; omega
  rw [e1, ← Nat.mul_assoc, Nat.mul_div_cancel _ (BBp _)]
  have e2 : BB = 2 ^ (j % 32 + 1) * 2 ^ (31 - j % 32) := by rw [← Nat.pow_add, BB_eq, show j % 32 + 1 + (31 - j % 32) = 32 by omega]
  rw [e2, Nat.mod_mul_right_mod, Nat.mul_mod_left]
theorem hib_room {c s : Nat} (hc : c < 4294967296) (hs : s < 32) (hz : c % 2 ^ (s + 1) = 0) : c + 2 ^ s < 4294967296 := by
  have e2 : (4294967296 : Nat) = 2 ^ (s + 1) * 2 ^ (31 - s) := by rw [← Nat.pow_add, show s + 1 + (31 - s) = 32 by omega]
  have hp := Nat.two_pow_pos s
  have h1 := Nat.div_add_mod c (2 ^ (s + 1))
  rw [hz, Nat.add_zero] at h1
  have h2 : c / 2 ^ (s + 1) < 2 ^ (31 - s) := (Nat.div_lt_iff_lt_mul (Nat.two_pow_pos _)).2 (by rw [Nat.mul_comm, ← e2]; exact hc)
  have h3 : 2 ^ (s + 1) * (c / 2 ^ (s + 1) + 1) ≤ 2 ^ (s + 1) * 2 ^ (31 - s) := Nat.mul_le_mul_left _ h2
  rw [← e2, Nat.mul_add, h1, Nat.mul_one, Nat.pow_succ] at h3
  omega
theorem hib_or {c s : Nat} (hc : c < 4294967296) (hs : s < 32) (hz : c % 2 ^ (s + 1) = 0) :
    bits BinOp.or IntKind.u32 (c : Int) (2 ^ s % 4294967296) = ((c + 2 ^ s : Nat) : Int) := by
  have h1 := hib_room hc hs hz
  have h3 : (2 : Int) ^ s % 4294967296 = 2 ^ s := by
    rw [show (2 : Int) ^ s = ((2 ^ s : Nat) : Int) by simp]; omega
  rw [h3]
  have h2 : (2 : Nat) ^ s < 2 ^ (s + 1) := Nat.pow_lt_pow_right (by omega) (by omega)
  rw [show (2 : Int) ^ s = ((2 ^ s : Nat) : Int) by simp, u32_or_nat _ _ hc (by omega), nat_join (s + 1) _ _ hz h2]

/-- one digit of a quotient in base 2 -/
theorem div_bit {A Y j : Nat} (hY : 0 < Y) : tw (A / 2 ^ (j + 1) % Y) (decide (bt A j = 1)) / Y = bt (A / Y) j ∧ tw (A / 2 ^ (j + 1) % Y) (decide (bt A j = 1)) % Y = A / 2 ^ j % Y ∧ tw (A / 2 ^ (j + 1) % Y) (decide (bt A j = 1)) < 2 * Y := by
  have hb : bt A j < 2 := Nat.mod_lt _ (by omega)
  have hst := half_step' A j
  have htw : tw (A / 2 ^ (j + 1) % Y) (decide (bt A j = 1)) = 2 * (A / 2 ^ (j + 1) % Y) + bt A j := by
    unfold tw
    by_cases h : bt A j = 1
    · simp [h]
    · have : bt A j = 0 := by omega
      simp [this]
  rw [htw]
  have hdm := Nat.div_add_mod (A / 2 ^ (j + 1)) Y
  have hlt : A / 2 ^ (j + 1) % Y < Y := Nat.mod_lt _ hY
  have hq : A / Y / 2 ^ j = A / 2 ^ j / Y := by rw [Nat.div_div_eq_div_mul, Nat.div_div_eq_div_mul, Nat.mul_comm]
  have key : A / 2 ^ j = Y * (2 * (A / 2 ^ (j + 1) / Y)) + (2 * (A / 2 ^ (j + 1) % Y) + bt A j) := by
    have e : Y * (2 * (A / 2 ^ (j + 1) / Y)) = 2 * (Y * (A / 2 ^ (j + 1) / Y)) := by ac_rfl
    rw [hst, e]; omega
  have hr2 : 2 * (A / 2 ^ (j + 1) % Y) + bt A j < 2 * Y := by omega
  refine ⟨?_, ?_, hr2⟩
  · rw [show bt (A / Y) j = A / Y / 2 ^ j % 2 from rfl, hq, key, Nat.mul_add_div hY]
    generalize 2 * (A / 2 ^ (j + 1) % Y) + bt A j = r at *
    have hr : r / Y < 2 := (Nat.div_lt_iff_lt_mul hY).2 hr2
    generalize r / Y = x at *
    omega
  · rw [key, Nat.mul_add_mod]

end Go.Proofs.Ythecapmdionnmaa
