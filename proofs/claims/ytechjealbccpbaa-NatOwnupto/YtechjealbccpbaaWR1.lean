/-
  Layer 1: shifts by many bits; numbers for the square root.
-/
import Derived.Test.YtechjealbccpbaaW9
import Derived.Test.YtechjealbccpbaaW5
namespace Go.Proofs.Ytechjealbccpbaa
open Go.RowKit
set_option linter.unusedVariables false

set_option maxHeartbeats 1000000 in
theorem raised_big (b1 o1 n X s : Nat) (w : World) (hn : 0 < n) (hm0 : n + s / 32 ≤ 70368744177662) (hs52 : s ≤ 4503599627370496) (hS : Seg w (some ⟨b1, o1, none⟩) X n) :
    Calls Try.prog 39 #[.slice (some ⟨b1, o1, none⟩) n n, .int .i64 s] w fun e w' => ∃ ao', e = .returned (.slice ao' (ln (X * 2 ^ s)) (ln (X * 2 ^ s))) ∧ New w w' ao' (X * 2 ^ s) (ln (X * 2 ^ s)) := by
  have hb0 : ((n : Int) == 0) = false := by rw [beq_eq_false_iff_ne]; omega
  have hb1 := hS.lt hn
  obtain ⟨q, hq⟩ : ∃ q, q = s / 32 := ⟨_, rfl⟩
  obtain ⟨r, hr⟩ : ∃ r, r = s % 32 := ⟨_, rfl⟩
  have hqi : (s : Int) / 32 = (q : Int) := by omega
  have hri : (s : Int) % 32 = (r : Int) := by omega
  have hr31 : r ≤ 31 := by omega
  have hqs : q ≤ s := by omega
  have hpow : Hid (X * 2 ^ s = 2 ^ r * X * BB ^ q) := by
    show _ = _
    have e1 : s = 32 * q + r := by omega
    rw [BB_two', e1, Nat.pow_add]; ac_rfl
  have hm : n + q ≤ 70368744177662 := by omega
  clear hq hr hm0
  have hslc := sl_lh w.heap.size 0 (q + n + 1) (q + n + 1) q n (q : Int) ((q : Int) + (n : Int)) rfl rfl (by omega) (by omega)
  rw [Nat.zero_add] at hslc
  go_enter Try.func39, Try.ntmps39
  go_wp2_with (at_make; refine mk_law _ rfl _ _ rfl _ (q + n + 1) rfl rfl (by go_num) (by omega) ?_; intro w1 hnew hrow)
  have hpart : Seg w1 (some ⟨w.heap.size, q, none⟩) 0 n := by
    have := (hnew.seg.drop q (by omega)).take n (by omega)
    rwa [Nat.zero_add, Nat.zero_div, Nat.zero_mod] at this
  have hlt1 := hrow.lt
  have h2r := two_le hr31
  have hT : 2 ^ r * X < BB ^ (n + 1) := by
    have h1 : 2 ^ r * X ≤ 2147483648 * X := Nat.mul_le_mul_right _ h2r
    have h2 := hS.1
    rw [pow_succ', BB_eq]
    rw [BB_eq] at h2
    omega
  obtain ⟨c, hc⟩ : ∃ c, c = 2 ^ r * X / BB ^ n := ⟨_, rfl⟩
  have hc32 : c < 4294967296 := by
    rw [hc, ← BB_eq]; exact (Nat.div_lt_iff_lt_mul (BBp n)).2 (by rw [Nat.mul_comm BB, ← pow_succ']; exact hT)
  have HT : Hid (2 ^ r * X < BB ^ (n + 1)) := hT
  have HC : Hid (c = 2 ^ r * X / BB ^ n) := hc
  have SU := shiftUp_any w.heap.size q n (q + n + 1 - q) 0 (some ⟨b1, o1, none⟩) n X r w1 (by omega) hr31 hrow hpart (hS.below hnew.below (Nat.le_refl _)) (fun o e => by simp only [Option.some.injEq, Addr.mk.injEq] at e; omega)
  rw [← hc] at SU
  clear hT hc h2r
  refine SU.mono ?_
  clear SU
  rintro e w2 ⟨rfl, hwr, hseg⟩
  have hcell := hnew.seg.cells (q + n) (by omega)
  rw [Nat.zero_add] at hcell
  have hck : w2.cell? ⟨w.heap.size, q + n, none⟩ = some (.int .u32 (dg 0 (q + n) : Nat)) := by rw [hwr.cell _ (by omega)]; exact hcell
  have hfz := fun o => (hwr.row hrow).frozen o
  go_wp2_with fail
  have hS2 : Seg (w2.setCell ⟨w.heap.size, q + n, none⟩ (.int .u32 (c : Nat))) (some ⟨w.heap.size, 0, none⟩) (X * 2 ^ s) (q + n + 1) := by
    have h3 := hnew.seg.splice (i := q) (n := n) (by rw [Nat.zero_add]; exact hwr) (by rw [Nat.zero_add]; exact hseg) (by omega) (by omega)
    have h4 := h3.store (i := q + n) (d := c) (by omega) hc32 (v := (c : Nat)) rfl
    rw [HC.out, put_two HT.out, ← hpow.out, Nat.zero_add] at h4
    rw [HC.out]; exact h4
  have hN : New w (w2.setCell ⟨w.heap.size, q + n, none⟩ (.int .u32 (c : Nat))) (some ⟨w.heap.size, 0, none⟩) (X * 2 ^ s) (q + n + 1) :=
    ⟨hS2, hnew.below.trans ((hwr.below (Nat.le_refl _) hnew.below.size).setCell (Nat.le_refl _) _), fun _ => ⟨_, _, rfl, Nat.le_refl _, (hwr.row hrow).setCell _ _⟩⟩
  refine (trim_any _ _ _ (X * 2 ^ s) _ (Nat.le_refl _) (by omega) hS2).mono ?_
  rintro e w4 ⟨a4, rfl, rfl, ht4⟩
  go_wp2
  go_ret
  exact ⟨_, rfl, hN.trm ht4⟩
set_option maxHeartbeats 1000000 in
theorem lowered_big (ao : Option Addr) (n X s : Nat) (w : World) (hm : n ≤ 70368744177664) (hs : s ≤ 4503599627370496) (hS : Seg w ao X n) :
    Calls Try.prog 38 #[.slice ao n n, .int .i64 s] w fun e w' => ∃ ao', e = .returned (.slice ao' (ln (X / 2 ^ s)) (ln (X / 2 ^ s))) ∧ New w w' ao' (X / 2 ^ s) (ln (X / 2 ^ s)) := by
  obtain ⟨q, hq⟩ : ∃ q, q = s / 32 := ⟨_, rfl⟩
  obtain ⟨r, hr⟩ : ∃ r, r = s % 32 := ⟨_, rfl⟩
  have hqi : (s : Int) / 32 = (q : Int) := by omega
  have hri : (s : Int) % 32 = (r : Int) := by omega
  have hr31 : r ≤ 31 := by omega
  have hqs : q ≤ s := by omega
  have hpow : X / 2 ^ s = X / BB ^ q / 2 ^ r := by
    have e1 : s = 32 * q + r := by omega
    rw [BB_two', e1, Nat.pow_add, Nat.div_div_eq_div_mul]
  clear hq hr
  by_cases hqn : n ≤ q
  · have h0 : X / 2 ^ s = 0 := by rw [hpow, div_big (Nat.lt_of_lt_of_le hS.1 (pow_mono hqn)), Nat.zero_div]
    rw [h0, ln_zero]
    clear hpow h0
    go_enter Try.func38, Try.ntmps38
    go_wp2
    go_ret
    exact ⟨none, rfl, New.nil _ (Below.refl _ _)⟩
  · obtain ⟨b1, o1, rfl, hb1, _⟩ := hS.2 (by omega)
    have hslc := sl_l b1 o1 n n q (q : Int) rfl (by omega) (by omega)
    have HP : Hid (X / 2 ^ s = X / BB ^ q / 2 ^ r) := hpow
    clear hpow
    go_enter Try.func38, Try.ntmps38
    go_wp2_with (at_make; refine mk_law _ rfl _ _ rfl _ (n - q) rfl rfl (by go_num) (by omega) ?_; intro w1 hnew hrow)
    have hlt1 := hrow.lt
    refine (shiftDown_any w.heap.size 0 (n - q) _ 0 _ _ (X / BB ^ q) r w1 (by omega) hr31 hrow hnew.seg ((hS.drop q (by omega)).below hnew.below (Nat.le_refl _)) (fun o e => by simp only [Option.some.injEq, Addr.mk.injEq] at e; omega)).mono ?_
    rintro e w2 ⟨rfl, hwr, hseg⟩
    rw [← HP.out] at hseg
    have hN : New w w2 (some ⟨w.heap.size, 0, none⟩) (X / 2 ^ s) (n - q) := ⟨hseg, hnew.below.trans (hwr.below (Nat.le_refl _) hnew.below.size), fun _ => ⟨_, _, rfl, Nat.le_refl _, hwr.row hrow⟩⟩
    go_wp2_with fail
    refine (trim_any _ _ _ (X / 2 ^ s) _ (Nat.le_refl _) (by omega) hseg).mono ?_
    rintro e w4 ⟨a4, rfl, rfl, ht4⟩
    go_wp2
    go_ret
    exact ⟨_, rfl, hN.trm ht4⟩
/-- R is X's root, down -/
def isq (X R : Nat) : Prop := R * R ≤ X ∧ X < (R + 1) * (R + 1)
theorem isq_ex (X : Nat) : ∃ R, isq X R := by
  induction X with
  | zero => exact ⟨0, by unfold isq; decide⟩
  | succ X ih =>
    obtain ⟨R, h1, h2⟩ := ih
    by_cases h : X + 1 < (R + 1) * (R + 1)
    · exact ⟨R, by omega, h⟩
    · refine ⟨R + 1, by omega, ?_⟩
      have e : (R + 1 + 1) * (R + 1 + 1) = (R + 1) * (R + 1) + (R + 1) + (R + 1) + 1 := by
        rw [Nat.add_mul (R + 1) 1, Nat.mul_add (R + 1) (R + 1) 1]; omega
      omega
theorem isq_le {X R r : Nat} (h : isq X R) (hr : r * r ≤ X) : r ≤ R := by
  rcases Nat.lt_or_ge R r with h1 | h1
  · have := Nat.mul_le_mul (show R + 1 ≤ r by omega) (show R + 1 ≤ r by omega)
    have := h.2
    omega
  · exact h1
theorem isq_uniq {X R R' : Nat} (h : isq X R) (k : isq X R') : R = R' := Nat.le_antisymm (isq_le k h.1) (isq_le h k.1)
theorem isq_above {X k H : Nat} (h : isq (X / 2 ^ (2 * k)) H) : X < (H + 1) * 2 ^ k * ((H + 1) * 2 ^ k) := by
  have h1 := h.2
  have hp := Nat.two_pow_pos (2 * k)
  have h2 : X < (H + 1) * (H + 1) * 2 ^ (2 * k) := (Nat.div_lt_iff_lt_mul hp).1 h1
  have e : (H + 1) * 2 ^ k * ((H + 1) * 2 ^ k) = (H + 1) * (H + 1) * 2 ^ (2 * k) := by
    rw [show 2 * k = k + k by omega, Nat.pow_add]; ac_rfl
  rw [e]; exact h2
theorem isq_lt {X R r : Nat} (h : isq X R) (hr : X < r * r) : R < r := by
  rcases Nat.lt_or_ge R r with h1 | h1
  · exact h1
  · have := Nat.mul_le_mul h1 h1
    have := h.1
    omega
/-- a step of Newton's does not fall below the root -/
theorem newton_ge {X R r : Nat} (h : isq X R) (hr : R ≤ r) (h0 : 0 < r) : R ≤ (r + X / r) / 2 := by
  have h1 : (2 * R - r) * r ≤ X := by
    refine Nat.le_trans ?_ h.1
    by_cases hd : r ≤ 2 * R
    · obtain ⟨d, rfl⟩ : ∃ d, r = R + d := ⟨r - R, by omega⟩
      obtain ⟨e, rfl⟩ : ∃ e, R = e + d := ⟨R - d, by omega⟩
      rw [show 2 * (e + d) - (e + d + d) = e by omega]
      have e1 : e * (e + d + d) = e * e + e * d + e * d := by rw [Nat.mul_add, Nat.mul_add]
      have e2 : (e + d) * (e + d) = e * e + e * d + (e * d + d * d) := by rw [Nat.add_mul, Nat.mul_add, Nat.mul_add, Nat.mul_comm d e]
      omega
    · rw [show 2 * R - r = 0 by omega, Nat.zero_mul]; exact Nat.zero_le _
  have h2 : 2 * R - r ≤ X / r := (Nat.le_div_iff_mul_le h0).2 h1
  omega
/-- where a step does not go down it is the root -/
theorem newton_end {X R r : Nat} (h : isq X R) (hr : R ≤ r) (h0 : 0 < r) (hn : r ≤ (r + X / r) / 2) : r = R := by
  have h1 : r ≤ X / r := by omega
  have h2 : r * r ≤ X := (Nat.le_div_iff_mul_le h0).1 h1
  have := isq_le h h2
  omega
theorem Seg.inj {w : World} {a : Option Addr} {X Y n : Nat} (h : Seg w a X n) (k : Seg w a Y n) : X = Y := by
  by_cases h0 : n = 0
  · subst h0; rw [h.zero, k.zero]
  · obtain ⟨b, off, rfl, hb, hc⟩ := h.2 (by omega)
    have kc := k.cells
    refine dg_ext h.1 k.1 fun i hi => ?_
    have h1 := hc i hi
    rw [kc i hi] at h1
    simp only [Option.some.injEq, Value.int.injEq, true_and] at h1
    omega
open Classical in
/-- the number that a slice of limbs holds -/
noncomputable def numOf (v : Value) (w : World) : Nat := if h : ∃ r a, v = .slice a (ln r) (ln r) ∧ Seg w a r (ln r) then h.choose else 0
theorem numOf_eq {w : World} {a : Option Addr} {r : Nat} (h : Seg w a r (ln r)) : numOf (.slice a (ln r) (ln r)) w = r := by
  unfold numOf
  have hx : ∃ r' a', (Value.slice a (ln r) (ln r) : Value) = .slice a' (ln r') (ln r') ∧ Seg w a' r' (ln r') := ⟨r, a, rfl, h⟩
  rw [dif_pos hx]
  have sp := hx.choose_spec
  generalize hx.choose = c at sp ⊢
  obtain ⟨a', e, k⟩ := sp
  simp only [Value.slice.injEq] at e
  obtain ⟨rfl, e1, _⟩ := e
  rw [← e1] at k
  exact k.inj h
end Go.Proofs.Ytechjealbccpbaa
