/-
  The number that a float is: the program's higher, finite, number, Exact.
-/
import Derived.Test.YthecapmdionnmaaWF0
import Derived.Test.YthecapmdionnmaaW9
import Derived.Test.YthecapmdionnmaaWQN
namespace Go.Proofs.Ythecapmdionnmaa
open Go.RowKit
set_option linter.unusedVariables false

set_option maxHeartbeats 1000000 in
set_option maxRecDepth 30000 in
theorem higher_is (ao : Option Addr) (n cap X : Nat) (x : Int) (Z : Nat) (w : World) (hc : n ≤ cap) (hm : n ≤ 35184372088832) (h1 : -1048576 ≤ x) (h2 : x ≤ 1048576) (hS : Seg w ao X n) (hz : X * 2 ^ x.toNat = Z) :
    Calls Try.prog 31 #[.slice ao n cap, .int .i64 x] w fun e w' => ∃ ao', e = .returned (.slice ao' (ln Z) (ln Z)) ∧ New w w' ao' Z (ln Z) := by
  obtain ⟨s, hs⟩ : ∃ s : Nat, s = x.toNat := ⟨_, rfl⟩
  have hs2 : s ≤ 1048576 := by omega
  rw [← hs] at hz
  have HS := hide' (Shift_up ao n cap X s w hc hm hs2 hS)
  rw [hz] at HS
  have hmx : max x 0 = (s : Int) := by omega
  clear hS hz hs h1 h2 hs2
  go_enter Try.func31, Try.ntmps31
  go_wp2_with fail
  refine HS.out.mono ?_
  rintro e w' ⟨a1, rfl, hn⟩
  go_wp2
  go_ret
  exact ⟨_, rfl, hn⟩

theorem shift_bal {m e z k : Nat} (hm : m * 2 ^ e = amt k) : m * 2 ^ (e - z) * 2 ^ z = amt k * 2 ^ (z - e) := by
  rw [← hm, Nat.mul_assoc, Nat.mul_assoc, ← Nat.pow_add, ← Nat.pow_add, show e - z + z = e + (z - e) by omega]
/-- what a float is, counted by the least one above 0 -/
def fv (b : Nat) : Int := sg (fneg b) (amt (b % SB))
theorem sg_muln (s : Bool) (a c : Nat) : sg s a * (c : Int) = sg s (a * c) := by
  unfold sg; cases s <;> simp [Int.neg_mul]
theorem fv_side {b : Nat} (hb : b < 18446744073709551616) : sg (decide (SB < b)) (amt (b % SB)) = fv b := by
  unfold fv
  rw [fneg_iff hb]
  by_cases h : b = SB
  · subst h
    rw [Nat.mod_self, amt_zero]; rfl
  · rw [show decide (SB < b) = decide (SB ≤ b) by rw [decide_eq_decide]; omega]
theorem fv_cross {z T b : Nat} (hT : T = 2 ^ z) (hb : b < 18446744073709551616) : sg (decide (SB < b)) (fm (b % SB) * 2 ^ (fe (b % SB) - z)) * (T : Int) = fv b * ((2 ^ (z - fe (b % SB)) : Nat) : Int) := by
  rw [← fv_side hb, hT, sg_muln, sg_muln, shift_bal (fm_fe _)]
theorem ln_up {m s : Nat} (h : m < 18446744073709551616) : ln (m * 2 ^ s) ≤ s + 2 := by
  refine ln_le_of_lt ?_
  rw [Nat.pow_add, Nat.mul_comm m]
  refine Nat.lt_of_lt_of_le (Nat.mul_lt_mul_of_pos_left (by rw [BB2]; exact h) (Nat.two_pow_pos s)) (Nat.mul_le_mul_right _ (Nat.pow_le_pow_left (by rw [BB_eq]; omega) s))

set_option maxHeartbeats 4000000 in
set_option maxRecDepth 100000 in
theorem number_is (z T b : Nat) (Z : Int) (V : Nat) (w : World) (hz : z = 1074) (hT : T = 2 ^ z) (hb : b < 18446744073709551616) (hf : b % SB < FI) (hL : Low (fv b) (T : Int) Z V) :
    Calls Try.prog 23 #[.float .f64 b] w fun e w' => ∃ p q, e = .returned (.agg #[.bool (ng Z), .slice p (ln (am Z)) (ln (am Z)), .slice q (ln V) (ln V)]) ∧ New w w' p (am Z) (ln (am Z)) ∧ New w w' q V (ln V) := by
  have HA := hide' (fun w' => apart_any b w' hb)
  have h0 : (FloatKind.f64.format.order b 0 == some .lt) = decide (SB < b) := f_below hb (by omega)
  obtain ⟨s, hs⟩ : ∃ s, s = decide (SB < b) := ⟨_, rfl⟩
  have hcr := fv_cross hT hb
  have hml := fm_lt (b % SB)
  have hel := fe_lt hf
  rw [← hs] at h0 hcr
  clear hs hf
  generalize fm (b % SB) = m at HA hcr hml
  generalize fe (b % SB) = e at HA hcr hel
  obtain ⟨x, hx⟩ : ∃ x : Int, x = (e : Int) - 1074 := ⟨_, rfl⟩
  rw [← hx] at HA
  have x1 : x.toNat = e - z := by omega
  have x2 : (-x).toNat = z - e := by omega
  have x3 : -1074 ≤ x := by omega
  have x4 : x ≤ 971 := by omega
  obtain ⟨P, hP⟩ : ∃ P, m * 2 ^ (e - z) = P := ⟨_, rfl⟩
  obtain ⟨Q, hQ⟩ : ∃ Q, 1 * 2 ^ (z - e) = Q := ⟨_, rfl⟩
  have lP : ln P ≤ 3000 := by rw [← hP]; have := ln_up (m := m) (s := e - z) (by omega); omega
  have lQ : ln Q ≤ 3000 := by rw [← hQ]; have := ln_up (m := 1) (s := z - e) (by omega); omega
  have hQ0 : Q ≠ 0 := by rw [← hQ]; have := Nat.two_pow_pos (z - e); omega
  have H1 := hide' (fun w' a n c h h' k => higher_is a n c m x P w' h h' (by omega) (by omega) k (by rw [x1]; exact hP))
  have H2 := hide' (fun w' a n c h h' k => higher_is a n c 1 (-x) Q w' h h' (by omega) (by omega) k (by rw [x2]; exact hQ))
  have hLL : Low (rn s P Q) ((rd Q : Nat) : Int) Z V := by
    rw [rn_of hQ0, rd_of hQ0]
    refine hL.congr (by omega) ?_
    rw [hP] at hcr
    rw [Nat.one_mul] at hQ
    rw [hQ] at hcr
    exact hcr.symm
  have H3 := hide' (fun w' p q k1 k2 => qNorm_is s p (ln P) (ln P) P q (ln Q) (ln Q) Q Z V w' (Nat.le_refl _) (by omega) k1 (Nat.le_refl _) (by omega) k2 hLL)
  have lm : ln m ≤ 2 := ln_le_of_lt (by rw [BB2]; omega)
  have l1 : ln 1 ≤ 2 := ln_le_of_lt (by rw [BB2]; omega)
  have O1 := hide' (fun w' => Of_any m w' (by omega))
  have O2 := hide' (fun w' => Of_any 1 w' (by omega))
  clear hcr hL hLL hP hQ x1 x2 hx hel hT hz hml
  go_enter Try.func23, Try.ntmps23
  go_wp2_with fail
  obtain ⟨W, hW⟩ : ∃ W, (w.alloc (.cells #[.bool false, .slice none 0 0, .slice none 0 0] 27)) = W := ⟨_, rfl⟩
  have r00 : W.cell? ⟨w.heap.size, 0, none⟩ = some (.bool false) := by subst hW; go_simp
  have r01 : W.cell? ⟨w.heap.size, 1, none⟩ = some (.slice none 0 0) := by subst hW; go_simp
  have r02 : W.cell? ⟨w.heap.size, 2, none⟩ = some (.slice none 0 0) := by subst hW; go_simp
  have hB : Below w.heap.size w W := by subst hW; exact ((Below.refl _ _).alloc (by (try simp only [World.size_alloc]); omega) _)
  have hR0 : Row W (w.heap.size) := by
    have := row_new (w) #[.bool false, .slice none 0 0, .slice none 0 0] 27
    try simp only [World.size_alloc] at this
    subst hW; exact this
  have hz : W.heap.size = w.heap.size + 1 := by subst hW; simp only [World.size_alloc]
  rw [hW]
  clear hW
  have hBW : Below W.heap.size W W := Below.refl _ _
  refine (HA.out _).mono ?_
  rintro e w1 ⟨rfl, rfl⟩
  go_wp2_with fail
  refine (O1.out _).mono ?_
  rintro e w1 ⟨a1, rfl, h1⟩
  have b1 := h1.below
  replace h1 := h1.back hBW
  replace hBW := hBW.trans (b1.mono hBW.size)
  replace r00 := below_cell b1 r00
  replace r01 := below_cell b1 r01
  replace r02 := below_cell b1 r02
  replace hR0 := below_row b1 hR0
  go_wp2_with fail
  refine (H1.out _ _ _ _ (Nat.le_refl _) (by omega) h1.seg).mono ?_
  rintro e w2 ⟨a2, rfl, h2⟩
  have b2 := h2.below
  replace h2 := h2.back hBW
  replace hBW := hBW.trans (b2.mono hBW.size)
  replace r00 := below_cell b2 r00
  replace r01 := below_cell b2 r01
  replace r02 := below_cell b2 r02
  replace hR0 := below_row b2 hR0
  replace h1 := h1.later b2
  go_wp2_with fail
  refine (O2.out _).mono ?_
  rintro e w3 ⟨a3, rfl, h3⟩
  have b3 := h3.below
  replace h3 := h3.back hBW
  replace hBW := hBW.trans (b3.mono hBW.size)
  replace r00 := below_cell b3 r00
  replace r01 := below_cell b3 r01
  replace r02 := below_cell b3 r02
  replace hR0 := below_row b3 hR0
  replace h1 := h1.later b3
  replace h2 := h2.later b3
  go_wp2_with fail
  refine (H2.out _ _ _ _ (Nat.le_refl _) (by omega) h3.seg).mono ?_
  rintro e w4 ⟨a4, rfl, h4⟩
  have b4 := h4.below
  replace h4 := h4.back hBW
  replace hBW := hBW.trans (b4.mono hBW.size)
  replace r00 := below_cell b4 r00
  replace r01 := below_cell b4 r01
  replace r02 := below_cell b4 r02
  replace hR0 := below_row b4 hR0
  replace h1 := h1.later b4
  replace h2 := h2.later b4
  replace h3 := h3.later b4
  go_wp2_with fail
  refine (H3.out _ _ _ h2.seg h4.seg).mono ?_
  rintro e w5 ⟨p5, q5, rfl, hp5, hq5⟩
  have b5 := hp5.below
  replace hp5 := hp5.back hBW
  replace hq5 := hq5.back hBW
  replace hBW := hBW.trans (b5.mono hBW.size)
  replace r00 := below_cell b5 r00
  replace r01 := below_cell b5 r01
  replace r02 := below_cell b5 r02
  replace hR0 := below_row b5 hR0
  replace h1 := h1.later b5
  replace h2 := h2.later b5
  replace h3 := h3.later b5
  replace h4 := h4.later b5
  have fz0 := fun o => hR0.frozen o
  go_wp2
  all_goals refine bodyPost_ret (v := Value.agg #[Value.bool (ng Z), Value.slice p5 (ln (am Z)) (ln (am Z)), Value.slice q5 (ln V) (ln V)]) (by rw [results_cell rfl]; go_simp) rfl ?_
  all_goals exact ⟨p5, q5, rfl, hp5.mid hB (((((Mid.refl _ _ _).set _ _ (by omega) (by omega) _).set _ _ (by omega) (by omega) _).set _ _ (by omega) (by omega) _)), hq5.mid hB (((((Mid.refl _ _ _).set _ _ (by omega) (by omega) _).set _ _ (by omega) (by omega) _).set _ _ (by omega) (by omega) _))⟩
end Go.Proofs.Ythecapmdionnmaa
