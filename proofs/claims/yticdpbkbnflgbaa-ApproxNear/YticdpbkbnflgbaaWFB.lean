/-
  The reference's three roundings as floats.
-/
import Derived.Test.YticdpbkbnflgbaaWF8
namespace Go.Proofs.Yticdpbkbnflgbaa
open Go.RowKit
set_option linter.unusedVariables false

theorem cmpI_mul {a b c : Nat} (h : 0 < c) : cmpI (a * c) (b * c) = cmpI a b := by
  rcases Nat.lt_trichotomy a b with g | g | g
  · rw [cmpI_lt g, cmpI_lt (Nat.mul_lt_mul_of_pos_right g h)]
  · rw [cmpI_eq g, cmpI_eq (by rw [g])]
  · rw [cmpI_gt g, cmpI_gt (Nat.mul_lt_mul_of_pos_right g h)]
theorem cmpI_rng (a b : Nat) : -1 ≤ cmpI a b ∧ cmpI a b ≤ 1 := by
  unfold cmpI; split
  · omega
  · split <;> omega
theorem cmpI_ge {a b : Nat} : 0 ≤ cmpI a b ↔ b ≤ a := by
  unfold cmpI; split
  · omega
  · split <;> omega
/-- the middle of a float and the next one -/
def mid2 (k : Nat) : Nat := fm k + fm (k + 1) * 2 ^ (fe (k + 1) - fe k)
theorem fe_next (k : Nat) : fe (k + 1) = fe k ∨ fe (k + 1) = fe k + 1 := by
  unfold fe
  have e : LD = 4503599627370496 := rfl
  rw [e]
  split <;> split <;> omega
theorem mid2_eq (k : Nat) : mid2 k * 2 ^ fe k = amt k + amt (k + 1) := by
  unfold mid2
  rw [Nat.add_mul, fm_fe, Nat.mul_assoc, ← Nat.pow_add]
  rcases fe_next k with h | h
  · rw [h, Nat.sub_self, Nat.zero_add, ← h, fm_fe]
  · rw [show fe (k + 1) - fe k + fe k = fe (k + 1) by omega, fm_fe]
theorem mid2_lt (k : Nat) : mid2 k < 27021597764222976 := by
  unfold mid2
  have h1 := fm_lt k
  have h2 := fm_lt (k + 1)
  rcases fe_next k with h | h
  · rw [h, Nat.sub_self, Nat.pow_zero, Nat.mul_one]; omega
  · rw [h, Nat.add_sub_cancel_left, Nat.pow_one]; omega
theorem mid2_pos (k : Nat) : mid2 k ≠ 0 := by
  intro h
  have := mid2_eq k
  rw [h, Nat.zero_mul] at this
  have h2 := amt_lt (show 0 < k + 1 by omega)
  rw [amt_zero] at h2
  omega
theorem two_T {z T X : Nat} (hT : T = 2 ^ z) : 2 * (X * T) = X * 2 ^ (z + 1) := by rw [hT, Nat.pow_succ]; grind
theorem mid_neg {z T X Y k y : Nat} (hT : T = 2 ^ z) (h : y + fe k = z + 1) : cmpI (X * 2 ^ y) (mid2 k * Y) = cmpI (2 * (X * T)) ((amt k + amt (k + 1)) * Y) := by
  rw [← cmpI_mul (c := 2 ^ fe k) (Nat.two_pow_pos _), Nat.mul_assoc X, ← Nat.pow_add, h, two_T hT, ← mid2_eq]
  congr 1
  grind
theorem mid_pos {z T X Y k y : Nat} (hT : T = 2 ^ z) (h : fe k = z + 1 + y) : cmpI X (mid2 k * Y * 2 ^ y) = cmpI (2 * (X * T)) ((amt k + amt (k + 1)) * Y) := by
  rw [← cmpI_mul (c := 2 ^ (z + 1)) (Nat.two_pow_pos _), two_T hT, ← mid2_eq, h]
  congr 1
  rw [Nat.pow_add 2 (z + 1) y]
  grind
theorem last_mid {z : Nat} (hz : z = 2045) : amt (FI - 1) + amt (FI - 1 + 1) = 18014398509481983 * 2 ^ z := by
  have h1 := @amt_at z (2 * LD - 1) (Or.inr (by decide)) (by decide)
  have h2 := @amt_next z (2 * LD - 1) (Or.inr (by decide)) (by decide)
  have e : z * LD + (2 * LD - 1) = FI - 1 := by subst hz; decide
  rw [e] at h1 h2
  rw [h1, h2, ← Nat.add_mul]
  rfl
/-- what rounds beyond the greatest -/
theorem over_iff {z T X Y y : Nat} (hz : z = 1074) (hT : T = 2 ^ z) (hy : y = 970) : 18014398509481983 * Y * 2 ^ y ≤ X ↔ (amt (FI - 1) + amt (FI - 1 + 1)) * Y ≤ 2 * (X * T) := by
  obtain ⟨q, hq⟩ : ∃ q : Nat, q = 2045 := ⟨_, rfl⟩
  rw [last_mid hq, two_T hT, show q = y + (z + 1) by omega, Nat.pow_add 2 y (z + 1)]
  have hp := Nat.two_pow_pos (z + 1)
  generalize 2 ^ (z + 1) = c at hp
  generalize 2 ^ y = d
  rw [show 18014398509481983 * (d * c) * Y = 18014398509481983 * Y * d * c by grind]
  exact ⟨fun h => Nat.mul_le_mul_right _ h, fun h => Nat.le_of_mul_le_mul_right h hp⟩
theorem over_cut {T X Y : Nat} (hY : 0 < Y) (h : (amt (FI - 1) + amt (FI - 1 + 1)) * Y ≤ 2 * (X * T)) : Cut T X Y (FI - 1) ∧ nup T X Y (FI - 1) = true := by
  have hl : amt (FI - 1) < amt (FI - 1 + 1) := amt_lt (by omega)
  have hl2 := Nat.mul_lt_mul_of_pos_right hl hY
  rw [Nat.add_mul] at h
  refine ⟨⟨by decide, by omega, Or.inl (by decide)⟩, ?_⟩
  unfold nup
  rw [decide_eq_true_iff]
  unfold rst
  rw [if_neg (by omega)]
  rw [← Nat.add_mul] at h
  rcases Nat.lt_or_eq_of_le h with g | g
  · rw [cmpI_gt g]; exact Or.inl rfl
  · rw [cmpI_eq g.symm]; exact Or.inr ⟨rfl, by decide⟩
theorem over_not {T X Y : Nat} (h : ¬ (amt (FI - 1) + amt (FI - 1 + 1)) * Y ≤ 2 * (X * T)) : nup T X Y (FI - 1) = false := by
  unfold nup
  rw [decide_eq_false_iff_not]
  unfold rst
  split
  · omega
  · rw [cmpI_lt (by omega)]; omega
theorem nup_is {T N D k : Nat} (h : N * T = amt k * D) : nup T N D k = false := by
  unfold nup
  rw [rst_zero.2 h]; simp

end Go.Proofs.Yticdpbkbnflgbaa

namespace Go.Proofs.Yticdpbkbnflgbaa
open Go.RowKit
set_option linter.unusedVariables false

theorem nearB_nought {T : Nat} {s : Bool} {X Y : Nat} (h : Y = 0) : nearB T s X Y 0 = 0 := by
  have h1 := rn_nought (s := s) (X := X) (Y := Y) (Or.inr h)
  have h2 := rN_nought (X := X) (Y := Y) (Or.inr h)
  unfold nearB nup
  rw [h1, h2, rst_nought]; rfl
theorem nup_no {T X Y k : Nat} (h : X * T = amt k * Y ∨ k = FI - 1) (hno : nup T X Y (FI - 1) = false) : nup T X Y k = false := by
  rcases h with h | h
  · exact nup_is h
  · rw [h]; exact hno
theorem cut_ne {T X Y k : Nat} (h : Cut T X Y k) (hn : ¬ X * T = amt k * Y) : X ≠ 0 := by
  rintro rfl
  have := h.2.1
  rw [Nat.zero_mul] at this hn
  omega
theorem parts_b (k : Nat) (w : World) (hk : k < 9223372036854775808) :
    Calls Try.prog 92 #[.int .u64 (k : Int)] w fun e w' => e = .returned (.tuple #[.int .u64 (fm k : Nat), .int .i64 ((fe k : Nat) - 1074 : Int)]) ∧ w = w' := parts_any k w hk

end Go.Proofs.Yticdpbkbnflgbaa

namespace Go.Proofs.Yticdpbkbnflgbaa
open Go.RowKit
set_option linter.unusedVariables false

set_option maxHeartbeats 4000000 in
set_option maxRecDepth 100000 in
theorem vdown_is (s0 : Bool) (a0 : Option Addr) (n0 c0 X0 : Nat) (b0 : Option Addr) (m0 d0 Y0 : Nat) (z T : Nat) (w : World) (hc0 : n0 ≤ c0) (hm0 : n0 ≤ 35184372087808) (hS0 : Seg w a0 X0 n0) (hd0 : m0 ≤ d0) (hk0 : m0 ≤ 35184372087808) (hT0 : Seg w b0 Y0 m0) (hz : z = 1074) (hT : T = 2 ^ z) :
    Calls Try.prog 28 #[Value.agg #[Value.bool s0, Value.slice a0 n0 c0, Value.slice b0 m0 d0]] w fun e w' => ∃ k, e = .returned (.float .f64 (downB T s0 X0 Y0 k)) ∧ Cut T (rN X0 Y0) (rd Y0) k ∧ Below w.heap.size w w' := by
  have HC := hide' (fun w' k1 k2 => vdownB_is s0 a0 n0 c0 X0 b0 m0 d0 Y0 z T w' hc0 hm0 k1 hd0 hk0 k2 hz hT)
  have hfr := from_run
  clear hz hT
  go_enter Try.func28, Try.ntmps28
  go_wp2_with fail
  obtain ⟨W, hW⟩ : ∃ W, (w.alloc (.cells #[.bool s0, .slice a0 n0 c0, .slice b0 m0 d0] 27)) = W := ⟨_, rfl⟩
  have q00 : W.cell? ⟨w.heap.size, 0, none⟩ = some (.bool s0) := by subst hW; go_simp
  have q01 : W.cell? ⟨w.heap.size, 1, none⟩ = some (.slice a0 n0 c0) := by subst hW; go_simp
  have q02 : W.cell? ⟨w.heap.size, 2, none⟩ = some (.slice b0 m0 d0) := by subst hW; go_simp
  have hB : Below w.heap.size w W := by subst hW; exact ((Below.refl _ _).alloc (by (try simp only [World.size_alloc]); omega) _)
  have hz : W.heap.size = w.heap.size + 1 := by subst hW; simp only [World.size_alloc]
  rw [hW]
  clear hW
  have hBW : Below W.heap.size W W := Below.refl _ _
  go_wp2_with fail
  refine (HC.out _ (sb hS0 hB hBW) (sb hT0 hB hBW)).mono ?_
  rintro e w1 ⟨k, rfl, hCut, bb1⟩
  have b1 := bb1
  replace hBW := hBW.trans (b1.mono hBW.size)
  replace q00 := below_cell b1 q00
  replace q01 := below_cell b1 q01
  replace q02 := below_cell b1 q02
  have HK := hide' hCut
  clear hCut
  have HA : Hid (∃ j, Ending.returned (.float .f64 (downB T s0 X0 Y0 k)) = .returned (.float .f64 (downB T s0 X0 Y0 j)) ∧ Cut T (rN X0 Y0) (rd Y0) j) := ⟨k, rfl, HK.out⟩
  generalize downB T s0 X0 Y0 k = G at HA ⊢
  go_wp2
  go_ret
  obtain ⟨k9, hk9, hc9⟩ := HA.out
  exact ⟨k9, hk9, hc9, hB.trans (hBW.mono hB.size)⟩
set_option maxHeartbeats 4000000 in
set_option maxRecDepth 100000 in
theorem vup_is (s0 : Bool) (a0 : Option Addr) (n0 c0 X0 : Nat) (b0 : Option Addr) (m0 d0 Y0 : Nat) (z T : Nat) (w : World) (hc0 : n0 ≤ c0) (hm0 : n0 ≤ 35184372087808) (hS0 : Seg w a0 X0 n0) (hd0 : m0 ≤ d0) (hk0 : m0 ≤ 35184372087808) (hT0 : Seg w b0 Y0 m0) (hz : z = 1074) (hT : T = 2 ^ z) :
    Calls Try.prog 15 #[Value.agg #[Value.bool s0, Value.slice a0 n0 c0, Value.slice b0 m0 d0]] w fun e w' => ∃ k, e = .returned (.float .f64 (upB T s0 X0 Y0 k)) ∧ Cut T (rN X0 Y0) (rd Y0) k ∧ Below w.heap.size w w' := by
  have HC := hide' (fun w' k1 k2 => vupB_is s0 a0 n0 c0 X0 b0 m0 d0 Y0 z T w' hc0 hm0 k1 hd0 hk0 k2 hz hT)
  have hfr := from_run
  clear hz hT
  go_enter Try.func15, Try.ntmps15
  go_wp2_with fail
  obtain ⟨W, hW⟩ : ∃ W, (w.alloc (.cells #[.bool s0, .slice a0 n0 c0, .slice b0 m0 d0] 27)) = W := ⟨_, rfl⟩
  have q00 : W.cell? ⟨w.heap.size, 0, none⟩ = some (.bool s0) := by subst hW; go_simp
  have q01 : W.cell? ⟨w.heap.size, 1, none⟩ = some (.slice a0 n0 c0) := by subst hW; go_simp
  have q02 : W.cell? ⟨w.heap.size, 2, none⟩ = some (.slice b0 m0 d0) := by subst hW; go_simp
  have hB : Below w.heap.size w W := by subst hW; exact ((Below.refl _ _).alloc (by (try simp only [World.size_alloc]); omega) _)
  have hz : W.heap.size = w.heap.size + 1 := by subst hW; simp only [World.size_alloc]
  rw [hW]
  clear hW
  have hBW : Below W.heap.size W W := Below.refl _ _
  go_wp2_with fail
  refine (HC.out _ (sb hS0 hB hBW) (sb hT0 hB hBW)).mono ?_
  rintro e w1 ⟨k, rfl, hCut, bb1⟩
  have b1 := bb1
  replace hBW := hBW.trans (b1.mono hBW.size)
  replace q00 := below_cell b1 q00
  replace q01 := below_cell b1 q01
  replace q02 := below_cell b1 q02
  have HK := hide' hCut
  clear hCut
  have HA : Hid (∃ j, Ending.returned (.float .f64 (upB T s0 X0 Y0 k)) = .returned (.float .f64 (upB T s0 X0 Y0 j)) ∧ Cut T (rN X0 Y0) (rd Y0) j) := ⟨k, rfl, HK.out⟩
  generalize upB T s0 X0 Y0 k = G at HA ⊢
  go_wp2
  go_ret
  obtain ⟨k9, hk9, hc9⟩ := HA.out
  exact ⟨k9, hk9, hc9, hB.trans (hBW.mono hB.size)⟩
end Go.Proofs.Yticdpbkbnflgbaa
