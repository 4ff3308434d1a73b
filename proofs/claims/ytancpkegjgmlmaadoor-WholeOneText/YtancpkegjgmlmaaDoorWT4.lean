/-
  Layer 1's texts: the scale of a base.
-/
import Derived.Test.YtancpkegjgmlmaaDoorWT3
import Derived.Test.YtancpkegjgmlmaaDoorWIm
namespace Go.Proofs.YtancpkegjgmlmaaDoor
open Go.RowKit
set_option linter.unusedVariables false

set_option maxHeartbeats 2000000 in
theorem scaleOf_any (b : Nat) (hb0 : 2 ≤ b) (hb : b ≤ 16) (w : World) : Calls Tryd.prog 34 #[.int .i64 b] w fun e w' => ∃ n a, e = .returned (.agg #[.int .i64 b, .int .i64 (n : Nat), .slice none 0 0, .slice a (ln (b ^ n)) (ln (b ^ n))]) ∧ New w w' a (b ^ n) (ln (b ^ n)) ∧ 1 ≤ n ∧ n ≤ 31 ∧ b ^ n < 4294967296 := by
  have HO := hide' (fun N w' (h : N < 18446744073709551616) => Of_any N w' h)
  have m0 : IntKind.u64.wrap (b : Int) = (b : Int) := wrapU (by omega)
  go_enter Tryd.func34, Tryd.ntmps34
  go_wp2_with fail
  obtain ⟨W, hW⟩ : ∃ W, (w.alloc (.cells #[.int .i64 0, .int .i64 0, .slice none 0 0, .slice none 0 0] 54)) = W := ⟨_, rfl⟩
  have r00 : W.cell? ⟨w.heap.size, 0, none⟩ = some (.int .i64 0) := by subst hW; go_simp
  have r01 : W.cell? ⟨w.heap.size, 1, none⟩ = some (.int .i64 0) := by subst hW; go_simp
  have r02 : W.cell? ⟨w.heap.size, 2, none⟩ = some (.slice none 0 0) := by subst hW; go_simp
  have r03 : W.cell? ⟨w.heap.size, 3, none⟩ = some (.slice none 0 0) := by subst hW; go_simp
  have hB : Below w.heap.size w W := by subst hW; exact ((Below.refl _ _).alloc (by (try simp only [World.size_alloc]); omega) _)
  have hR0 : Row W (w.heap.size) := by
    have := row_new (w) #[.int .i64 0, .int .i64 0, .slice none 0 0, .slice none 0 0] 54
    try simp only [World.size_alloc] at this
    subst hW; exact this
  have hz : W.heap.size = w.heap.size + 1 := by subst hW; simp only [World.size_alloc]
  rw [hW]
  clear hW
  have hBW : Below W.heap.size W W := Below.refl _ _
  go_loop [3, 4] (fun wd pw => ∃ k : Nat, 1 ≤ k ∧ wd = .int .i64 k ∧ pw = .int .u64 (b ^ k : Nat) ∧ b ^ k < 4294967296 ∧ k ≤ 31) (fun wd _ => 40 - (intOf wd).toNat)
  case atStart => exact ⟨1, Nat.le_refl _, rfl, by rw [Nat.pow_one], by rw [Nat.pow_one]; omega, by omega⟩
  case round =>
    obtain ⟨k, hk1, rfl, rfl, hlt, hk31⟩ := hrel
    obtain ⟨M, hM⟩ : ∃ M, b ^ k * b = M := ⟨_, rfl⟩
    have hM2 : M ≤ 4294967296 * 16 := by rw [← hM]; exact Nat.mul_le_mul (Nat.le_of_lt hlt) hb
    have hsucc : b ^ (k + 1) = M := by rw [Nat.pow_succ, hM]
    have hkk : M < 4294967296 → k + 1 ≤ 31 := fun h => by
      have h1 : 2 ^ (k + 1) ≤ b ^ (k + 1) := Nat.pow_le_pow_left hb0 _
      rw [hsucc] at h1
      have h2 : 2 ^ (k + 1) < 2 ^ 32 := Nat.lt_of_le_of_lt h1 h
      have := (Nat.pow_lt_pow_iff_right (a := 2) (by decide)).1 h2
      omega
    have HS := hide' hsucc
    have HK := hide' hkk
    obtain ⟨P, hP⟩ : ∃ P, b ^ k = P := ⟨_, rfl⟩
    rw [hP] at hM hlt ⊢
    have m1 : IntKind.u64.wrap ((P : Int) * (b : Int)) = (M : Int) := by rw [← Int.natCast_mul, hM]; clear hP hM HS hsucc hkk; exact wrapU (by omega)
    have HP := hide' hP
    clear hP hM hsucc hkk
    by_cases hc : M < 4294967296
    · have hx : ((M : Int) / 4294967296 == 0) = true := by rw [beq_iff_eq]; omega
      go_wp2_with fail
      exact ⟨⟨k + 1, by omega, by go_num, by rw [HS.out], by rw [HS.out]; exact hc, HK.out hc⟩, by simp [intOf]; omega⟩
    · have hx : ((M : Int) / 4294967296 == 0) = false := by rw [beq_eq_false_iff_ne]; omega
      go_wp2_with fail
      refine (HO.out P _ (by omega)).mono ?_
      rintro e w1 ⟨a1, rfl, h1⟩
      have b1 := h1.below
      replace h1 := h1.back hBW
      replace hBW := hBW.trans (b1.mono hBW.size)
      replace r00 := below_cell b1 r00
      replace r01 := below_cell b1 r01
      replace r02 := below_cell b1 r02
      replace r03 := below_cell b1 r03
      replace hR0 := below_row b1 hR0
      have fz0 := fun o => hR0.frozen o
      go_wp2
      all_goals refine bodyPost_ret (v := .agg #[.int .i64 b, .int .i64 k, .slice none 0 0, .slice a1 (ln P) (ln P)]) (by rw [results_cell rfl]; go_simp) rfl ?_
      all_goals exact ⟨k, a1, by rw [HP.out], by rw [HP.out]; exact h1.mid hB ((((((Mid.refl _ _ _).set _ _ (by omega) (by omega) _).set _ _ (by omega) (by omega) _).set _ _ (by omega) (by omega) _).set _ _ (by omega) (by omega) _)), hk1, hk31, by rw [HP.out]; exact hlt⟩
end Go.Proofs.YtancpkegjgmlmaaDoor
