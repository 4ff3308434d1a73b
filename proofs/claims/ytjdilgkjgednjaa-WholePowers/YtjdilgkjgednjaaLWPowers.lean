/-
  WholePowers: powers and roots.
-/
import Derived.Test.YtjdilgkjgednjaaWP1
import Derived.Test.YtjdilgkjgednjaaWP2
import Derived.Test.YtjdilgkjgednjaaWR3
import Derived.Test.YtjdilgkjgednjaaOpenI
namespace Go.Proofs.Ytjdilgkjgednjaa.wholePowers
open Go.ChangeShapes Go.WideShapes Go.ChangeAt Go.RowKit Go.Proofs.Ytjdilgkjgednjaa
set_option linter.unusedVariables false

theorem same_none (w : World) : Calls Try.prog 9 #[.agg #[.bool false, .slice none 0 0], .agg #[.bool false, .slice none 0 0]] w fun e w' => e = .returned (.bool true) ∧ Below w.heap.size w w' := by
  have z : Seg w none 0 0 := ⟨by simp, fun h => absurd h (by omega)⟩
  have h := sameI_is 0 none none 0 0 w
  rw [show am 0 = 0 from rfl, ln_zero] at h
  exact h (by omega) z z
set_option maxHeartbeats 1000000 in
theorem great_neg (L : Nat) (z : Int) (hz : z ≤ 0) (w : World) : Calls Try.prog 12 #[.int .i64 (L : Int), .int .i64 z] w fun e w' => e = .returned (.bool false) ∧ w' = w := by
  have h1 : ¬ ((0 : Int) < z) := by omega
  have h3 : decide ((0 : Int) < z) = false := by rw [decide_eq_false_iff_not]; omega
  by_cases h0 : L = 0
  · have h2 : ¬ ((0 : Int) < (L : Int)) := by omega
    have h4 : decide ((0 : Int) < (L : Int)) = false := by rw [decide_eq_false_iff_not]; omega
    go_enter Try.func12, Try.ntmps12
    go_wp2
    go_ret
    exact ⟨rfl, rfl⟩
  · have h2 : ((0 : Int) < (L : Int)) := by omega
    go_enter Try.func12, Try.ntmps12
    go_wp2
    go_ret
    exact ⟨rfl, rfl⟩
set_option maxHeartbeats 1000000 in
theorem great_nil (k : Nat) (w : World) : Calls Try.prog 12 #[.int .i64 ((0 : Nat) : Int), .int .i64 (k : Int)] w fun e w' => e = .returned (.bool false) ∧ w' = w := by
  go_enter Try.func12, Try.ntmps12
  go_wp2
  go_ret
  exact ⟨rfl, rfl⟩
set_option maxHeartbeats 1000000 in
theorem great_pos (L k q : Nat) (h0 : 0 < L) (hk : 0 < k) (hq : 536870912 / k = q) (w : World) : Calls Try.prog 12 #[.int .i64 (L : Int), .int .i64 (k : Int)] w fun e w' => e = .returned (.bool (decide (q < L))) ∧ w' = w := by
  have h1 : ((0 : Int) < (k : Int)) := by omega
  have h2 : ((0 : Int) < (L : Int)) := by omega
  have h3 : ((k : Int) == 0) = false := by rw [beq_eq_false_iff_ne]; omega
  have h4 : (536870912 : Int) / (k : Int) = (q : Int) := by rw [← hq]; exact (Int.natCast_ediv 536870912 k).symm
  have h5 : Int.tdiv (536870912 : Int) (k : Int) = (q : Int) := by rw [Int.tdiv_eq_ediv_of_nonneg (by omega)]; exact h4
  have h7 : ¬ ((k : Int) = 0) := by omega
  have hq2 : q ≤ 536870912 := by rw [← hq]; exact Nat.div_le_self _ _
  have h8 : IntKind.i64.wrap (q : Int) = (q : Int) := by rw [IntKind.wrap_i64]; omega
  have h6 : decide ((q : Int) < (L : Int)) = decide (q < L) := decide_eq_decide.2 (by omega)
  clear hq
  go_enter Try.func12, Try.ntmps12
  go_wp2
  go_ret
  exact ⟨by first | rfl | simp [h6], rfl⟩
/-- is it beyond the bound? -/
def big (L k : Nat) : Bool := decide (0 < L) && decide (0 < k) && decide (536870912 / k < L)
theorem great_is (L k : Nat) (w : World) : Calls Try.prog 12 #[.int .i64 (L : Int), .int .i64 (k : Int)] w fun e w' => e = .returned (.bool (big L k)) ∧ w' = w := by
  unfold big
  by_cases h0 : L = 0
  · subst h0; exact great_nil k w
  · rw [decide_eq_true (show 0 < L by omega), Bool.true_and]
    by_cases hk : k = 0
    · subst hk; exact great_neg L 0 (by omega) w
    · rw [decide_eq_true (show 0 < k by omega), Bool.true_and]
      exact great_pos L k _ (by omega) (by omega) rfl w
theorem big_no {L k : Nat} (h : big L k = false) : L * k ≤ 536870912 := by
  unfold big at h
  by_cases h0 : L = 0
  · subst h0; omega
  · by_cases hk : k = 0
    · subst hk; omega
    · rw [decide_eq_true (show 0 < L by omega), decide_eq_true (show 0 < k by omega), Bool.true_and, Bool.true_and, decide_eq_false_iff_not] at h
      have h1 : L ≤ 536870912 / k := by omega
      exact (Nat.le_div_iff_mul_le (by omega)).1 h1
set_option maxHeartbeats 8000000 in
set_option maxRecDepth 100000 in
theorem neg_great (s0 : Bool) (a0 : Option Addr) (len0 cap0 X0 : Nat) (C : Int) (hC : sgn (sg s0 X0) = C) (h0 : C < 0) (k : Nat) (hk : k ≤ 4096) (hg : big len0 k = true) (w : World) (hS0 : Seg w a0 X0 len0) (hc0 : len0 ≤ cap0) (hb0 : len0 ≤ 35184372087808) : Calls Try.prog 4 #[.agg #[.bool s0, .slice a0 len0 cap0], .int .i64 (k : Int)] w fun e w' => e = .returned (.bool true) ∧ Below w.heap.size w w' := by
  have P0 := hide' (fun w' h => wRoot_neg s0 a0 len0 cap0 X0 w' hc0 hb0 h C hC h0)
  have P1 := hide' (fun w' h => vRoot_neg s0 a0 len0 cap0 X0 w' hc0 hb0 h C hC h0)
  have G1' := fun w' => great_is len0 k w'
  rw [hg] at G1'
  have G1 := hide' G1'
  have k1 : (k : Int) ≤ 4096 := by omega
  clear G1'
  clear hC hg
  go_enter Try.func4, Try.ntmps4
  go_wp2_with fail
  obtain ⟨W, hW⟩ : ∃ W, (w.alloc (.cells #[.bool s0, .slice a0 len0 cap0] 25)) = W := ⟨_, rfl⟩
  have q00 : W.cell? ⟨w.heap.size, 0, none⟩ = some (.bool s0) := by subst hW; go_simp
  have q01 : W.cell? ⟨w.heap.size, 1, none⟩ = some (.slice a0 len0 cap0) := by subst hW; go_simp
  have hB : Below w.heap.size w W := by subst hW; exact ((Below.refl _ _).alloc (by (try simp only [World.size_alloc]); omega) _)
  have hz : W.heap.size = w.heap.size + 1 := by subst hW; simp only [World.size_alloc]
  rw [hW]
  clear hW
  have hBW : Below W.heap.size W W := Below.refl _ _
  refine (P0.out _ (sb hS0 hB hBW)).mono ?_
  rintro e w41 ⟨rfl, b41⟩
  replace hBW := hBW.trans (b41.mono hBW.size)
  replace q00 := below_cell b41 q00
  replace q01 := below_cell b41 q01
  have hsz41 := hBW.size
  have l4100 : ((w41.alloc (.cells #[.bool false, .slice none 0 0] 25))).cell? ⟨w41.heap.size, 0, none⟩ = some (.bool false) := by go_simp
  have l4101 : ((w41.alloc (.cells #[.bool false, .slice none 0 0] 25))).cell? ⟨w41.heap.size, 1, none⟩ = some (.slice none 0 0) := by go_simp
  have cb41 : Below w41.heap.size w41 ((w41.alloc (.cells #[.bool false, .slice none 0 0] 25))) := ((Below.refl _ _).alloc (by (try simp only [World.size_alloc]); omega) _)
  replace hBW := hBW.trans (cb41.mono hBW.size)
  replace q00 := below_cell cb41 q00
  replace q01 := below_cell cb41 q01
  have hL410 : Row ((w41.alloc (.cells #[.bool false, .slice none 0 0] 25))) (w41.heap.size) := by
    have := row_new (w41) #[.bool false, .slice none 0 0] 25
    try simp only [World.size_alloc] at this
    exact this
  go_wp2_with fail
  generalize (w41.alloc (.cells #[.bool false, .slice none 0 0] 25)) = w41x at q00 q01 l4100 l4101 hL410 hBW cb41 ⊢
  clear cb41
  refine (P1.out _ (sb hS0 hB hBW)).mono ?_
  rintro e w42 ⟨rfl, b42⟩
  replace hBW := hBW.trans (b42.mono hBW.size)
  replace q00 := below_cell b42 q00
  replace q01 := below_cell b42 q01
  replace l4100 := below_cell b42 l4100
  replace l4101 := below_cell b42 l4101
  replace hL410 := below_row b42 hL410
  have hsz42 := hBW.size
  have hlt42hL410 := hL410.lt
  have l4200 : ((w42.alloc (.cells #[.bool false, .slice none 0 0] 25))).cell? ⟨w42.heap.size, 0, none⟩ = some (.bool false) := by go_simp
  have l4201 : ((w42.alloc (.cells #[.bool false, .slice none 0 0] 25))).cell? ⟨w42.heap.size, 1, none⟩ = some (.slice none 0 0) := by go_simp
  have cb42 : Below w42.heap.size w42 ((w42.alloc (.cells #[.bool false, .slice none 0 0] 25))) := ((Below.refl _ _).alloc (by (try simp only [World.size_alloc]); omega) _)
  replace hBW := hBW.trans (cb42.mono hBW.size)
  replace q00 := below_cell cb42 q00
  replace q01 := below_cell cb42 q01
  replace l4100 := below_cell cb42 l4100
  replace l4101 := below_cell cb42 l4101
  replace hL410 := below_row cb42 hL410
  have hL420 : Row ((w42.alloc (.cells #[.bool false, .slice none 0 0] 25))) (w42.heap.size) := by
    have := row_new (w42) #[.bool false, .slice none 0 0] 25
    try simp only [World.size_alloc] at this
    exact this
  go_wp2_with fail
  generalize (w42.alloc (.cells #[.bool false, .slice none 0 0] 25)) = w42x at q00 q01 l4100 l4101 l4200 l4201 hL410 hL420 hBW cb42 ⊢
  clear cb42
  refine (same_none _).mono ?_
  rintro e w43 ⟨rfl, b43⟩
  replace hBW := hBW.trans (b43.mono hBW.size)
  replace q00 := below_cell b43 q00
  replace q01 := below_cell b43 q01
  replace l4100 := below_cell b43 l4100
  replace l4101 := below_cell b43 l4101
  replace l4200 := below_cell b43 l4200
  replace l4201 := below_cell b43 l4201
  replace hL410 := below_row b43 hL410
  replace hL420 := below_row b43 hL420
  go_wp2_with fail
  refine (G1.out _).mono ?_
  rintro e w44 ⟨rfl, rfl⟩
  go_wp2
  go_ret
  exact ⟨rfl, (hB.trans (hBW.mono hB.size))⟩

set_option maxHeartbeats 8000000 in
set_option maxRecDepth 100000 in
theorem neg_val (s0 : Bool) (a0 : Option Addr) (len0 cap0 X0 : Nat) (C : Int) (hC : sgn (sg s0 X0) = C) (h0 : C < 0) (k : Nat) (hk : k ≤ 4096) (hg : big len0 k = false) (w : World) (hS0 : Seg w a0 X0 len0) (hc0 : len0 ≤ cap0) (hb0 : len0 ≤ 35184372087808) : Calls Try.prog 4 #[.agg #[.bool s0, .slice a0 len0 cap0], .int .i64 (k : Int)] w fun e w' => e = .returned (.bool true) ∧ Below w.heap.size w w' := by
  have P0 := hide' (fun w' h => wRoot_neg s0 a0 len0 cap0 X0 w' hc0 hb0 h C hC h0)
  have P1 := hide' (fun w' h => vRoot_neg s0 a0 len0 cap0 X0 w' hc0 hb0 h C hC h0)
  have G1' := fun w' => great_is len0 k w'
  rw [hg] at G1'
  have G1 := hide' G1'
  have k1 : (k : Int) ≤ 4096 := by omega
  clear G1'
  have hmn := big_no hg
  obtain ⟨Z, hZ⟩ : ∃ Z, sg (psn s0 k) (X0 ^ k) = Z := ⟨_, rfl⟩
  have lZ : ln (am Z) ≤ 536870913 := by rw [← hZ, am_sg]; have := ln_pow hS0.1 k; omega
  have W0 := hide' (fun w' h => wPow_is s0 a0 len0 cap0 X0 w' hc0 (by omega) h k hk (by omega) Z hZ)
  have W1 := hide' (fun w' h => vPow_all s0 a0 len0 cap0 X0 (by omega) hS0.1 (k + 1) k (by omega) hk (by omega) Z hZ w' h)
  clear hZ
  clear hC hg
  go_enter Try.func4, Try.ntmps4
  go_wp2_with fail
  obtain ⟨W, hW⟩ : ∃ W, (w.alloc (.cells #[.bool s0, .slice a0 len0 cap0] 25)) = W := ⟨_, rfl⟩
  have q00 : W.cell? ⟨w.heap.size, 0, none⟩ = some (.bool s0) := by subst hW; go_simp
  have q01 : W.cell? ⟨w.heap.size, 1, none⟩ = some (.slice a0 len0 cap0) := by subst hW; go_simp
  have hB : Below w.heap.size w W := by subst hW; exact ((Below.refl _ _).alloc (by (try simp only [World.size_alloc]); omega) _)
  have hz : W.heap.size = w.heap.size + 1 := by subst hW; simp only [World.size_alloc]
  rw [hW]
  clear hW
  have hBW : Below W.heap.size W W := Below.refl _ _
  refine (P0.out _ (sb hS0 hB hBW)).mono ?_
  rintro e w41 ⟨rfl, b41⟩
  replace hBW := hBW.trans (b41.mono hBW.size)
  replace q00 := below_cell b41 q00
  replace q01 := below_cell b41 q01
  have hsz41 := hBW.size
  have l4100 : ((w41.alloc (.cells #[.bool false, .slice none 0 0] 25))).cell? ⟨w41.heap.size, 0, none⟩ = some (.bool false) := by go_simp
  have l4101 : ((w41.alloc (.cells #[.bool false, .slice none 0 0] 25))).cell? ⟨w41.heap.size, 1, none⟩ = some (.slice none 0 0) := by go_simp
  have cb41 : Below w41.heap.size w41 ((w41.alloc (.cells #[.bool false, .slice none 0 0] 25))) := ((Below.refl _ _).alloc (by (try simp only [World.size_alloc]); omega) _)
  replace hBW := hBW.trans (cb41.mono hBW.size)
  replace q00 := below_cell cb41 q00
  replace q01 := below_cell cb41 q01
  have hL410 : Row ((w41.alloc (.cells #[.bool false, .slice none 0 0] 25))) (w41.heap.size) := by
    have := row_new (w41) #[.bool false, .slice none 0 0] 25
    try simp only [World.size_alloc] at this
    exact this
  go_wp2_with fail
  generalize (w41.alloc (.cells #[.bool false, .slice none 0 0] 25)) = w41x at q00 q01 l4100 l4101 hL410 hBW cb41 ⊢
  clear cb41
  refine (P1.out _ (sb hS0 hB hBW)).mono ?_
  rintro e w42 ⟨rfl, b42⟩
  replace hBW := hBW.trans (b42.mono hBW.size)
  replace q00 := below_cell b42 q00
  replace q01 := below_cell b42 q01
  replace l4100 := below_cell b42 l4100
  replace l4101 := below_cell b42 l4101
  replace hL410 := below_row b42 hL410
  have hsz42 := hBW.size
  have hlt42hL410 := hL410.lt
  have l4200 : ((w42.alloc (.cells #[.bool false, .slice none 0 0] 25))).cell? ⟨w42.heap.size, 0, none⟩ = some (.bool false) := by go_simp
  have l4201 : ((w42.alloc (.cells #[.bool false, .slice none 0 0] 25))).cell? ⟨w42.heap.size, 1, none⟩ = some (.slice none 0 0) := by go_simp
  have cb42 : Below w42.heap.size w42 ((w42.alloc (.cells #[.bool false, .slice none 0 0] 25))) := ((Below.refl _ _).alloc (by (try simp only [World.size_alloc]); omega) _)
  replace hBW := hBW.trans (cb42.mono hBW.size)
  replace q00 := below_cell cb42 q00
  replace q01 := below_cell cb42 q01
  replace l4100 := below_cell cb42 l4100
  replace l4101 := below_cell cb42 l4101
  replace hL410 := below_row cb42 hL410
  have hL420 : Row ((w42.alloc (.cells #[.bool false, .slice none 0 0] 25))) (w42.heap.size) := by
    have := row_new (w42) #[.bool false, .slice none 0 0] 25
    try simp only [World.size_alloc] at this
    exact this
  go_wp2_with fail
  generalize (w42.alloc (.cells #[.bool false, .slice none 0 0] 25)) = w42x at q00 q01 l4100 l4101 l4200 l4201 hL410 hL420 hBW cb42 ⊢
  clear cb42
  refine (same_none _).mono ?_
  rintro e w43 ⟨rfl, b43⟩
  replace hBW := hBW.trans (b43.mono hBW.size)
  replace q00 := below_cell b43 q00
  replace q01 := below_cell b43 q01
  replace l4100 := below_cell b43 l4100
  replace l4101 := below_cell b43 l4101
  replace l4200 := below_cell b43 l4200
  replace l4201 := below_cell b43 l4201
  replace hL410 := below_row b43 hL410
  replace hL420 := below_row b43 hL420
  go_wp2_with fail
  refine (G1.out _).mono ?_
  rintro e w44 ⟨rfl, rfl⟩
  go_wp2_with fail
  refine (W0.out _ (sb hS0 hB hBW)).mono ?_
  rintro e w44 ⟨a44, rfl, h44⟩
  have b44 := h44.below
  replace h44 := h44.back hBW
  replace hBW := hBW.trans (b44.mono hBW.size)
  replace q00 := below_cell b44 q00
  replace q01 := below_cell b44 q01
  replace l4100 := below_cell b44 l4100
  replace l4101 := below_cell b44 l4101
  replace l4200 := below_cell b44 l4200
  replace l4201 := below_cell b44 l4201
  replace hL410 := below_row b44 hL410
  replace hL420 := below_row b44 hL420
  have hsz44 := hBW.size
  have hlt44hL410 := hL410.lt
  have hlt44hL420 := hL420.lt
  have l4400 : ((w44.alloc (.cells #[.bool (ng Z), .slice a44 (ln (am Z)) (ln (am Z))] 25))).cell? ⟨w44.heap.size, 0, none⟩ = some (.bool (ng Z)) := by go_simp
  have l4401 : ((w44.alloc (.cells #[.bool (ng Z), .slice a44 (ln (am Z)) (ln (am Z))] 25))).cell? ⟨w44.heap.size, 1, none⟩ = some (.slice a44 (ln (am Z)) (ln (am Z))) := by go_simp
  have cb44 : Below w44.heap.size w44 ((w44.alloc (.cells #[.bool (ng Z), .slice a44 (ln (am Z)) (ln (am Z))] 25))) := ((Below.refl _ _).alloc (by (try simp only [World.size_alloc]); omega) _)
  replace hBW := hBW.trans (cb44.mono hBW.size)
  replace q00 := below_cell cb44 q00
  replace q01 := below_cell cb44 q01
  replace l4100 := below_cell cb44 l4100
  replace l4101 := below_cell cb44 l4101
  replace l4200 := below_cell cb44 l4200
  replace l4201 := below_cell cb44 l4201
  replace hL410 := below_row cb44 hL410
  replace hL420 := below_row cb44 hL420
  replace h44 := h44.later cb44
  have hL440 : Row ((w44.alloc (.cells #[.bool (ng Z), .slice a44 (ln (am Z)) (ln (am Z))] 25))) (w44.heap.size) := by
    have := row_new (w44) #[.bool (ng Z), .slice a44 (ln (am Z)) (ln (am Z))] 25
    try simp only [World.size_alloc] at this
    exact this
  go_wp2_with fail
  generalize (w44.alloc (.cells #[.bool (ng Z), .slice a44 (ln (am Z)) (ln (am Z))] 25)) = w44x at q00 q01 l4100 l4101 l4200 l4201 l4400 l4401 hL410 hL420 hL440 h44 hBW cb44 ⊢
  clear cb44
  refine (W1.out _ (sb hS0 hB hBW)).mono ?_
  rintro e w45 ⟨a45, rfl, h45⟩
  have b45 := h45.below
  replace h45 := h45.back hBW
  replace hBW := hBW.trans (b45.mono hBW.size)
  replace q00 := below_cell b45 q00
  replace q01 := below_cell b45 q01
  replace l4100 := below_cell b45 l4100
  replace l4101 := below_cell b45 l4101
  replace l4200 := below_cell b45 l4200
  replace l4201 := below_cell b45 l4201
  replace l4400 := below_cell b45 l4400
  replace l4401 := below_cell b45 l4401
  replace hL410 := below_row b45 hL410
  replace hL420 := below_row b45 hL420
  replace hL440 := below_row b45 hL440
  replace h44 := h44.later b45
  have hsz45 := hBW.size
  have hlt45hL410 := hL410.lt
  have hlt45hL420 := hL420.lt
  have hlt45hL440 := hL440.lt
  have l4500 : ((w45.alloc (.cells #[.bool (ng Z), .slice a45 (ln (am Z)) (ln (am Z))] 25))).cell? ⟨w45.heap.size, 0, none⟩ = some (.bool (ng Z)) := by go_simp
  have l4501 : ((w45.alloc (.cells #[.bool (ng Z), .slice a45 (ln (am Z)) (ln (am Z))] 25))).cell? ⟨w45.heap.size, 1, none⟩ = some (.slice a45 (ln (am Z)) (ln (am Z))) := by go_simp
  have cb45 : Below w45.heap.size w45 ((w45.alloc (.cells #[.bool (ng Z), .slice a45 (ln (am Z)) (ln (am Z))] 25))) := ((Below.refl _ _).alloc (by (try simp only [World.size_alloc]); omega) _)
  replace hBW := hBW.trans (cb45.mono hBW.size)
  replace q00 := below_cell cb45 q00
  replace q01 := below_cell cb45 q01
  replace l4100 := below_cell cb45 l4100
  replace l4101 := below_cell cb45 l4101
  replace l4200 := below_cell cb45 l4200
  replace l4201 := below_cell cb45 l4201
  replace l4400 := below_cell cb45 l4400
  replace l4401 := below_cell cb45 l4401
  replace hL410 := below_row cb45 hL410
  replace hL420 := below_row cb45 hL420
  replace hL440 := below_row cb45 hL440
  replace h44 := h44.later cb45
  replace h45 := h45.later cb45
  have hL450 : Row ((w45.alloc (.cells #[.bool (ng Z), .slice a45 (ln (am Z)) (ln (am Z))] 25))) (w45.heap.size) := by
    have := row_new (w45) #[.bool (ng Z), .slice a45 (ln (am Z)) (ln (am Z))] 25
    try simp only [World.size_alloc] at this
    exact this
  go_wp2_with fail
  generalize (w45.alloc (.cells #[.bool (ng Z), .slice a45 (ln (am Z)) (ln (am Z))] 25)) = w45x at q00 q01 l4100 l4101 l4200 l4201 l4400 l4401 l4500 l4501 hL410 hL420 hL440 hL450 h44 h45 hBW cb45 ⊢
  clear cb45
  refine (sameI_is Z a44 a45 _ _ _ (by omega) h44.seg h45.seg).mono ?_
  rintro e w46 ⟨rfl, b46⟩
  replace hBW := hBW.trans (b46.mono hBW.size)
  replace q00 := below_cell b46 q00
  replace q01 := below_cell b46 q01
  replace l4100 := below_cell b46 l4100
  replace l4101 := below_cell b46 l4101
  replace l4200 := below_cell b46 l4200
  replace l4201 := below_cell b46 l4201
  replace l4400 := below_cell b46 l4400
  replace l4401 := below_cell b46 l4401
  replace l4500 := below_cell b46 l4500
  replace l4501 := below_cell b46 l4501
  replace hL410 := below_row b46 hL410
  replace hL420 := below_row b46 hL420
  replace hL440 := below_row b46 hL440
  replace hL450 := below_row b46 hL450
  replace h44 := h44.later b46
  replace h45 := h45.later b46
  go_wp2
  go_ret
  exact ⟨rfl, (hB.trans (hBW.mono hB.size))⟩

set_option maxHeartbeats 8000000 in
set_option maxRecDepth 100000 in
theorem neg_lo (s0 : Bool) (a0 : Option Addr) (len0 cap0 X0 : Nat) (C : Int) (hC : sgn (sg s0 X0) = C) (h0 : C < 0) (z : Int) (hz : z < 0) (w : World) (hS0 : Seg w a0 X0 len0) (hc0 : len0 ≤ cap0) (hb0 : len0 ≤ 35184372087808) : Calls Try.prog 4 #[.agg #[.bool s0, .slice a0 len0 cap0], .int .i64 z] w fun e w' => e = .returned (.bool true) ∧ Below w.heap.size w w' := by
  have P0 := hide' (fun w' h => wRoot_neg s0 a0 len0 cap0 X0 w' hc0 hb0 h C hC h0)
  have P1 := hide' (fun w' h => vRoot_neg s0 a0 len0 cap0 X0 w' hc0 hb0 h C hC h0)
  have G1 := hide' (fun w' => great_neg len0 z (by omega) w')
  have k1 : z ≤ 4096 := by omega
  have W0 := hide' (fun w' h => wPow_no s0 a0 len0 cap0 X0 w' hc0 (by omega) h z (Or.inl hz))
  have W1 := hide' (fun w' h => vPow_lo s0 a0 len0 cap0 X0 w' (by omega) h z hz)
  clear hC
  go_enter Try.func4, Try.ntmps4
  go_wp2_with fail
  obtain ⟨W, hW⟩ : ∃ W, (w.alloc (.cells #[.bool s0, .slice a0 len0 cap0] 25)) = W := ⟨_, rfl⟩
  have q00 : W.cell? ⟨w.heap.size, 0, none⟩ = some (.bool s0) := by subst hW; go_simp
  have q01 : W.cell? ⟨w.heap.size, 1, none⟩ = some (.slice a0 len0 cap0) := by subst hW; go_simp
  have hB : Below w.heap.size w W := by subst hW; exact ((Below.refl _ _).alloc (by (try simp only [World.size_alloc]); omega) _)
  have hz : W.heap.size = w.heap.size + 1 := by subst hW; simp only [World.size_alloc]
  rw [hW]
  clear hW
  have hBW : Below W.heap.size W W := Below.refl _ _
  refine (P0.out _ (sb hS0 hB hBW)).mono ?_
  rintro e w41 ⟨rfl, b41⟩
  replace hBW := hBW.trans (b41.mono hBW.size)
  replace q00 := below_cell b41 q00
  replace q01 := below_cell b41 q01
  have hsz41 := hBW.size
  have l4100 : ((w41.alloc (.cells #[.bool false, .slice none 0 0] 25))).cell? ⟨w41.heap.size, 0, none⟩ = some (.bool false) := by go_simp
  have l4101 : ((w41.alloc (.cells #[.bool false, .slice none 0 0] 25))).cell? ⟨w41.heap.size, 1, none⟩ = some (.slice none 0 0) := by go_simp
  have cb41 : Below w41.heap.size w41 ((w41.alloc (.cells #[.bool false, .slice none 0 0] 25))) := ((Below.refl _ _).alloc (by (try simp only [World.size_alloc]); omega) _)
  replace hBW := hBW.trans (cb41.mono hBW.size)
  replace q00 := below_cell cb41 q00
  replace q01 := below_cell cb41 q01
  have hL410 : Row ((w41.alloc (.cells #[.bool false, .slice none 0 0] 25))) (w41.heap.size) := by
    have := row_new (w41) #[.bool false, .slice none 0 0] 25
    try simp only [World.size_alloc] at this
    exact this
  go_wp2_with fail
  generalize (w41.alloc (.cells #[.bool false, .slice none 0 0] 25)) = w41x at q00 q01 l4100 l4101 hL410 hBW cb41 ⊢
  clear cb41
  refine (P1.out _ (sb hS0 hB hBW)).mono ?_
  rintro e w42 ⟨rfl, b42⟩
  replace hBW := hBW.trans (b42.mono hBW.size)
  replace q00 := below_cell b42 q00
  replace q01 := below_cell b42 q01
  replace l4100 := below_cell b42 l4100
  replace l4101 := below_cell b42 l4101
  replace hL410 := below_row b42 hL410
  have hsz42 := hBW.size
  have hlt42hL410 := hL410.lt
  have l4200 : ((w42.alloc (.cells #[.bool false, .slice none 0 0] 25))).cell? ⟨w42.heap.size, 0, none⟩ = some (.bool false) := by go_simp
  have l4201 : ((w42.alloc (.cells #[.bool false, .slice none 0 0] 25))).cell? ⟨w42.heap.size, 1, none⟩ = some (.slice none 0 0) := by go_simp
  have cb42 : Below w42.heap.size w42 ((w42.alloc (.cells #[.bool false, .slice none 0 0] 25))) := ((Below.refl _ _).alloc (by (try simp only [World.size_alloc]); omega) _)
  replace hBW := hBW.trans (cb42.mono hBW.size)
  replace q00 := below_cell cb42 q00
  replace q01 := below_cell cb42 q01
  replace l4100 := below_cell cb42 l4100
  replace l4101 := below_cell cb42 l4101
  replace hL410 := below_row cb42 hL410
  have hL420 : Row ((w42.alloc (.cells #[.bool false, .slice none 0 0] 25))) (w42.heap.size) := by
    have := row_new (w42) #[.bool false, .slice none 0 0] 25
    try simp only [World.size_alloc] at this
    exact this
  go_wp2_with fail
  generalize (w42.alloc (.cells #[.bool false, .slice none 0 0] 25)) = w42x at q00 q01 l4100 l4101 l4200 l4201 hL410 hL420 hBW cb42 ⊢
  clear cb42
  refine (same_none _).mono ?_
  rintro e w43 ⟨rfl, b43⟩
  replace hBW := hBW.trans (b43.mono hBW.size)
  replace q00 := below_cell b43 q00
  replace q01 := below_cell b43 q01
  replace l4100 := below_cell b43 l4100
  replace l4101 := below_cell b43 l4101
  replace l4200 := below_cell b43 l4200
  replace l4201 := below_cell b43 l4201
  replace hL410 := below_row b43 hL410
  replace hL420 := below_row b43 hL420
  go_wp2_with fail
  refine (G1.out _).mono ?_
  rintro e w44 ⟨rfl, rfl⟩
  go_wp2_with fail
  refine (W0.out _ (sb hS0 hB hBW)).mono ?_
  rintro e w44 ⟨rfl, b44⟩
  replace hBW := hBW.trans (b44.mono hBW.size)
  replace q00 := below_cell b44 q00
  replace q01 := below_cell b44 q01
  replace l4100 := below_cell b44 l4100
  replace l4101 := below_cell b44 l4101
  replace l4200 := below_cell b44 l4200
  replace l4201 := below_cell b44 l4201
  replace hL410 := below_row b44 hL410
  replace hL420 := below_row b44 hL420
  have hsz44 := hBW.size
  have hlt44hL410 := hL410.lt
  have hlt44hL420 := hL420.lt
  have l4400 : ((w44.alloc (.cells #[.bool false, .slice none 0 0] 25))).cell? ⟨w44.heap.size, 0, none⟩ = some (.bool false) := by go_simp
  have l4401 : ((w44.alloc (.cells #[.bool false, .slice none 0 0] 25))).cell? ⟨w44.heap.size, 1, none⟩ = some (.slice none 0 0) := by go_simp
  have cb44 : Below w44.heap.size w44 ((w44.alloc (.cells #[.bool false, .slice none 0 0] 25))) := ((Below.refl _ _).alloc (by (try simp only [World.size_alloc]); omega) _)
  replace hBW := hBW.trans (cb44.mono hBW.size)
  replace q00 := below_cell cb44 q00
  replace q01 := below_cell cb44 q01
  replace l4100 := below_cell cb44 l4100
  replace l4101 := below_cell cb44 l4101
  replace l4200 := below_cell cb44 l4200
  replace l4201 := below_cell cb44 l4201
  replace hL410 := below_row cb44 hL410
  replace hL420 := below_row cb44 hL420
  have hL440 : Row ((w44.alloc (.cells #[.bool false, .slice none 0 0] 25))) (w44.heap.size) := by
    have := row_new (w44) #[.bool false, .slice none 0 0] 25
    try simp only [World.size_alloc] at this
    exact this
  go_wp2_with fail
  generalize (w44.alloc (.cells #[.bool false, .slice none 0 0] 25)) = w44x at q00 q01 l4100 l4101 l4200 l4201 l4400 l4401 hL410 hL420 hL440 hBW cb44 ⊢
  clear cb44
  refine (W1.out _ (sb hS0 hB hBW)).mono ?_
  rintro e w45 ⟨rfl, b45⟩
  replace hBW := hBW.trans (b45.mono hBW.size)
  replace q00 := below_cell b45 q00
  replace q01 := below_cell b45 q01
  replace l4100 := below_cell b45 l4100
  replace l4101 := below_cell b45 l4101
  replace l4200 := below_cell b45 l4200
  replace l4201 := below_cell b45 l4201
  replace l4400 := below_cell b45 l4400
  replace l4401 := below_cell b45 l4401
  replace hL410 := below_row b45 hL410
  replace hL420 := below_row b45 hL420
  replace hL440 := below_row b45 hL440
  have hsz45 := hBW.size
  have hlt45hL410 := hL410.lt
  have hlt45hL420 := hL420.lt
  have hlt45hL440 := hL440.lt
  have l4500 : ((w45.alloc (.cells #[.bool false, .slice none 0 0] 25))).cell? ⟨w45.heap.size, 0, none⟩ = some (.bool false) := by go_simp
  have l4501 : ((w45.alloc (.cells #[.bool false, .slice none 0 0] 25))).cell? ⟨w45.heap.size, 1, none⟩ = some (.slice none 0 0) := by go_simp
  have cb45 : Below w45.heap.size w45 ((w45.alloc (.cells #[.bool false, .slice none 0 0] 25))) := ((Below.refl _ _).alloc (by (try simp only [World.size_alloc]); omega) _)
  replace hBW := hBW.trans (cb45.mono hBW.size)
  replace q00 := below_cell cb45 q00
  replace q01 := below_cell cb45 q01
  replace l4100 := below_cell cb45 l4100
  replace l4101 := below_cell cb45 l4101
  replace l4200 := below_cell cb45 l4200
  replace l4201 := below_cell cb45 l4201
  replace l4400 := below_cell cb45 l4400
  replace l4401 := below_cell cb45 l4401
  replace hL410 := below_row cb45 hL410
  replace hL420 := below_row cb45 hL420
  replace hL440 := below_row cb45 hL440
  have hL450 : Row ((w45.alloc (.cells #[.bool false, .slice none 0 0] 25))) (w45.heap.size) := by
    have := row_new (w45) #[.bool false, .slice none 0 0] 25
    try simp only [World.size_alloc] at this
    exact this
  go_wp2_with fail
  generalize (w45.alloc (.cells #[.bool false, .slice none 0 0] 25)) = w45x at q00 q01 l4100 l4101 l4200 l4201 l4400 l4401 l4500 l4501 hL410 hL420 hL440 hL450 hBW cb45 ⊢
  clear cb45
  refine (same_none _).mono ?_
  rintro e w46 ⟨rfl, b46⟩
  replace hBW := hBW.trans (b46.mono hBW.size)
  replace q00 := below_cell b46 q00
  replace q01 := below_cell b46 q01
  replace l4100 := below_cell b46 l4100
  replace l4101 := below_cell b46 l4101
  replace l4200 := below_cell b46 l4200
  replace l4201 := below_cell b46 l4201
  replace l4400 := below_cell b46 l4400
  replace l4401 := below_cell b46 l4401
  replace l4500 := below_cell b46 l4500
  replace l4501 := below_cell b46 l4501
  replace hL410 := below_row b46 hL410
  replace hL420 := below_row b46 hL420
  replace hL440 := below_row b46 hL440
  replace hL450 := below_row b46 hL450
  go_wp2
  go_ret
  exact ⟨rfl, (hB.trans (hBW.mono hB.size))⟩

set_option maxHeartbeats 8000000 in
set_option maxRecDepth 100000 in
theorem neg_hi (s0 : Bool) (a0 : Option Addr) (len0 cap0 X0 : Nat) (C : Int) (hC : sgn (sg s0 X0) = C) (h0 : C < 0) (z : Int) (hz : 4096 < z) (w : World) (hS0 : Seg w a0 X0 len0) (hc0 : len0 ≤ cap0) (hb0 : len0 ≤ 35184372087808) : Calls Try.prog 4 #[.agg #[.bool s0, .slice a0 len0 cap0], .int .i64 z] w fun e w' => e = .returned (.bool true) ∧ Below w.heap.size w w' := by
  have P0 := hide' (fun w' h => wRoot_neg s0 a0 len0 cap0 X0 w' hc0 hb0 h C hC h0)
  have P1 := hide' (fun w' h => vRoot_neg s0 a0 len0 cap0 X0 w' hc0 hb0 h C hC h0)
  have k1 : ¬ (z ≤ 4096) := by omega
  have k2 : decide (z ≤ 4096) = false := by rw [decide_eq_false_iff_not]; omega
  have W0 := hide' (fun w' h => wPow_no s0 a0 len0 cap0 X0 w' hc0 (by omega) h z (Or.inr hz))
  have W1 := hide' (fun w' h => vPow_hi s0 a0 len0 cap0 X0 w' (by omega) h z hz)
  clear hC
  go_enter Try.func4, Try.ntmps4
  go_wp2_with fail
  obtain ⟨W, hW⟩ : ∃ W, (w.alloc (.cells #[.bool s0, .slice a0 len0 cap0] 25)) = W := ⟨_, rfl⟩
  have q00 : W.cell? ⟨w.heap.size, 0, none⟩ = some (.bool s0) := by subst hW; go_simp
  have q01 : W.cell? ⟨w.heap.size, 1, none⟩ = some (.slice a0 len0 cap0) := by subst hW; go_simp
  have hB : Below w.heap.size w W := by subst hW; exact ((Below.refl _ _).alloc (by (try simp only [World.size_alloc]); omega) _)
  have hz : W.heap.size = w.heap.size + 1 := by subst hW; simp only [World.size_alloc]
  rw [hW]
  clear hW
  have hBW : Below W.heap.size W W := Below.refl _ _
  refine (P0.out _ (sb hS0 hB hBW)).mono ?_
  rintro e w41 ⟨rfl, b41⟩
  replace hBW := hBW.trans (b41.mono hBW.size)
  replace q00 := below_cell b41 q00
  replace q01 := below_cell b41 q01
  have hsz41 := hBW.size
  have l4100 : ((w41.alloc (.cells #[.bool false, .slice none 0 0] 25))).cell? ⟨w41.heap.size, 0, none⟩ = some (.bool false) := by go_simp
  have l4101 : ((w41.alloc (.cells #[.bool false, .slice none 0 0] 25))).cell? ⟨w41.heap.size, 1, none⟩ = some (.slice none 0 0) := by go_simp
  have cb41 : Below w41.heap.size w41 ((w41.alloc (.cells #[.bool false, .slice none 0 0] 25))) := ((Below.refl _ _).alloc (by (try simp only [World.size_alloc]); omega) _)
  replace hBW := hBW.trans (cb41.mono hBW.size)
  replace q00 := below_cell cb41 q00
  replace q01 := below_cell cb41 q01
  have hL410 : Row ((w41.alloc (.cells #[.bool false, .slice none 0 0] 25))) (w41.heap.size) := by
    have := row_new (w41) #[.bool false, .slice none 0 0] 25
    try simp only [World.size_alloc] at this
    exact this
  go_wp2_with fail
  generalize (w41.alloc (.cells #[.bool false, .slice none 0 0] 25)) = w41x at q00 q01 l4100 l4101 hL410 hBW cb41 ⊢
  clear cb41
  refine (P1.out _ (sb hS0 hB hBW)).mono ?_
  rintro e w42 ⟨rfl, b42⟩
  replace hBW := hBW.trans (b42.mono hBW.size)
  replace q00 := below_cell b42 q00
  replace q01 := below_cell b42 q01
  replace l4100 := below_cell b42 l4100
  replace l4101 := below_cell b42 l4101
  replace hL410 := below_row b42 hL410
  have hsz42 := hBW.size
  have hlt42hL410 := hL410.lt
  have l4200 : ((w42.alloc (.cells #[.bool false, .slice none 0 0] 25))).cell? ⟨w42.heap.size, 0, none⟩ = some (.bool false) := by go_simp
  have l4201 : ((w42.alloc (.cells #[.bool false, .slice none 0 0] 25))).cell? ⟨w42.heap.size, 1, none⟩ = some (.slice none 0 0) := by go_simp
  have cb42 : Below w42.heap.size w42 ((w42.alloc (.cells #[.bool false, .slice none 0 0] 25))) := ((Below.refl _ _).alloc (by (try simp only [World.size_alloc]); omega) _)
  replace hBW := hBW.trans (cb42.mono hBW.size)
  replace q00 := below_cell cb42 q00
  replace q01 := below_cell cb42 q01
  replace l4100 := below_cell cb42 l4100
  replace l4101 := below_cell cb42 l4101
  replace hL410 := below_row cb42 hL410
  have hL420 : Row ((w42.alloc (.cells #[.bool false, .slice none 0 0] 25))) (w42.heap.size) := by
    have := row_new (w42) #[.bool false, .slice none 0 0] 25
    try simp only [World.size_alloc] at this
    exact this
  go_wp2_with fail
  generalize (w42.alloc (.cells #[.bool false, .slice none 0 0] 25)) = w42x at q00 q01 l4100 l4101 l4200 l4201 hL410 hL420 hBW cb42 ⊢
  clear cb42
  refine (same_none _).mono ?_
  rintro e w43 ⟨rfl, b43⟩
  replace hBW := hBW.trans (b43.mono hBW.size)
  replace q00 := below_cell b43 q00
  replace q01 := below_cell b43 q01
  replace l4100 := below_cell b43 l4100
  replace l4101 := below_cell b43 l4101
  replace l4200 := below_cell b43 l4200
  replace l4201 := below_cell b43 l4201
  replace hL410 := below_row b43 hL410
  replace hL420 := below_row b43 hL420
  go_wp2_with fail
  refine (W0.out _ (sb hS0 hB hBW)).mono ?_
  rintro e w44 ⟨rfl, b44⟩
  replace hBW := hBW.trans (b44.mono hBW.size)
  replace q00 := below_cell b44 q00
  replace q01 := below_cell b44 q01
  replace l4100 := below_cell b44 l4100
  replace l4101 := below_cell b44 l4101
  replace l4200 := below_cell b44 l4200
  replace l4201 := below_cell b44 l4201
  replace hL410 := below_row b44 hL410
  replace hL420 := below_row b44 hL420
  have hsz44 := hBW.size
  have hlt44hL410 := hL410.lt
  have hlt44hL420 := hL420.lt
  have l4400 : ((w44.alloc (.cells #[.bool false, .slice none 0 0] 25))).cell? ⟨w44.heap.size, 0, none⟩ = some (.bool false) := by go_simp
  have l4401 : ((w44.alloc (.cells #[.bool false, .slice none 0 0] 25))).cell? ⟨w44.heap.size, 1, none⟩ = some (.slice none 0 0) := by go_simp
  have cb44 : Below w44.heap.size w44 ((w44.alloc (.cells #[.bool false, .slice none 0 0] 25))) := ((Below.refl _ _).alloc (by (try simp only [World.size_alloc]); omega) _)
  replace hBW := hBW.trans (cb44.mono hBW.size)
  replace q00 := below_cell cb44 q00
  replace q01 := below_cell cb44 q01
  replace l4100 := below_cell cb44 l4100
  replace l4101 := below_cell cb44 l4101
  replace l4200 := below_cell cb44 l4200
  replace l4201 := below_cell cb44 l4201
  replace hL410 := below_row cb44 hL410
  replace hL420 := below_row cb44 hL420
  have hL440 : Row ((w44.alloc (.cells #[.bool false, .slice none 0 0] 25))) (w44.heap.size) := by
    have := row_new (w44) #[.bool false, .slice none 0 0] 25
    try simp only [World.size_alloc] at this
    exact this
  go_wp2_with fail
  generalize (w44.alloc (.cells #[.bool false, .slice none 0 0] 25)) = w44x at q00 q01 l4100 l4101 l4200 l4201 l4400 l4401 hL410 hL420 hL440 hBW cb44 ⊢
  clear cb44
  refine (W1.out _ (sb hS0 hB hBW)).mono ?_
  rintro e w45 ⟨rfl, b45⟩
  replace hBW := hBW.trans (b45.mono hBW.size)
  replace q00 := below_cell b45 q00
  replace q01 := below_cell b45 q01
  replace l4100 := below_cell b45 l4100
  replace l4101 := below_cell b45 l4101
  replace l4200 := below_cell b45 l4200
  replace l4201 := below_cell b45 l4201
  replace l4400 := below_cell b45 l4400
  replace l4401 := below_cell b45 l4401
  replace hL410 := below_row b45 hL410
  replace hL420 := below_row b45 hL420
  replace hL440 := below_row b45 hL440
  have hsz45 := hBW.size
  have hlt45hL410 := hL410.lt
  have hlt45hL420 := hL420.lt
  have hlt45hL440 := hL440.lt
  have l4500 : ((w45.alloc (.cells #[.bool false, .slice none 0 0] 25))).cell? ⟨w45.heap.size, 0, none⟩ = some (.bool false) := by go_simp
  have l4501 : ((w45.alloc (.cells #[.bool false, .slice none 0 0] 25))).cell? ⟨w45.heap.size, 1, none⟩ = some (.slice none 0 0) := by go_simp
  have cb45 : Below w45.heap.size w45 ((w45.alloc (.cells #[.bool false, .slice none 0 0] 25))) := ((Below.refl _ _).alloc (by (try simp only [World.size_alloc]); omega) _)
  replace hBW := hBW.trans (cb45.mono hBW.size)
  replace q00 := below_cell cb45 q00
  replace q01 := below_cell cb45 q01
  replace l4100 := below_cell cb45 l4100
  replace l4101 := below_cell cb45 l4101
  replace l4200 := below_cell cb45 l4200
  replace l4201 := below_cell cb45 l4201
  replace l4400 := below_cell cb45 l4400
  replace l4401 := below_cell cb45 l4401
  replace hL410 := below_row cb45 hL410
  replace hL420 := below_row cb45 hL420
  replace hL440 := below_row cb45 hL440
  have hL450 : Row ((w45.alloc (.cells #[.bool false, .slice none 0 0] 25))) (w45.heap.size) := by
    have := row_new (w45) #[.bool false, .slice none 0 0] 25
    try simp only [World.size_alloc] at this
    exact this
  go_wp2_with fail
  generalize (w45.alloc (.cells #[.bool false, .slice none 0 0] 25)) = w45x at q00 q01 l4100 l4101 l4200 l4201 l4400 l4401 l4500 l4501 hL410 hL420 hL440 hL450 hBW cb45 ⊢
  clear cb45
  refine (same_none _).mono ?_
  rintro e w46 ⟨rfl, b46⟩
  replace hBW := hBW.trans (b46.mono hBW.size)
  replace q00 := below_cell b46 q00
  replace q01 := below_cell b46 q01
  replace l4100 := below_cell b46 l4100
  replace l4101 := below_cell b46 l4101
  replace l4200 := below_cell b46 l4200
  replace l4201 := below_cell b46 l4201
  replace l4400 := below_cell b46 l4400
  replace l4401 := below_cell b46 l4401
  replace l4500 := below_cell b46 l4500
  replace l4501 := below_cell b46 l4501
  replace hL410 := below_row b46 hL410
  replace hL420 := below_row b46 hL420
  replace hL440 := below_row b46 hL440
  replace hL450 := below_row b46 hL450
  go_wp2
  go_ret
  exact ⟨rfl, (hB.trans (hBW.mono hB.size))⟩

set_option maxHeartbeats 8000000 in
set_option maxRecDepth 100000 in
theorem pos_great (s0 : Bool) (a0 : Option Addr) (len0 cap0 X0 : Nat) (C : Int) (hC : sgn (sg s0 X0) = C) (h0 : ¬ (C < 0)) (k : Nat) (hk : k ≤ 4096) (hg : big len0 k = true) (w : World) (hS0 : Seg w a0 X0 len0) (hc0 : len0 ≤ cap0) (hb0 : len0 ≤ 35184372087808) : Calls Try.prog 4 #[.agg #[.bool s0, .slice a0 len0 cap0], .int .i64 (k : Int)] w fun e w' => e = .returned (.bool true) ∧ Below w.heap.size w w' := by
  obtain ⟨R, hR⟩ := isq_ex X0
  have lR : ln R ≤ 35184372087808 := Nat.le_trans (root_half hR.1 hS0.1 (m := len0) (by omega)) hb0
  obtain ⟨Zr, hZr⟩ : ∃ Z : Int, (R : Int) = Z := ⟨_, rfl⟩
  have ar : am Zr = R := by rw [← hZr]; rfl
  have nr : ng Zr = false := by rw [← hZr]; unfold ng; rw [decide_eq_false_iff_not]; omega
  have P0' := fun w' h => wRoot_pos s0 a0 len0 cap0 X0 w' hc0 hb0 h C hC h0 R hR lR
  have P1' := fun w' h => vRoot_pos s0 a0 len0 cap0 X0 w' hc0 hb0 h C hC h0 R hR
  rw [← ar] at lR P0' P1'
  rw [← nr] at P0' P1'
  have P0 := hide' P0'
  have P1 := hide' P1'
  clear P0' P1' hR hZr ar nr
  have G1' := fun w' => great_is len0 k w'
  rw [hg] at G1'
  have G1 := hide' G1'
  have k1 : (k : Int) ≤ 4096 := by omega
  clear G1'
  clear hC hg
  go_enter Try.func4, Try.ntmps4
  go_wp2_with fail
  obtain ⟨W, hW⟩ : ∃ W, (w.alloc (.cells #[.bool s0, .slice a0 len0 cap0] 25)) = W := ⟨_, rfl⟩
  have q00 : W.cell? ⟨w.heap.size, 0, none⟩ = some (.bool s0) := by subst hW; go_simp
  have q01 : W.cell? ⟨w.heap.size, 1, none⟩ = some (.slice a0 len0 cap0) := by subst hW; go_simp
  have hB : Below w.heap.size w W := by subst hW; exact ((Below.refl _ _).alloc (by (try simp only [World.size_alloc]); omega) _)
  have hz : W.heap.size = w.heap.size + 1 := by subst hW; simp only [World.size_alloc]
  rw [hW]
  clear hW
  have hBW : Below W.heap.size W W := Below.refl _ _
  refine (P0.out _ (sb hS0 hB hBW)).mono ?_
  rintro e w41 ⟨a41, rfl, h41⟩
  have b41 := h41.below
  replace h41 := h41.back hBW
  replace hBW := hBW.trans (b41.mono hBW.size)
  replace q00 := below_cell b41 q00
  replace q01 := below_cell b41 q01
  have hsz41 := hBW.size
  have l4100 : ((w41.alloc (.cells #[.bool (ng Zr), .slice a41 (ln (am Zr)) (ln (am Zr))] 25))).cell? ⟨w41.heap.size, 0, none⟩ = some (.bool (ng Zr)) := by go_simp
  have l4101 : ((w41.alloc (.cells #[.bool (ng Zr), .slice a41 (ln (am Zr)) (ln (am Zr))] 25))).cell? ⟨w41.heap.size, 1, none⟩ = some (.slice a41 (ln (am Zr)) (ln (am Zr))) := by go_simp
  have cb41 : Below w41.heap.size w41 ((w41.alloc (.cells #[.bool (ng Zr), .slice a41 (ln (am Zr)) (ln (am Zr))] 25))) := ((Below.refl _ _).alloc (by (try simp only [World.size_alloc]); omega) _)
  replace hBW := hBW.trans (cb41.mono hBW.size)
  replace q00 := below_cell cb41 q00
  replace q01 := below_cell cb41 q01
  replace h41 := h41.later cb41
  have hL410 : Row ((w41.alloc (.cells #[.bool (ng Zr), .slice a41 (ln (am Zr)) (ln (am Zr))] 25))) (w41.heap.size) := by
    have := row_new (w41) #[.bool (ng Zr), .slice a41 (ln (am Zr)) (ln (am Zr))] 25
    try simp only [World.size_alloc] at this
    exact this
  go_wp2_with fail
  generalize (w41.alloc (.cells #[.bool (ng Zr), .slice a41 (ln (am Zr)) (ln (am Zr))] 25)) = w41x at q00 q01 l4100 l4101 hL410 h41 hBW cb41 ⊢
  clear cb41
  refine (P1.out _ (sb hS0 hB hBW)).mono ?_
  rintro e w42 ⟨a42, rfl, h42⟩
  have b42 := h42.below
  replace h42 := h42.back hBW
  replace hBW := hBW.trans (b42.mono hBW.size)
  replace q00 := below_cell b42 q00
  replace q01 := below_cell b42 q01
  replace l4100 := below_cell b42 l4100
  replace l4101 := below_cell b42 l4101
  replace hL410 := below_row b42 hL410
  replace h41 := h41.later b42
  have hsz42 := hBW.size
  have hlt42hL410 := hL410.lt
  have l4200 : ((w42.alloc (.cells #[.bool (ng Zr), .slice a42 (ln (am Zr)) (ln (am Zr))] 25))).cell? ⟨w42.heap.size, 0, none⟩ = some (.bool (ng Zr)) := by go_simp
  have l4201 : ((w42.alloc (.cells #[.bool (ng Zr), .slice a42 (ln (am Zr)) (ln (am Zr))] 25))).cell? ⟨w42.heap.size, 1, none⟩ = some (.slice a42 (ln (am Zr)) (ln (am Zr))) := by go_simp
  have cb42 : Below w42.heap.size w42 ((w42.alloc (.cells #[.bool (ng Zr), .slice a42 (ln (am Zr)) (ln (am Zr))] 25))) := ((Below.refl _ _).alloc (by (try simp only [World.size_alloc]); omega) _)
  replace hBW := hBW.trans (cb42.mono hBW.size)
  replace q00 := below_cell cb42 q00
  replace q01 := below_cell cb42 q01
  replace l4100 := below_cell cb42 l4100
  replace l4101 := below_cell cb42 l4101
  replace hL410 := below_row cb42 hL410
  replace h41 := h41.later cb42
  replace h42 := h42.later cb42
  have hL420 : Row ((w42.alloc (.cells #[.bool (ng Zr), .slice a42 (ln (am Zr)) (ln (am Zr))] 25))) (w42.heap.size) := by
    have := row_new (w42) #[.bool (ng Zr), .slice a42 (ln (am Zr)) (ln (am Zr))] 25
    try simp only [World.size_alloc] at this
    exact this
  go_wp2_with fail
  generalize (w42.alloc (.cells #[.bool (ng Zr), .slice a42 (ln (am Zr)) (ln (am Zr))] 25)) = w42x at q00 q01 l4100 l4101 l4200 l4201 hL410 hL420 h41 h42 hBW cb42 ⊢
  clear cb42
  refine (sameI_is Zr a41 a42 _ _ _ (by omega) h41.seg h42.seg).mono ?_
  rintro e w43 ⟨rfl, b43⟩
  replace hBW := hBW.trans (b43.mono hBW.size)
  replace q00 := below_cell b43 q00
  replace q01 := below_cell b43 q01
  replace l4100 := below_cell b43 l4100
  replace l4101 := below_cell b43 l4101
  replace l4200 := below_cell b43 l4200
  replace l4201 := below_cell b43 l4201
  replace hL410 := below_row b43 hL410
  replace hL420 := below_row b43 hL420
  replace h41 := h41.later b43
  replace h42 := h42.later b43
  go_wp2_with fail
  refine (G1.out _).mono ?_
  rintro e w44 ⟨rfl, rfl⟩
  go_wp2
  go_ret
  exact ⟨rfl, (hB.trans (hBW.mono hB.size))⟩

set_option maxHeartbeats 8000000 in
set_option maxRecDepth 100000 in
theorem pos_val (s0 : Bool) (a0 : Option Addr) (len0 cap0 X0 : Nat) (C : Int) (hC : sgn (sg s0 X0) = C) (h0 : ¬ (C < 0)) (k : Nat) (hk : k ≤ 4096) (hg : big len0 k = false) (w : World) (hS0 : Seg w a0 X0 len0) (hc0 : len0 ≤ cap0) (hb0 : len0 ≤ 35184372087808) : Calls Try.prog 4 #[.agg #[.bool s0, .slice a0 len0 cap0], .int .i64 (k : Int)] w fun e w' => e = .returned (.bool true) ∧ Below w.heap.size w w' := by
  obtain ⟨R, hR⟩ := isq_ex X0
  have lR : ln R ≤ 35184372087808 := Nat.le_trans (root_half hR.1 hS0.1 (m := len0) (by omega)) hb0
  obtain ⟨Zr, hZr⟩ : ∃ Z : Int, (R : Int) = Z := ⟨_, rfl⟩
  have ar : am Zr = R := by rw [← hZr]; rfl
  have nr : ng Zr = false := by rw [← hZr]; unfold ng; rw [decide_eq_false_iff_not]; omega
  have P0' := fun w' h => wRoot_pos s0 a0 len0 cap0 X0 w' hc0 hb0 h C hC h0 R hR lR
  have P1' := fun w' h => vRoot_pos s0 a0 len0 cap0 X0 w' hc0 hb0 h C hC h0 R hR
  rw [← ar] at lR P0' P1'
  rw [← nr] at P0' P1'
  have P0 := hide' P0'
  have P1 := hide' P1'
  clear P0' P1' hR hZr ar nr
  have G1' := fun w' => great_is len0 k w'
  rw [hg] at G1'
  have G1 := hide' G1'
  have k1 : (k : Int) ≤ 4096 := by omega
  clear G1'
  have hmn := big_no hg
  obtain ⟨Z, hZ⟩ : ∃ Z, sg (psn s0 k) (X0 ^ k) = Z := ⟨_, rfl⟩
  have lZ : ln (am Z) ≤ 536870913 := by rw [← hZ, am_sg]; have := ln_pow hS0.1 k; omega
  have W0 := hide' (fun w' h => wPow_is s0 a0 len0 cap0 X0 w' hc0 (by omega) h k hk (by omega) Z hZ)
  have W1 := hide' (fun w' h => vPow_all s0 a0 len0 cap0 X0 (by omega) hS0.1 (k + 1) k (by omega) hk (by omega) Z hZ w' h)
  clear hZ
  clear hC hg
  go_enter Try.func4, Try.ntmps4
  go_wp2_with fail
  obtain ⟨W, hW⟩ : ∃ W, (w.alloc (.cells #[.bool s0, .slice a0 len0 cap0] 25)) = W := ⟨_, rfl⟩
  have q00 : W.cell? ⟨w.heap.size, 0, none⟩ = some (.bool s0) := by subst hW; go_simp
  have q01 : W.cell? ⟨w.heap.size, 1, none⟩ = some (.slice a0 len0 cap0) := by subst hW; go_simp
  have hB : Below w.heap.size w W := by subst hW; exact ((Below.refl _ _).alloc (by (try simp only [World.size_alloc]); omega) _)
  have hz : W.heap.size = w.heap.size + 1 := by subst hW; simp only [World.size_alloc]
  rw [hW]
  clear hW
  have hBW : Below W.heap.size W W := Below.refl _ _
  refine (P0.out _ (sb hS0 hB hBW)).mono ?_
  rintro e w41 ⟨a41, rfl, h41⟩
  have b41 := h41.below
  replace h41 := h41.back hBW
  replace hBW := hBW.trans (b41.mono hBW.size)
  replace q00 := below_cell b41 q00
  replace q01 := below_cell b41 q01
  have hsz41 := hBW.size
  have l4100 : ((w41.alloc (.cells #[.bool (ng Zr), .slice a41 (ln (am Zr)) (ln (am Zr))] 25))).cell? ⟨w41.heap.size, 0, none⟩ = some (.bool (ng Zr)) := by go_simp
  have l4101 : ((w41.alloc (.cells #[.bool (ng Zr), .slice a41 (ln (am Zr)) (ln (am Zr))] 25))).cell? ⟨w41.heap.size, 1, none⟩ = some (.slice a41 (ln (am Zr)) (ln (am Zr))) := by go_simp
  have cb41 : Below w41.heap.size w41 ((w41.alloc (.cells #[.bool (ng Zr), .slice a41 (ln (am Zr)) (ln (am Zr))] 25))) := ((Below.refl _ _).alloc (by (try simp only [World.size_alloc]); omega) _)
  replace hBW := hBW.trans (cb41.mono hBW.size)
  replace q00 := below_cell cb41 q00
  replace q01 := below_cell cb41 q01
  replace h41 := h41.later cb41
  have hL410 : Row ((w41.alloc (.cells #[.bool (ng Zr), .slice a41 (ln (am Zr)) (ln (am Zr))] 25))) (w41.heap.size) := by
    have := row_new (w41) #[.bool (ng Zr), .slice a41 (ln (am Zr)) (ln (am Zr))] 25
    try simp only [World.size_alloc] at this
    exact this
  go_wp2_with fail
  generalize (w41.alloc (.cells #[.bool (ng Zr), .slice a41 (ln (am Zr)) (ln (am Zr))] 25)) = w41x at q00 q01 l4100 l4101 hL410 h41 hBW cb41 ⊢
  clear cb41
  refine (P1.out _ (sb hS0 hB hBW)).mono ?_
  rintro e w42 ⟨a42, rfl, h42⟩
  have b42 := h42.below
  replace h42 := h42.back hBW
  replace hBW := hBW.trans (b42.mono hBW.size)
  replace q00 := below_cell b42 q00
  replace q01 := below_cell b42 q01
  replace l4100 := below_cell b42 l4100
  replace l4101 := below_cell b42 l4101
  replace hL410 := below_row b42 hL410
  replace h41 := h41.later b42
  have hsz42 := hBW.size
  have hlt42hL410 := hL410.lt
  have l4200 : ((w42.alloc (.cells #[.bool (ng Zr), .slice a42 (ln (am Zr)) (ln (am Zr))] 25))).cell? ⟨w42.heap.size, 0, none⟩ = some (.bool (ng Zr)) := by go_simp
  have l4201 : ((w42.alloc (.cells #[.bool (ng Zr), .slice a42 (ln (am Zr)) (ln (am Zr))] 25))).cell? ⟨w42.heap.size, 1, none⟩ = some (.slice a42 (ln (am Zr)) (ln (am Zr))) := by go_simp
  have cb42 : Below w42.heap.size w42 ((w42.alloc (.cells #[.bool (ng Zr), .slice a42 (ln (am Zr)) (ln (am Zr))] 25))) := ((Below.refl _ _).alloc (by (try simp only [World.size_alloc]); omega) _)
  replace hBW := hBW.trans (cb42.mono hBW.size)
  replace q00 := below_cell cb42 q00
  replace q01 := below_cell cb42 q01
  replace l4100 := below_cell cb42 l4100
  replace l4101 := below_cell cb42 l4101
  replace hL410 := below_row cb42 hL410
  replace h41 := h41.later cb42
  replace h42 := h42.later cb42
  have hL420 : Row ((w42.alloc (.cells #[.bool (ng Zr), .slice a42 (ln (am Zr)) (ln (am Zr))] 25))) (w42.heap.size) := by
    have := row_new (w42) #[.bool (ng Zr), .slice a42 (ln (am Zr)) (ln (am Zr))] 25
    try simp only [World.size_alloc] at this
    exact this
  go_wp2_with fail
  generalize (w42.alloc (.cells #[.bool (ng Zr), .slice a42 (ln (am Zr)) (ln (am Zr))] 25)) = w42x at q00 q01 l4100 l4101 l4200 l4201 hL410 hL420 h41 h42 hBW cb42 ⊢
  clear cb42
  refine (sameI_is Zr a41 a42 _ _ _ (by omega) h41.seg h42.seg).mono ?_
  rintro e w43 ⟨rfl, b43⟩
  replace hBW := hBW.trans (b43.mono hBW.size)
  replace q00 := below_cell b43 q00
  replace q01 := below_cell b43 q01
  replace l4100 := below_cell b43 l4100
  replace l4101 := below_cell b43 l4101
  replace l4200 := below_cell b43 l4200
  replace l4201 := below_cell b43 l4201
  replace hL410 := below_row b43 hL410
  replace hL420 := below_row b43 hL420
  replace h41 := h41.later b43
  replace h42 := h42.later b43
  go_wp2_with fail
  refine (G1.out _).mono ?_
  rintro e w44 ⟨rfl, rfl⟩
  go_wp2_with fail
  refine (W0.out _ (sb hS0 hB hBW)).mono ?_
  rintro e w44 ⟨a44, rfl, h44⟩
  have b44 := h44.below
  replace h44 := h44.back hBW
  replace hBW := hBW.trans (b44.mono hBW.size)
  replace q00 := below_cell b44 q00
  replace q01 := below_cell b44 q01
  replace l4100 := below_cell b44 l4100
  replace l4101 := below_cell b44 l4101
  replace l4200 := below_cell b44 l4200
  replace l4201 := below_cell b44 l4201
  replace hL410 := below_row b44 hL410
  replace hL420 := below_row b44 hL420
  replace h41 := h41.later b44
  replace h42 := h42.later b44
  have hsz44 := hBW.size
  have hlt44hL410 := hL410.lt
  have hlt44hL420 := hL420.lt
  have l4400 : ((w44.alloc (.cells #[.bool (ng Z), .slice a44 (ln (am Z)) (ln (am Z))] 25))).cell? ⟨w44.heap.size, 0, none⟩ = some (.bool (ng Z)) := by go_simp
  have l4401 : ((w44.alloc (.cells #[.bool (ng Z), .slice a44 (ln (am Z)) (ln (am Z))] 25))).cell? ⟨w44.heap.size, 1, none⟩ = some (.slice a44 (ln (am Z)) (ln (am Z))) := by go_simp
  have cb44 : Below w44.heap.size w44 ((w44.alloc (.cells #[.bool (ng Z), .slice a44 (ln (am Z)) (ln (am Z))] 25))) := ((Below.refl _ _).alloc (by (try simp only [World.size_alloc]); omega) _)
  replace hBW := hBW.trans (cb44.mono hBW.size)
  replace q00 := below_cell cb44 q00
  replace q01 := below_cell cb44 q01
  replace l4100 := below_cell cb44 l4100
  replace l4101 := below_cell cb44 l4101
  replace l4200 := below_cell cb44 l4200
  replace l4201 := below_cell cb44 l4201
  replace hL410 := below_row cb44 hL410
  replace hL420 := below_row cb44 hL420
  replace h41 := h41.later cb44
  replace h42 := h42.later cb44
  replace h44 := h44.later cb44
  have hL440 : Row ((w44.alloc (.cells #[.bool (ng Z), .slice a44 (ln (am Z)) (ln (am Z))] 25))) (w44.heap.size) := by
    have := row_new (w44) #[.bool (ng Z), .slice a44 (ln (am Z)) (ln (am Z))] 25
    try simp only [World.size_alloc] at this
    exact this
  go_wp2_with fail
  generalize (w44.alloc (.cells #[.bool (ng Z), .slice a44 (ln (am Z)) (ln (am Z))] 25)) = w44x at q00 q01 l4100 l4101 l4200 l4201 l4400 l4401 hL410 hL420 hL440 h41 h42 h44 hBW cb44 ⊢
  clear cb44
  refine (W1.out _ (sb hS0 hB hBW)).mono ?_
  rintro e w45 ⟨a45, rfl, h45⟩
  have b45 := h45.below
  replace h45 := h45.back hBW
  replace hBW := hBW.trans (b45.mono hBW.size)
  replace q00 := below_cell b45 q00
  replace q01 := below_cell b45 q01
  replace l4100 := below_cell b45 l4100
  replace l4101 := below_cell b45 l4101
  replace l4200 := below_cell b45 l4200
  replace l4201 := below_cell b45 l4201
  replace l4400 := below_cell b45 l4400
  replace l4401 := below_cell b45 l4401
  replace hL410 := below_row b45 hL410
  replace hL420 := below_row b45 hL420
  replace hL440 := below_row b45 hL440
  replace h41 := h41.later b45
  replace h42 := h42.later b45
  replace h44 := h44.later b45
  have hsz45 := hBW.size
  have hlt45hL410 := hL410.lt
  have hlt45hL420 := hL420.lt
  have hlt45hL440 := hL440.lt
  have l4500 : ((w45.alloc (.cells #[.bool (ng Z), .slice a45 (ln (am Z)) (ln (am Z))] 25))).cell? ⟨w45.heap.size, 0, none⟩ = some (.bool (ng Z)) := by go_simp
  have l4501 : ((w45.alloc (.cells #[.bool (ng Z), .slice a45 (ln (am Z)) (ln (am Z))] 25))).cell? ⟨w45.heap.size, 1, none⟩ = some (.slice a45 (ln (am Z)) (ln (am Z))) := by go_simp
  have cb45 : Below w45.heap.size w45 ((w45.alloc (.cells #[.bool (ng Z), .slice a45 (ln (am Z)) (ln (am Z))] 25))) := ((Below.refl _ _).alloc (by (try simp only [World.size_alloc]); omega) _)
  replace hBW := hBW.trans (cb45.mono hBW.size)
  replace q00 := below_cell cb45 q00
  replace q01 := below_cell cb45 q01
  replace l4100 := below_cell cb45 l4100
  replace l4101 := below_cell cb45 l4101
  replace l4200 := below_cell cb45 l4200
  replace l4201 := below_cell cb45 l4201
  replace l4400 := below_cell cb45 l4400
  replace l4401 := below_cell cb45 l4401
  replace hL410 := below_row cb45 hL410
  replace hL420 := below_row cb45 hL420
  replace hL440 := below_row cb45 hL440
  replace h41 := h41.later cb45
  replace h42 := h42.later cb45
  replace h44 := h44.later cb45
  replace h45 := h45.later cb45
  have hL450 : Row ((w45.alloc (.cells #[.bool (ng Z), .slice a45 (ln (am Z)) (ln (am Z))] 25))) (w45.heap.size) := by
    have := row_new (w45) #[.bool (ng Z), .slice a45 (ln (am Z)) (ln (am Z))] 25
    try simp only [World.size_alloc] at this
    exact this
  go_wp2_with fail
  generalize (w45.alloc (.cells #[.bool (ng Z), .slice a45 (ln (am Z)) (ln (am Z))] 25)) = w45x at q00 q01 l4100 l4101 l4200 l4201 l4400 l4401 l4500 l4501 hL410 hL420 hL440 hL450 h41 h42 h44 h45 hBW cb45 ⊢
  clear cb45
  refine (sameI_is Z a44 a45 _ _ _ (by omega) h44.seg h45.seg).mono ?_
  rintro e w46 ⟨rfl, b46⟩
  replace hBW := hBW.trans (b46.mono hBW.size)
  replace q00 := below_cell b46 q00
  replace q01 := below_cell b46 q01
  replace l4100 := below_cell b46 l4100
  replace l4101 := below_cell b46 l4101
  replace l4200 := below_cell b46 l4200
  replace l4201 := below_cell b46 l4201
  replace l4400 := below_cell b46 l4400
  replace l4401 := below_cell b46 l4401
  replace l4500 := below_cell b46 l4500
  replace l4501 := below_cell b46 l4501
  replace hL410 := below_row b46 hL410
  replace hL420 := below_row b46 hL420
  replace hL440 := below_row b46 hL440
  replace hL450 := below_row b46 hL450
  replace h41 := h41.later b46
  replace h42 := h42.later b46
  replace h44 := h44.later b46
  replace h45 := h45.later b46
  go_wp2
  go_ret
  exact ⟨rfl, (hB.trans (hBW.mono hB.size))⟩

set_option maxHeartbeats 8000000 in
set_option maxRecDepth 100000 in
theorem pos_lo (s0 : Bool) (a0 : Option Addr) (len0 cap0 X0 : Nat) (C : Int) (hC : sgn (sg s0 X0) = C) (h0 : ¬ (C < 0)) (z : Int) (hz : z < 0) (w : World) (hS0 : Seg w a0 X0 len0) (hc0 : len0 ≤ cap0) (hb0 : len0 ≤ 35184372087808) : Calls Try.prog 4 #[.agg #[.bool s0, .slice a0 len0 cap0], .int .i64 z] w fun e w' => e = .returned (.bool true) ∧ Below w.heap.size w w' := by
  obtain ⟨R, hR⟩ := isq_ex X0
  have lR : ln R ≤ 35184372087808 := Nat.le_trans (root_half hR.1 hS0.1 (m := len0) (by omega)) hb0
  obtain ⟨Zr, hZr⟩ : ∃ Z : Int, (R : Int) = Z := ⟨_, rfl⟩
  have ar : am Zr = R := by rw [← hZr]; rfl
  have nr : ng Zr = false := by rw [← hZr]; unfold ng; rw [decide_eq_false_iff_not]; omega
  have P0' := fun w' h => wRoot_pos s0 a0 len0 cap0 X0 w' hc0 hb0 h C hC h0 R hR lR
  have P1' := fun w' h => vRoot_pos s0 a0 len0 cap0 X0 w' hc0 hb0 h C hC h0 R hR
  rw [← ar] at lR P0' P1'
  rw [← nr] at P0' P1'
  have P0 := hide' P0'
  have P1 := hide' P1'
  clear P0' P1' hR hZr ar nr
  have G1 := hide' (fun w' => great_neg len0 z (by omega) w')
  have k1 : z ≤ 4096 := by omega
  have W0 := hide' (fun w' h => wPow_no s0 a0 len0 cap0 X0 w' hc0 (by omega) h z (Or.inl hz))
  have W1 := hide' (fun w' h => vPow_lo s0 a0 len0 cap0 X0 w' (by omega) h z hz)
  clear hC
  go_enter Try.func4, Try.ntmps4
  go_wp2_with fail
  obtain ⟨W, hW⟩ : ∃ W, (w.alloc (.cells #[.bool s0, .slice a0 len0 cap0] 25)) = W := ⟨_, rfl⟩
  have q00 : W.cell? ⟨w.heap.size, 0, none⟩ = some (.bool s0) := by subst hW; go_simp
  have q01 : W.cell? ⟨w.heap.size, 1, none⟩ = some (.slice a0 len0 cap0) := by subst hW; go_simp
  have hB : Below w.heap.size w W := by subst hW; exact ((Below.refl _ _).alloc (by (try simp only [World.size_alloc]); omega) _)
  have hz : W.heap.size = w.heap.size + 1 := by subst hW; simp only [World.size_alloc]
  rw [hW]
  clear hW
  have hBW : Below W.heap.size W W := Below.refl _ _
  refine (P0.out _ (sb hS0 hB hBW)).mono ?_
  rintro e w41 ⟨a41, rfl, h41⟩
  have b41 := h41.below
  replace h41 := h41.back hBW
  replace hBW := hBW.trans (b41.mono hBW.size)
  replace q00 := below_cell b41 q00
  replace q01 := below_cell b41 q01
  have hsz41 := hBW.size
  have l4100 : ((w41.alloc (.cells #[.bool (ng Zr), .slice a41 (ln (am Zr)) (ln (am Zr))] 25))).cell? ⟨w41.heap.size, 0, none⟩ = some (.bool (ng Zr)) := by go_simp
  have l4101 : ((w41.alloc (.cells #[.bool (ng Zr), .slice a41 (ln (am Zr)) (ln (am Zr))] 25))).cell? ⟨w41.heap.size, 1, none⟩ = some (.slice a41 (ln (am Zr)) (ln (am Zr))) := by go_simp
  have cb41 : Below w41.heap.size w41 ((w41.alloc (.cells #[.bool (ng Zr), .slice a41 (ln (am Zr)) (ln (am Zr))] 25))) := ((Below.refl _ _).alloc (by (try simp only [World.size_alloc]); omega) _)
  replace hBW := hBW.trans (cb41.mono hBW.size)
  replace q00 := below_cell cb41 q00
  replace q01 := below_cell cb41 q01
  replace h41 := h41.later cb41
  have hL410 : Row ((w41.alloc (.cells #[.bool (ng Zr), .slice a41 (ln (am Zr)) (ln (am Zr))] 25))) (w41.heap.size) := by
    have := row_new (w41) #[.bool (ng Zr), .slice a41 (ln (am Zr)) (ln (am Zr))] 25
    try simp only [World.size_alloc] at this
    exact this
  go_wp2_with fail
  generalize (w41.alloc (.cells #[.bool (ng Zr), .slice a41 (ln (am Zr)) (ln (am Zr))] 25)) = w41x at q00 q01 l4100 l4101 hL410 h41 hBW cb41 ⊢
  clear cb41
  refine (P1.out _ (sb hS0 hB hBW)).mono ?_
  rintro e w42 ⟨a42, rfl, h42⟩
  have b42 := h42.below
  replace h42 := h42.back hBW
  replace hBW := hBW.trans (b42.mono hBW.size)
  replace q00 := below_cell b42 q00
  replace q01 := below_cell b42 q01
  replace l4100 := below_cell b42 l4100
  replace l4101 := below_cell b42 l4101
  replace hL410 := below_row b42 hL410
  replace h41 := h41.later b42
  have hsz42 := hBW.size
  have hlt42hL410 := hL410.lt
  have l4200 : ((w42.alloc (.cells #[.bool (ng Zr), .slice a42 (ln (am Zr)) (ln (am Zr))] 25))).cell? ⟨w42.heap.size, 0, none⟩ = some (.bool (ng Zr)) := by go_simp
  have l4201 : ((w42.alloc (.cells #[.bool (ng Zr), .slice a42 (ln (am Zr)) (ln (am Zr))] 25))).cell? ⟨w42.heap.size, 1, none⟩ = some (.slice a42 (ln (am Zr)) (ln (am Zr))) := by go_simp
  have cb42 : Below w42.heap.size w42 ((w42.alloc (.cells #[.bool (ng Zr), .slice a42 (ln (am Zr)) (ln (am Zr))] 25))) := ((Below.refl _ _).alloc (by (try simp only [World.size_alloc]); omega) _)
  replace hBW := hBW.trans (cb42.mono hBW.size)
  replace q00 := below_cell cb42 q00
  replace q01 := below_cell cb42 q01
  replace l4100 := below_cell cb42 l4100
  replace l4101 := below_cell cb42 l4101
  replace hL410 := below_row cb42 hL410
  replace h41 := h41.later cb42
  replace h42 := h42.later cb42
  have hL420 : Row ((w42.alloc (.cells #[.bool (ng Zr), .slice a42 (ln (am Zr)) (ln (am Zr))] 25))) (w42.heap.size) := by
    have := row_new (w42) #[.bool (ng Zr), .slice a42 (ln (am Zr)) (ln (am Zr))] 25
    try simp only [World.size_alloc] at this
    exact this
  go_wp2_with fail
  generalize (w42.alloc (.cells #[.bool (ng Zr), .slice a42 (ln (am Zr)) (ln (am Zr))] 25)) = w42x at q00 q01 l4100 l4101 l4200 l4201 hL410 hL420 h41 h42 hBW cb42 ⊢
  clear cb42
  refine (sameI_is Zr a41 a42 _ _ _ (by omega) h41.seg h42.seg).mono ?_
  rintro e w43 ⟨rfl, b43⟩
  replace hBW := hBW.trans (b43.mono hBW.size)
  replace q00 := below_cell b43 q00
  replace q01 := below_cell b43 q01
  replace l4100 := below_cell b43 l4100
  replace l4101 := below_cell b43 l4101
  replace l4200 := below_cell b43 l4200
  replace l4201 := below_cell b43 l4201
  replace hL410 := below_row b43 hL410
  replace hL420 := below_row b43 hL420
  replace h41 := h41.later b43
  replace h42 := h42.later b43
  go_wp2_with fail
  refine (G1.out _).mono ?_
  rintro e w44 ⟨rfl, rfl⟩
  go_wp2_with fail
  refine (W0.out _ (sb hS0 hB hBW)).mono ?_
  rintro e w44 ⟨rfl, b44⟩
  replace hBW := hBW.trans (b44.mono hBW.size)
  replace q00 := below_cell b44 q00
  replace q01 := below_cell b44 q01
  replace l4100 := below_cell b44 l4100
  replace l4101 := below_cell b44 l4101
  replace l4200 := below_cell b44 l4200
  replace l4201 := below_cell b44 l4201
  replace hL410 := below_row b44 hL410
  replace hL420 := below_row b44 hL420
  replace h41 := h41.later b44
  replace h42 := h42.later b44
  have hsz44 := hBW.size
  have hlt44hL410 := hL410.lt
  have hlt44hL420 := hL420.lt
  have l4400 : ((w44.alloc (.cells #[.bool false, .slice none 0 0] 25))).cell? ⟨w44.heap.size, 0, none⟩ = some (.bool false) := by go_simp
  have l4401 : ((w44.alloc (.cells #[.bool false, .slice none 0 0] 25))).cell? ⟨w44.heap.size, 1, none⟩ = some (.slice none 0 0) := by go_simp
  have cb44 : Below w44.heap.size w44 ((w44.alloc (.cells #[.bool false, .slice none 0 0] 25))) := ((Below.refl _ _).alloc (by (try simp only [World.size_alloc]); omega) _)
  replace hBW := hBW.trans (cb44.mono hBW.size)
  replace q00 := below_cell cb44 q00
  replace q01 := below_cell cb44 q01
  replace l4100 := below_cell cb44 l4100
  replace l4101 := below_cell cb44 l4101
  replace l4200 := below_cell cb44 l4200
  replace l4201 := below_cell cb44 l4201
  replace hL410 := below_row cb44 hL410
  replace hL420 := below_row cb44 hL420
  replace h41 := h41.later cb44
  replace h42 := h42.later cb44
  have hL440 : Row ((w44.alloc (.cells #[.bool false, .slice none 0 0] 25))) (w44.heap.size) := by
    have := row_new (w44) #[.bool false, .slice none 0 0] 25
    try simp only [World.size_alloc] at this
    exact this
  go_wp2_with fail
  generalize (w44.alloc (.cells #[.bool false, .slice none 0 0] 25)) = w44x at q00 q01 l4100 l4101 l4200 l4201 l4400 l4401 hL410 hL420 hL440 h41 h42 hBW cb44 ⊢
  clear cb44
  refine (W1.out _ (sb hS0 hB hBW)).mono ?_
  rintro e w45 ⟨rfl, b45⟩
  replace hBW := hBW.trans (b45.mono hBW.size)
  replace q00 := below_cell b45 q00
  replace q01 := below_cell b45 q01
  replace l4100 := below_cell b45 l4100
  replace l4101 := below_cell b45 l4101
  replace l4200 := below_cell b45 l4200
  replace l4201 := below_cell b45 l4201
  replace l4400 := below_cell b45 l4400
  replace l4401 := below_cell b45 l4401
  replace hL410 := below_row b45 hL410
  replace hL420 := below_row b45 hL420
  replace hL440 := below_row b45 hL440
  replace h41 := h41.later b45
  replace h42 := h42.later b45
  have hsz45 := hBW.size
  have hlt45hL410 := hL410.lt
  have hlt45hL420 := hL420.lt
  have hlt45hL440 := hL440.lt
  have l4500 : ((w45.alloc (.cells #[.bool false, .slice none 0 0] 25))).cell? ⟨w45.heap.size, 0, none⟩ = some (.bool false) := by go_simp
  have l4501 : ((w45.alloc (.cells #[.bool false, .slice none 0 0] 25))).cell? ⟨w45.heap.size, 1, none⟩ = some (.slice none 0 0) := by go_simp
  have cb45 : Below w45.heap.size w45 ((w45.alloc (.cells #[.bool false, .slice none 0 0] 25))) := ((Below.refl _ _).alloc (by (try simp only [World.size_alloc]); omega) _)
  replace hBW := hBW.trans (cb45.mono hBW.size)
  replace q00 := below_cell cb45 q00
  replace q01 := below_cell cb45 q01
  replace l4100 := below_cell cb45 l4100
  replace l4101 := below_cell cb45 l4101
  replace l4200 := below_cell cb45 l4200
  replace l4201 := below_cell cb45 l4201
  replace l4400 := below_cell cb45 l4400
  replace l4401 := below_cell cb45 l4401
  replace hL410 := below_row cb45 hL410
  replace hL420 := below_row cb45 hL420
  replace hL440 := below_row cb45 hL440
  replace h41 := h41.later cb45
  replace h42 := h42.later cb45
  have hL450 : Row ((w45.alloc (.cells #[.bool false, .slice none 0 0] 25))) (w45.heap.size) := by
    have := row_new (w45) #[.bool false, .slice none 0 0] 25
    try simp only [World.size_alloc] at this
    exact this
  go_wp2_with fail
  generalize (w45.alloc (.cells #[.bool false, .slice none 0 0] 25)) = w45x at q00 q01 l4100 l4101 l4200 l4201 l4400 l4401 l4500 l4501 hL410 hL420 hL440 hL450 h41 h42 hBW cb45 ⊢
  clear cb45
  refine (same_none _).mono ?_
  rintro e w46 ⟨rfl, b46⟩
  replace hBW := hBW.trans (b46.mono hBW.size)
  replace q00 := below_cell b46 q00
  replace q01 := below_cell b46 q01
  replace l4100 := below_cell b46 l4100
  replace l4101 := below_cell b46 l4101
  replace l4200 := below_cell b46 l4200
  replace l4201 := below_cell b46 l4201
  replace l4400 := below_cell b46 l4400
  replace l4401 := below_cell b46 l4401
  replace l4500 := below_cell b46 l4500
  replace l4501 := below_cell b46 l4501
  replace hL410 := below_row b46 hL410
  replace hL420 := below_row b46 hL420
  replace hL440 := below_row b46 hL440
  replace hL450 := below_row b46 hL450
  replace h41 := h41.later b46
  replace h42 := h42.later b46
  go_wp2
  go_ret
  exact ⟨rfl, (hB.trans (hBW.mono hB.size))⟩

set_option maxHeartbeats 8000000 in
set_option maxRecDepth 100000 in
theorem pos_hi (s0 : Bool) (a0 : Option Addr) (len0 cap0 X0 : Nat) (C : Int) (hC : sgn (sg s0 X0) = C) (h0 : ¬ (C < 0)) (z : Int) (hz : 4096 < z) (w : World) (hS0 : Seg w a0 X0 len0) (hc0 : len0 ≤ cap0) (hb0 : len0 ≤ 35184372087808) : Calls Try.prog 4 #[.agg #[.bool s0, .slice a0 len0 cap0], .int .i64 z] w fun e w' => e = .returned (.bool true) ∧ Below w.heap.size w w' := by
  obtain ⟨R, hR⟩ := isq_ex X0
  have lR : ln R ≤ 35184372087808 := Nat.le_trans (root_half hR.1 hS0.1 (m := len0) (by omega)) hb0
  obtain ⟨Zr, hZr⟩ : ∃ Z : Int, (R : Int) = Z := ⟨_, rfl⟩
  have ar : am Zr = R := by rw [← hZr]; rfl
  have nr : ng Zr = false := by rw [← hZr]; unfold ng; rw [decide_eq_false_iff_not]; omega
  have P0' := fun w' h => wRoot_pos s0 a0 len0 cap0 X0 w' hc0 hb0 h C hC h0 R hR lR
  have P1' := fun w' h => vRoot_pos s0 a0 len0 cap0 X0 w' hc0 hb0 h C hC h0 R hR
  rw [← ar] at lR P0' P1'
  rw [← nr] at P0' P1'
  have P0 := hide' P0'
  have P1 := hide' P1'
  clear P0' P1' hR hZr ar nr
  have k1 : ¬ (z ≤ 4096) := by omega
  have k2 : decide (z ≤ 4096) = false := by rw [decide_eq_false_iff_not]; omega
  have W0 := hide' (fun w' h => wPow_no s0 a0 len0 cap0 X0 w' hc0 (by omega) h z (Or.inr hz))
  have W1 := hide' (fun w' h => vPow_hi s0 a0 len0 cap0 X0 w' (by omega) h z hz)
  clear hC
  go_enter Try.func4, Try.ntmps4
  go_wp2_with fail
  obtain ⟨W, hW⟩ : ∃ W, (w.alloc (.cells #[.bool s0, .slice a0 len0 cap0] 25)) = W := ⟨_, rfl⟩
  have q00 : W.cell? ⟨w.heap.size, 0, none⟩ = some (.bool s0) := by subst hW; go_simp
  have q01 : W.cell? ⟨w.heap.size, 1, none⟩ = some (.slice a0 len0 cap0) := by subst hW; go_simp
  have hB : Below w.heap.size w W := by subst hW; exact ((Below.refl _ _).alloc (by (try simp only [World.size_alloc]); omega) _)
  have hz : W.heap.size = w.heap.size + 1 := by subst hW; simp only [World.size_alloc]
  rw [hW]
  clear hW
  have hBW : Below W.heap.size W W := Below.refl _ _
  refine (P0.out _ (sb hS0 hB hBW)).mono ?_
  rintro e w41 ⟨a41, rfl, h41⟩
  have b41 := h41.below
  replace h41 := h41.back hBW
  replace hBW := hBW.trans (b41.mono hBW.size)
  replace q00 := below_cell b41 q00
  replace q01 := below_cell b41 q01
  have hsz41 := hBW.size
  have l4100 : ((w41.alloc (.cells #[.bool (ng Zr), .slice a41 (ln (am Zr)) (ln (am Zr))] 25))).cell? ⟨w41.heap.size, 0, none⟩ = some (.bool (ng Zr)) := by go_simp
  have l4101 : ((w41.alloc (.cells #[.bool (ng Zr), .slice a41 (ln (am Zr)) (ln (am Zr))] 25))).cell? ⟨w41.heap.size, 1, none⟩ = some (.slice a41 (ln (am Zr)) (ln (am Zr))) := by go_simp
  have cb41 : Below w41.heap.size w41 ((w41.alloc (.cells #[.bool (ng Zr), .slice a41 (ln (am Zr)) (ln (am Zr))] 25))) := ((Below.refl _ _).alloc (by (try simp only [World.size_alloc]); omega) _)
  replace hBW := hBW.trans (cb41.mono hBW.size)
  replace q00 := below_cell cb41 q00
  replace q01 := below_cell cb41 q01
  replace h41 := h41.later cb41
  have hL410 : Row ((w41.alloc (.cells #[.bool (ng Zr), .slice a41 (ln (am Zr)) (ln (am Zr))] 25))) (w41.heap.size) := by
    have := row_new (w41) #[.bool (ng Zr), .slice a41 (ln (am Zr)) (ln (am Zr))] 25
    try simp only [World.size_alloc] at this
    exact this
  go_wp2_with fail
  generalize (w41.alloc (.cells #[.bool (ng Zr), .slice a41 (ln (am Zr)) (ln (am Zr))] 25)) = w41x at q00 q01 l4100 l4101 hL410 h41 hBW cb41 ⊢
  clear cb41
  refine (P1.out _ (sb hS0 hB hBW)).mono ?_
  rintro e w42 ⟨a42, rfl, h42⟩
  have b42 := h42.below
  replace h42 := h42.back hBW
  replace hBW := hBW.trans (b42.mono hBW.size)
  replace q00 := below_cell b42 q00
  replace q01 := below_cell b42 q01
  replace l4100 := below_cell b42 l4100
  replace l4101 := below_cell b42 l4101
  replace hL410 := below_row b42 hL410
  replace h41 := h41.later b42
  have hsz42 := hBW.size
  have hlt42hL410 := hL410.lt
  have l4200 : ((w42.alloc (.cells #[.bool (ng Zr), .slice a42 (ln (am Zr)) (ln (am Zr))] 25))).cell? ⟨w42.heap.size, 0, none⟩ = some (.bool (ng Zr)) := by go_simp
  have l4201 : ((w42.alloc (.cells #[.bool (ng Zr), .slice a42 (ln (am Zr)) (ln (am Zr))] 25))).cell? ⟨w42.heap.size, 1, none⟩ = some (.slice a42 (ln (am Zr)) (ln (am Zr))) := by go_simp
  have cb42 : Below w42.heap.size w42 ((w42.alloc (.cells #[.bool (ng Zr), .slice a42 (ln (am Zr)) (ln (am Zr))] 25))) := ((Below.refl _ _).alloc (by (try simp only [World.size_alloc]); omega) _)
  replace hBW := hBW.trans (cb42.mono hBW.size)
  replace q00 := below_cell cb42 q00
  replace q01 := below_cell cb42 q01
  replace l4100 := below_cell cb42 l4100
  replace l4101 := below_cell cb42 l4101
  replace hL410 := below_row cb42 hL410
  replace h41 := h41.later cb42
  replace h42 := h42.later cb42
  have hL420 : Row ((w42.alloc (.cells #[.bool (ng Zr), .slice a42 (ln (am Zr)) (ln (am Zr))] 25))) (w42.heap.size) := by
    have := row_new (w42) #[.bool (ng Zr), .slice a42 (ln (am Zr)) (ln (am Zr))] 25
    try simp only [World.size_alloc] at this
    exact this
  go_wp2_with fail
  generalize (w42.alloc (.cells #[.bool (ng Zr), .slice a42 (ln (am Zr)) (ln (am Zr))] 25)) = w42x at q00 q01 l4100 l4101 l4200 l4201 hL410 hL420 h41 h42 hBW cb42 ⊢
  clear cb42
  refine (sameI_is Zr a41 a42 _ _ _ (by omega) h41.seg h42.seg).mono ?_
  rintro e w43 ⟨rfl, b43⟩
  replace hBW := hBW.trans (b43.mono hBW.size)
  replace q00 := below_cell b43 q00
  replace q01 := below_cell b43 q01
  replace l4100 := below_cell b43 l4100
  replace l4101 := below_cell b43 l4101
  replace l4200 := below_cell b43 l4200
  replace l4201 := below_cell b43 l4201
  replace hL410 := below_row b43 hL410
  replace hL420 := below_row b43 hL420
  replace h41 := h41.later b43
  replace h42 := h42.later b43
  go_wp2_with fail
  refine (W0.out _ (sb hS0 hB hBW)).mono ?_
  rintro e w44 ⟨rfl, b44⟩
  replace hBW := hBW.trans (b44.mono hBW.size)
  replace q00 := below_cell b44 q00
  replace q01 := below_cell b44 q01
  replace l4100 := below_cell b44 l4100
  replace l4101 := below_cell b44 l4101
  replace l4200 := below_cell b44 l4200
  replace l4201 := below_cell b44 l4201
  replace hL410 := below_row b44 hL410
  replace hL420 := below_row b44 hL420
  replace h41 := h41.later b44
  replace h42 := h42.later b44
  have hsz44 := hBW.size
  have hlt44hL410 := hL410.lt
  have hlt44hL420 := hL420.lt
  have l4400 : ((w44.alloc (.cells #[.bool false, .slice none 0 0] 25))).cell? ⟨w44.heap.size, 0, none⟩ = some (.bool false) := by go_simp
  have l4401 : ((w44.alloc (.cells #[.bool false, .slice none 0 0] 25))).cell? ⟨w44.heap.size, 1, none⟩ = some (.slice none 0 0) := by go_simp
  have cb44 : Below w44.heap.size w44 ((w44.alloc (.cells #[.bool false, .slice none 0 0] 25))) := ((Below.refl _ _).alloc (by (try simp only [World.size_alloc]); omega) _)
  replace hBW := hBW.trans (cb44.mono hBW.size)
  replace q00 := below_cell cb44 q00
  replace q01 := below_cell cb44 q01
  replace l4100 := below_cell cb44 l4100
  replace l4101 := below_cell cb44 l4101
  replace l4200 := below_cell cb44 l4200
  replace l4201 := below_cell cb44 l4201
  replace hL410 := below_row cb44 hL410
  replace hL420 := below_row cb44 hL420
  replace h41 := h41.later cb44
  replace h42 := h42.later cb44
  have hL440 : Row ((w44.alloc (.cells #[.bool false, .slice none 0 0] 25))) (w44.heap.size) := by
    have := row_new (w44) #[.bool false, .slice none 0 0] 25
    try simp only [World.size_alloc] at this
    exact this
  go_wp2_with fail
  generalize (w44.alloc (.cells #[.bool false, .slice none 0 0] 25)) = w44x at q00 q01 l4100 l4101 l4200 l4201 l4400 l4401 hL410 hL420 hL440 h41 h42 hBW cb44 ⊢
  clear cb44
  refine (W1.out _ (sb hS0 hB hBW)).mono ?_
  rintro e w45 ⟨rfl, b45⟩
  replace hBW := hBW.trans (b45.mono hBW.size)
  replace q00 := below_cell b45 q00
  replace q01 := below_cell b45 q01
  replace l4100 := below_cell b45 l4100
  replace l4101 := below_cell b45 l4101
  replace l4200 := below_cell b45 l4200
  replace l4201 := below_cell b45 l4201
  replace l4400 := below_cell b45 l4400
  replace l4401 := below_cell b45 l4401
  replace hL410 := below_row b45 hL410
  replace hL420 := below_row b45 hL420
  replace hL440 := below_row b45 hL440
  replace h41 := h41.later b45
  replace h42 := h42.later b45
  have hsz45 := hBW.size
  have hlt45hL410 := hL410.lt
  have hlt45hL420 := hL420.lt
  have hlt45hL440 := hL440.lt
  have l4500 : ((w45.alloc (.cells #[.bool false, .slice none 0 0] 25))).cell? ⟨w45.heap.size, 0, none⟩ = some (.bool false) := by go_simp
  have l4501 : ((w45.alloc (.cells #[.bool false, .slice none 0 0] 25))).cell? ⟨w45.heap.size, 1, none⟩ = some (.slice none 0 0) := by go_simp
  have cb45 : Below w45.heap.size w45 ((w45.alloc (.cells #[.bool false, .slice none 0 0] 25))) := ((Below.refl _ _).alloc (by (try simp only [World.size_alloc]); omega) _)
  replace hBW := hBW.trans (cb45.mono hBW.size)
  replace q00 := below_cell cb45 q00
  replace q01 := below_cell cb45 q01
  replace l4100 := below_cell cb45 l4100
  replace l4101 := below_cell cb45 l4101
  replace l4200 := below_cell cb45 l4200
  replace l4201 := below_cell cb45 l4201
  replace l4400 := below_cell cb45 l4400
  replace l4401 := below_cell cb45 l4401
  replace hL410 := below_row cb45 hL410
  replace hL420 := below_row cb45 hL420
  replace hL440 := below_row cb45 hL440
  replace h41 := h41.later cb45
  replace h42 := h42.later cb45
  have hL450 : Row ((w45.alloc (.cells #[.bool false, .slice none 0 0] 25))) (w45.heap.size) := by
    have := row_new (w45) #[.bool false, .slice none 0 0] 25
    try simp only [World.size_alloc] at this
    exact this
  go_wp2_with fail
  generalize (w45.alloc (.cells #[.bool false, .slice none 0 0] 25)) = w45x at q00 q01 l4100 l4101 l4200 l4201 l4400 l4401 l4500 l4501 hL410 hL420 hL440 hL450 h41 h42 hBW cb45 ⊢
  clear cb45
  refine (same_none _).mono ?_
  rintro e w46 ⟨rfl, b46⟩
  replace hBW := hBW.trans (b46.mono hBW.size)
  replace q00 := below_cell b46 q00
  replace q01 := below_cell b46 q01
  replace l4100 := below_cell b46 l4100
  replace l4101 := below_cell b46 l4101
  replace l4200 := below_cell b46 l4200
  replace l4201 := below_cell b46 l4201
  replace l4400 := below_cell b46 l4400
  replace l4401 := below_cell b46 l4401
  replace l4500 := below_cell b46 l4500
  replace l4501 := below_cell b46 l4501
  replace hL410 := below_row b46 hL410
  replace hL420 := below_row b46 hL420
  replace hL440 := below_row b46 hL440
  replace hL450 := below_row b46 hL450
  replace h41 := h41.later b46
  replace h42 := h42.later b46
  go_wp2
  go_ret
  exact ⟨rfl, (hB.trans (hBW.mono hB.size))⟩

theorem walk (s0 : Bool) (a0 : Option Addr) (len0 cap0 X0 : Nat) (z : Int) (w : World) (hS0 : Seg w a0 X0 len0) (hc0 : len0 ≤ cap0) (hb0 : len0 ≤ 35184372087808) (hz1 : -9223372036854775808 ≤ z) (hz2 : z ≤ 9223372036854775807) :
    Calls Try.prog 4 #[.agg #[.bool s0, .slice a0 len0 cap0], .int .i64 z] w fun e w' => e = .returned (.bool true) ∧ Below w.heap.size w w' := by
  by_cases h : sgn (sg s0 X0) < 0
  · by_cases h1 : z < 0
    · exact neg_lo s0 a0 len0 cap0 X0 _ rfl h z h1 w hS0 hc0 hb0
    · by_cases h2 : 4096 < z
      · exact neg_hi s0 a0 len0 cap0 X0 _ rfl h z h2 w hS0 hc0 hb0
      · obtain ⟨k, rfl⟩ : ∃ k : Nat, z = (k : Int) := ⟨z.toNat, by omega⟩
        cases hg : big len0 k
        · exact neg_val s0 a0 len0 cap0 X0 _ rfl h k (by omega) hg w hS0 hc0 hb0
        · exact neg_great s0 a0 len0 cap0 X0 _ rfl h k (by omega) hg w hS0 hc0 hb0
  · by_cases h1 : z < 0
    · exact pos_lo s0 a0 len0 cap0 X0 _ rfl h z h1 w hS0 hc0 hb0
    · by_cases h2 : 4096 < z
      · exact pos_hi s0 a0 len0 cap0 X0 _ rfl h z h2 w hS0 hc0 hb0
      · obtain ⟨k, rfl⟩ : ∃ k : Nat, z = (k : Int) := ⟨z.toNat, by omega⟩
        cases hg : big len0 k
        · exact pos_val s0 a0 len0 cap0 X0 _ rfl h k (by omega) hg w hS0 hc0 hb0
        · exact pos_great s0 a0 len0 cap0 X0 _ rfl h k (by omega) hg w hS0 hc0 hb0

set_option maxRecDepth 100000 in
theorem contract (H : Type) (enc : TypeId × Value → H) (W : World) (base : Nat) (args : Array Value) (ds gs : List (DataW H)) (before : List MemPlace)
    (hval : ∀ (j : Nat) t v, Try.f4.params[j]? = some t → args[j]? = some v → Value.okWide Try.prog W .any base t v)
    (hW : DataW.Whole enc Try.prog Try.f4.params.toList Rows.wholePowersSpec.vars false W args.toList ds gs before)
    (hsz : (DataW.weightsEach Try.prog (Try.f4.params.toList ++ Rows.wholePowersSpec.plain.varTypes Try.prog) (ds ++ gs)).all (· ≤ reachBytes) = true) :
    Calls Try.prog 4 args W fun e W' => ∃ v, e = .returned v ∧ Rows.wholePowersSpec.post enc Try.prog Try.f4 false true false false W args v W' := by
  have hW' := hW
  obtain ⟨p, q, hA0, hV, rfl, hfz, hnd⟩ := hW
  have hA : DataW.TrodAll enc Try.prog W 0 (fun _ => true) true Try.f4.params.toList args.toList ds p := hA0
  rw [Try.params4] at hA hval hsz
  obtain ⟨v0, vs0, d0, ds0, p0, q0, hargs, rfl, rfl, h0, r0⟩ := trodAll_cons hA
  obtain ⟨v1, vs1, d1, ds1, p1, q1, rfl, rfl, rfl, h1, r1⟩ := trodAll_cons r0
  obtain ⟨rfl, rfl, rfl⟩ := trodAll_nil r1
  obtain rfl : args = #[v0, v1] := by cases args; simp_all
  obtain ⟨rfl, rfl⟩ := trodVars_none hV
  have lt0 : ∀ x ∈ p0, x.block < W.heap.size := by obtain ⟨m, hm⟩ := h0; exact DataW.trod_lt m _ _ _ hm
  obtain ⟨s0, a0, len0, cap0, X0, rfl, hS0, hc0, hb0, hu0⟩ := open_Int (hval 0 25 v0 rfl rfl) h0 (sized_at 0 hsz rfl rfl)
  obtain ⟨z1, rfl, rfl, rfl, w1⟩ := open_int Try.underlying3 (hval 1 3 v1 rfl rfl) h1
  have bz1 := bounds_i64 w1
  clear hA0
  simp only [List.append_nil] at hW'
  refine (walk s0 a0 len0 cap0 X0 z1 W hS0 hc0 hb0 (by omega) (by omega)).mono fun e W' ⟨he, bel⟩ => ?_
  subst he
  exact ⟨_, rfl, _, _, _, [], _, [], hW', trodAll_mk1 (shut_bool Try.underlying4 _), (trodAll_cons_mk (Below.trod laidOut (by kernel_rfl) (of_decide_eq_true (by kernel_rfl)) h0 bel lt0) (trodAll_cons_mk (shut_int Try.underlying3 w1) trodAll_mk0)), rfl, bel.frame _, fun h => by cases h⟩

set_option maxRecDepth 100000 in
theorem lifted (os : Os) (started : os.Started) (H : Type) (enc : TypeId × Value → H) :
    ReturnsInHanded {} Try.checked os 4 .any (Rows.wholePowersSpec.pre6 enc Try.prog Try.f4 Rows.wholePowersRow.domain false) (Rows.wholePowersSpec.post enc Try.prog Try.f4 false true false false) := by
  refine returnsInHanded_of_change_sized (C := Try.checked) own started (by kernel_rfl) Try.func4
    (ChangeSpec.witness6 (enc := enc) (C := Try.checked) false ⟨#[], #[.agg #[.bool false, .slice none 0 0], .int .i64 0], []⟩ 8 (by kernel_rfl) (by kernel_rfl) (by kernel_rfl) (by kernel_rfl)) ?_
  intro W base args ds gs before hval hW _ hsz _
  exact contract H enc W base args ds gs before hval hW hsz

theorem over : Rows.wholePowersRow.holds Try.pinned (OpenSpec.ofChange Rows.wholePowersSpec) :=
  OpenClaim.holds_of_wide 4 Try.f4 rfl rfl rfl rfl rfl rfl rfl ⟨rfl, rfl, rfl, rfl, rfl⟩ rfl rfl rfl rfl rfl (by kernel_rfl) Try.func4 (by kernel_rfl)
    (of_decide_eq_true (by kernel_rfl)) (by unfold Func.isWrapper; first | (rw [if_pos (by decide +kernel)]; kernel_rfl) | (rw [if_neg (by decide +kernel)]; exact ⟨rfl, rfl⟩))
    (fun os started H enc _ => lifted os started H enc)

end Go.Proofs.Ytjdilgkjgednjaa.wholePowers
namespace Go.Proofs.Ytjdilgkjgednjaa
theorem wholePowers_holds : Rows.WholePowersSaid := wholePowers.over
#print axioms wholePowers_holds
end Go.Proofs.Ytjdilgkjgednjaa
