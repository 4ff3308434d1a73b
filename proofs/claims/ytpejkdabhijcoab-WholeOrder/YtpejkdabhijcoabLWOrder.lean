/-
  WholeOrder: a total order, which sums keep, and products with what is above 0.
-/
import Derived.Test.YtpejkdabhijcoabWI6
import Derived.Test.YtpejkdabhijcoabOpenI
namespace Go.Proofs.Ytpejkdabhijcoab.wholeOrder
open Go.ChangeShapes Go.WideShapes Go.ChangeAt Go.RowKit Go.Proofs.Ytpejkdabhijcoab
set_option linter.unusedVariables false

theorem ln_addI {A B Z : Int} {n m k : Nat} (h : A + B = Z) (hA : ln (am A) ≤ n) (hB : ln (am B) ≤ m) (hn : n + 1 ≤ k) (hm : m + 1 ≤ k) : ln (am Z) ≤ k := by
  have h1 : am Z ≤ am A + am B := by rw [← h]; unfold am; omega
  have h2 : ln (am A + am B) ≤ k := ln_sum (Nat.lt_of_lt_of_le (ln_lt _) (pow_mono hA)) (Nat.lt_of_lt_of_le (ln_lt _) (pow_mono hB)) hn hm
  exact Nat.le_trans (ln_mono h1) h2
theorem ln_mulI {A B Z : Int} {n m : Nat} (h : A * B = Z) (hA : ln (am A) ≤ n) (hB : ln (am B) ≤ m) : ln (am Z) ≤ n + m := by
  have h1 : am Z = am A * am B := by rw [← h]; unfold am; exact Int.natAbs_mul A B
  rw [h1]
  exact ln_prod (Nat.lt_of_lt_of_le (ln_lt _) (pow_mono hA)) (Nat.lt_of_lt_of_le (ln_lt _) (pow_mono hB))
theorem sgn_mul_pos {x c : Int} (h : 0 < c) : sgn (x * c) = sgn x := by
  rcases Int.lt_trichotomy x 0 with h1 | h1 | h1
  · rw [sgn_neg h1, sgn_neg (Int.mul_neg_of_neg_of_pos h1 h)]
  · subst h1; rw [Int.zero_mul]
  · rw [sgn_pos h1, sgn_pos (Int.mul_pos h1 h)]
theorem sgn_opp (x : Int) : sgn (-x) = -(sgn x) := by
  rcases Int.lt_trichotomy x 0 with h1 | h1 | h1
  · rw [sgn_neg h1, sgn_pos (by omega)]; rfl
  · subst h1; rfl
  · rw [sgn_pos h1, sgn_neg (by omega)]
theorem sgn_le {x : Int} : sgn x ≤ 0 ↔ x ≤ 0 := by
  rcases Int.lt_trichotomy x 0 with h1 | h1 | h1
  · rw [sgn_neg h1]; omega
  · subst h1; rw [sgn_zero]
  · rw [sgn_pos h1]; omega

set_option maxHeartbeats 8000000 in
set_option maxRecDepth 100000 in
theorem walk (s0 : Bool) (a0 : Option Addr) (len0 cap0 X0 : Nat) (s1 : Bool) (a1 : Option Addr) (len1 cap1 X1 : Nat) (s2 : Bool) (a2 : Option Addr) (len2 cap2 X2 : Nat) (w : World) (hS0 : Seg w a0 X0 len0) (hc0 : len0 ≤ cap0) (hb0 : len0 ≤ 35184372087808) (hS1 : Seg w a1 X1 len1) (hc1 : len1 ≤ cap1) (hb1 : len1 ≤ 35184372087808) (hS2 : Seg w a2 X2 len2) (hc2 : len2 ≤ cap2) (hb2 : len2 ≤ 35184372087808) :
    Calls Try.prog 4 #[.agg #[.bool s0, .slice a0 len0 cap0], .agg #[.bool s1, .slice a1 len1 cap1], .agg #[.bool s2, .slice a2 len2 cap2]] w fun e w' => e = .returned (.bool true) ∧ Below w.heap.size w w' := by
  obtain ⟨A, hA⟩ : ∃ Z, sg s0 X0 = Z := ⟨_, rfl⟩
  obtain ⟨B, hB'⟩ : ∃ Z, sg s1 X1 = Z := ⟨_, rfl⟩
  obtain ⟨C, hC⟩ : ∃ Z, sg s2 X2 = Z := ⟨_, rfl⟩
  obtain ⟨Zac, hac⟩ : ∃ Z, A + C = Z := ⟨_, rfl⟩
  obtain ⟨Zbc, hbc⟩ : ∃ Z, B + C = Z := ⟨_, rfl⟩
  obtain ⟨Mac, mac⟩ : ∃ Z, A * C = Z := ⟨_, rfl⟩
  obtain ⟨Mbc, mbc⟩ : ∃ Z, B * C = Z := ⟨_, rfl⟩
  have E1 : Hid (sg s0 X0 + sg s2 X2 = Zac) := by show _ = _; rw [hA, hC]; exact hac
  have E2 : Hid (sg s1 X1 + sg s2 X2 = Zbc) := by show _ = _; rw [hB', hC]; exact hbc
  have E3 : Hid (sg s0 X0 * sg s2 X2 = Mac) := by show _ = _; rw [hA, hC]; exact mac
  have E4 : Hid (sg s1 X1 * sg s2 X2 = Mbc) := by show _ = _; rw [hB', hC]; exact mbc
  have lA : ln (am A) ≤ 35184372087808 := by rw [← hA, am_sg]; have := ln_le_of_lt hS0.1; omega
  have lB : ln (am B) ≤ 35184372087808 := by rw [← hB', am_sg]; have := ln_le_of_lt hS1.1; omega
  have lC : ln (am C) ≤ 35184372087808 := by rw [← hC, am_sg]; have := ln_le_of_lt hS2.1; omega
  have lac : ln (am Zac) ≤ 35184372087809 := ln_addI hac lA lC (by omega) (by omega)
  have lbc : ln (am Zbc) ≤ 35184372087809 := ln_addI hbc lB lC (by omega) (by omega)
  have kac : ln (am Mac) ≤ 70368744177664 := by have := ln_mulI mac lA lC; omega
  have kbc : ln (am Mbc) ≤ 70368744177664 := by have := ln_mulI mbc lB lC; omega
  obtain ⟨x, hx⟩ : ∃ x, sgn (A - B) = x := ⟨_, rfl⟩
  obtain ⟨y, hy⟩ : ∃ y, sgn (B - C) = y := ⟨_, rfl⟩
  obtain ⟨z, hz'⟩ : ∃ z, sgn (A - C) = z := ⟨_, rfl⟩
  have hxr := sgn_range (A - B)
  rw [hx] at hxr
  have hyr := sgn_range (B - C)
  rw [hy] at hyr
  have hzr := sgn_range (A - C)
  rw [hz'] at hzr
  have htr : x ≤ 0 → y ≤ 0 → z ≤ 0 := by rw [← hx, ← hy, ← hz', sgn_le, sgn_le, sgn_le]; omega
  have hneg : sgn (B - A) = -x := by rw [← hx, ← sgn_opp]; congr 1; omega
  have hsum : sgn (Zac - Zbc) = x := by rw [← hx, ← hac, ← hbc]; congr 1; omega
  have hmul : 0 < C → sgn (Mac - Mbc) = x := fun h => by rw [← hx, ← mac, ← mbc, ← Int.sub_mul, sgn_mul_pos h]
  have K1 : ∀ w', Seg w' a0 X0 len0 → Seg w' a1 X1 len1 → Calls Try.prog 14 #[.agg #[.bool s0, .slice a0 len0 cap0], .agg #[.bool s1, .slice a1 len1 cap1]] w' fun e w'' => e = .returned (.int .i64 x) ∧ Below w'.heap.size w' w'' :=
    fun w' h1 h2 => by have := wCmp_is s0 a0 len0 cap0 X0 s1 a1 len1 cap1 X1 w' hc0 (by omega) h1 hc1 (by omega) h2; rwa [hA, hB', hx] at this
  have K2 : ∀ w', Seg w' a1 X1 len1 → Seg w' a2 X2 len2 → Calls Try.prog 14 #[.agg #[.bool s1, .slice a1 len1 cap1], .agg #[.bool s2, .slice a2 len2 cap2]] w' fun e w'' => e = .returned (.int .i64 y) ∧ Below w'.heap.size w' w'' :=
    fun w' h1 h2 => by have := wCmp_is s1 a1 len1 cap1 X1 s2 a2 len2 cap2 X2 w' hc1 (by omega) h1 hc2 (by omega) h2; rwa [hC, hB', hy] at this
  have K3 : ∀ w', Seg w' a1 X1 len1 → Seg w' a0 X0 len0 → Calls Try.prog 14 #[.agg #[.bool s1, .slice a1 len1 cap1], .agg #[.bool s0, .slice a0 len0 cap0]] w' fun e w'' => e = .returned (.int .i64 (-x)) ∧ Below w'.heap.size w' w'' :=
    fun w' h1 h2 => by have := wCmp_is s1 a1 len1 cap1 X1 s0 a0 len0 cap0 X0 w' hc1 (by omega) h1 hc0 (by omega) h2; rwa [hA, hB', hneg] at this
  have K4 : ∀ w', Seg w' a0 X0 len0 → Seg w' a0 X0 len0 → Calls Try.prog 14 #[.agg #[.bool s0, .slice a0 len0 cap0], .agg #[.bool s0, .slice a0 len0 cap0]] w' fun e w'' => e = .returned (.int .i64 0) ∧ Below w'.heap.size w' w'' :=
    fun w' h1 h2 => by have := wCmp_is s0 a0 len0 cap0 X0 s0 a0 len0 cap0 X0 w' hc0 (by omega) h1 hc0 (by omega) h2; rwa [Int.sub_self, sgn_zero] at this
  have K5 : ∀ w', Seg w' a0 X0 len0 → Seg w' a2 X2 len2 → Calls Try.prog 14 #[.agg #[.bool s0, .slice a0 len0 cap0], .agg #[.bool s2, .slice a2 len2 cap2]] w' fun e w'' => e = .returned (.int .i64 z) ∧ Below w'.heap.size w' w'' :=
    fun w' h1 h2 => by have := wCmp_is s0 a0 len0 cap0 X0 s2 a2 len2 cap2 X2 w' hc0 (by omega) h1 hc2 (by omega) h2; rwa [hA, hC, hz'] at this
  have K6 : ∀ w' ao ao2, Seg w' ao (am Zac) (ln (am Zac)) → Seg w' ao2 (am Zbc) (ln (am Zbc)) → Calls Try.prog 14 #[.agg #[.bool (ng Zac), .slice ao (ln (am Zac)) (ln (am Zac))], .agg #[.bool (ng Zbc), .slice ao2 (ln (am Zbc)) (ln (am Zbc))]] w' fun e w'' => e = .returned (.int .i64 x) ∧ Below w'.heap.size w' w'' :=
    fun w' ao ao2 h1 h2 => by have := wCmp_is (ng Zac) ao _ _ (am Zac) (ng Zbc) ao2 _ _ (am Zbc) w' (Nat.le_refl _) (by omega) h1 (Nat.le_refl _) (by omega) h2; rwa [sg_na, sg_na, hsum] at this
  have K7 : 0 < C → ∀ w' ao ao2, Seg w' ao (am Mac) (ln (am Mac)) → Seg w' ao2 (am Mbc) (ln (am Mbc)) → Calls Try.prog 14 #[.agg #[.bool (ng Mac), .slice ao (ln (am Mac)) (ln (am Mac))], .agg #[.bool (ng Mbc), .slice ao2 (ln (am Mbc)) (ln (am Mbc))]] w' fun e w'' => e = .returned (.int .i64 x) ∧ Below w'.heap.size w' w'' :=
    fun h0 w' ao ao2 h1 h2 => by have := wCmp_is (ng Mac) ao _ _ (am Mac) (ng Mbc) ao2 _ _ (am Mbc) w' (Nat.le_refl _) (by omega) h1 (Nat.le_refl _) (by omega) h2; rwa [sg_na, sg_na, hmul h0] at this
  obtain ⟨q, hq⟩ : ∃ q, sgn C = q := ⟨_, rfl⟩
  have hqr := sgn_range C
  rw [hq] at hqr
  have hqC : 0 < q → 0 < C := by intro h; rcases Int.lt_or_le 0 C with h1 | h1; exact h1; have := (sgn_le (x := C)).2 h1; omega
  have K8 : ∀ w', Seg w' a2 X2 len2 → Calls Try.prog 15 #[.agg #[.bool s2, .slice a2 len2 cap2]] w' fun e w'' => e = .returned (.int .i64 q) ∧ Below w'.heap.size w' w'' :=
    fun w' h1 => by have := wSign_is s2 a2 len2 cap2 X2 C w' hc2 (by omega) h1 hC; rwa [hq] at this
  have HK1 := hide' K1
  have HK2 := hide' K2
  have HK3 := hide' K3
  have HK4 := hide' K4
  have HK5 := hide' K5
  have HK6 := hide' K6
  have HK7 := hide' K7
  have HK8 := hide' K8
  have HqC := hide' hqC
  have hxx : (x != x) = false := by simp
  have hxn : ((-x) != (-x)) = false := by simp
  clear K1 K2 K3 K4 K5 K6 K7 K8 hA hB' hC hac hbc mac mbc hx hy hz' hneg hsum hmul hq hqC
  by_cases hp : 0 < q
  · have hC0 := HqC.out hp
    by_cases hxy : x ≤ 0 ∧ y ≤ 0
    · obtain ⟨hx0, hy0⟩ := hxy
      have hz0 := htr hx0 hy0
      clear htr
      go_enter Try.func4, Try.ntmps4
      go_wp2_with fail
      have q00 : ((((w.alloc (.cells #[.bool s0, .slice a0 len0 cap0] 25)).alloc (.cells #[.bool s1, .slice a1 len1 cap1] 25)).alloc (.cells #[.bool s2, .slice a2 len2 cap2] 25))).cell? ⟨w.heap.size, 0, none⟩ = some (.bool s0) := by go_simp
      have q01 : ((((w.alloc (.cells #[.bool s0, .slice a0 len0 cap0] 25)).alloc (.cells #[.bool s1, .slice a1 len1 cap1] 25)).alloc (.cells #[.bool s2, .slice a2 len2 cap2] 25))).cell? ⟨w.heap.size, 1, none⟩ = some (.slice a0 len0 cap0) := by go_simp
      have q10 : ((((w.alloc (.cells #[.bool s0, .slice a0 len0 cap0] 25)).alloc (.cells #[.bool s1, .slice a1 len1 cap1] 25)).alloc (.cells #[.bool s2, .slice a2 len2 cap2] 25))).cell? ⟨w.heap.size + 1, 0, none⟩ = some (.bool s1) := by go_simp
      have q11 : ((((w.alloc (.cells #[.bool s0, .slice a0 len0 cap0] 25)).alloc (.cells #[.bool s1, .slice a1 len1 cap1] 25)).alloc (.cells #[.bool s2, .slice a2 len2 cap2] 25))).cell? ⟨w.heap.size + 1, 1, none⟩ = some (.slice a1 len1 cap1) := by go_simp
      have q20 : ((((w.alloc (.cells #[.bool s0, .slice a0 len0 cap0] 25)).alloc (.cells #[.bool s1, .slice a1 len1 cap1] 25)).alloc (.cells #[.bool s2, .slice a2 len2 cap2] 25))).cell? ⟨w.heap.size + 1 + 1, 0, none⟩ = some (.bool s2) := by go_simp
      have q21 : ((((w.alloc (.cells #[.bool s0, .slice a0 len0 cap0] 25)).alloc (.cells #[.bool s1, .slice a1 len1 cap1] 25)).alloc (.cells #[.bool s2, .slice a2 len2 cap2] 25))).cell? ⟨w.heap.size + 1 + 1, 1, none⟩ = some (.slice a2 len2 cap2) := by go_simp
      have hB : Below w.heap.size w ((((w.alloc (.cells #[.bool s0, .slice a0 len0 cap0] 25)).alloc (.cells #[.bool s1, .slice a1 len1 cap1] 25)).alloc (.cells #[.bool s2, .slice a2 len2 cap2] 25))) := ((((Below.refl _ _).alloc (by (try simp only [World.size_alloc]); omega) _).alloc (by (try simp only [World.size_alloc]); omega) _).alloc (by (try simp only [World.size_alloc]); omega) _)
      have hz : ((((w.alloc (.cells #[.bool s0, .slice a0 len0 cap0] 25)).alloc (.cells #[.bool s1, .slice a1 len1 cap1] 25)).alloc (.cells #[.bool s2, .slice a2 len2 cap2] 25))).heap.size = w.heap.size + 1 + 1 + 1 := by simp only [World.size_alloc]
      generalize (((w.alloc (.cells #[.bool s0, .slice a0 len0 cap0] 25)).alloc (.cells #[.bool s1, .slice a1 len1 cap1] 25)).alloc (.cells #[.bool s2, .slice a2 len2 cap2] 25)) = W at q00 q01 q10 q11 q20 q21 hB hz ⊢
      have hBW : Below W.heap.size W W := Below.refl _ _
      refine (HK1.out _ (sb hS0 hB hBW) (sb hS1 hB hBW)).mono ?_
      rintro e w3 ⟨rfl, b3⟩
      replace hBW := hBW.trans (b3.mono hBW.size)
      replace q00 := below_cell b3 q00
      replace q01 := below_cell b3 q01
      replace q10 := below_cell b3 q10
      replace q11 := below_cell b3 q11
      replace q20 := below_cell b3 q20
      replace q21 := below_cell b3 q21
      go_wp2_with fail
      refine (HK2.out _ (sb hS1 hB hBW) (sb hS2 hB hBW)).mono ?_
      rintro e w4 ⟨rfl, b4⟩
      replace hBW := hBW.trans (b4.mono hBW.size)
      replace q00 := below_cell b4 q00
      replace q01 := below_cell b4 q01
      replace q10 := below_cell b4 q10
      replace q11 := below_cell b4 q11
      replace q20 := below_cell b4 q20
      replace q21 := below_cell b4 q21
      go_wp2_with fail
      refine (HK3.out _ (sb hS1 hB hBW) (sb hS0 hB hBW)).mono ?_
      rintro e w5 ⟨rfl, b5⟩
      replace hBW := hBW.trans (b5.mono hBW.size)
      replace q00 := below_cell b5 q00
      replace q01 := below_cell b5 q01
      replace q10 := below_cell b5 q10
      replace q11 := below_cell b5 q11
      replace q20 := below_cell b5 q20
      replace q21 := below_cell b5 q21
      go_wp2_with fail
      refine (HK4.out _ (sb hS0 hB hBW) (sb hS0 hB hBW)).mono ?_
      rintro e w6 ⟨rfl, b6⟩
      replace hBW := hBW.trans (b6.mono hBW.size)
      replace q00 := below_cell b6 q00
      replace q01 := below_cell b6 q01
      replace q10 := below_cell b6 q10
      replace q11 := below_cell b6 q11
      replace q20 := below_cell b6 q20
      replace q21 := below_cell b6 q21
      go_wp2_with fail
      refine (HK5.out _ (sb hS0 hB hBW) (sb hS2 hB hBW)).mono ?_
      rintro e w7 ⟨rfl, b7⟩
      replace hBW := hBW.trans (b7.mono hBW.size)
      replace q00 := below_cell b7 q00
      replace q01 := below_cell b7 q01
      replace q10 := below_cell b7 q10
      replace q11 := below_cell b7 q11
      replace q20 := below_cell b7 q20
      replace q21 := below_cell b7 q21
      go_wp2_with fail
      replace hBW := hBW.drew
      first
        | go_region_held3 (fun w' => w'.cell? ⟨w.heap.size, 0, none⟩ = some (.bool s0) ∧ w'.cell? ⟨w.heap.size, 1, none⟩ = some (.slice a0 len0 cap0) ∧ w'.cell? ⟨w.heap.size + 1, 0, none⟩ = some (.bool s1) ∧ w'.cell? ⟨w.heap.size + 1, 1, none⟩ = some (.slice a1 len1 cap1) ∧ w'.cell? ⟨w.heap.size + 1 + 1, 0, none⟩ = some (.bool s2) ∧ w'.cell? ⟨w.heap.size + 1 + 1, 1, none⟩ = some (.slice a2 len2 cap2) ∧ Below w.heap.size w w')
            (first | exact ⟨q00, q01, q10, q11, q20, q21, hB.trans (hBW.mono hB.size)⟩ | exact kp6 b8 (by assumption) | exact kp6 b9 (by assumption) | exact kp6 b10 (by assumption) | exact kp6 (below_alloc _) (by assumption))
            (first
              | (go_at_call 8; go_at_call_of 8 (Value.agg #[Value.bool s0, Value.slice a0 len0 cap0]); go_at_call_of 8 (Value.agg #[Value.bool s2, Value.slice a2 len2 cap2]); refine (wAdd_is s0 a0 len0 cap0 X0 s2 a2 len2 cap2 X2 (Zac) _ (by omega) (by omega) (sb hS0 hB hBW) (by omega) (by omega) (sb hS2 hB hBW) E1.out).mono ?_; rintro e w8 ⟨a8, rfl, h8⟩; have b8 := h8.below; replace h8 := h8.back hBW; replace hBW := hBW.trans (b8.mono hBW.size); replace q00 := below_cell b8 q00; replace q01 := below_cell b8 q01; replace q10 := below_cell b8 q10; replace q11 := below_cell b8 q11; replace q20 := below_cell b8 q20; replace q21 := below_cell b8 q21)
              | (go_at_call 8; go_at_call_of 8 (Value.agg #[Value.bool s1, Value.slice a1 len1 cap1]); go_at_call_of 8 (Value.agg #[Value.bool s2, Value.slice a2 len2 cap2]); refine (wAdd_is s1 a1 len1 cap1 X1 s2 a2 len2 cap2 X2 (Zbc) _ (by omega) (by omega) (sb hS1 hB hBW) (by omega) (by omega) (sb hS2 hB hBW) E2.out).mono ?_; rintro e w9 ⟨a9, rfl, h9⟩; have b9 := h9.below; replace h9 := h9.back hBW; replace hBW := hBW.trans (b9.mono hBW.size); replace q00 := below_cell b9 q00; replace q01 := below_cell b9 q01; replace q10 := below_cell b9 q10; replace q11 := below_cell b9 q11; replace q20 := below_cell b9 q20; replace q21 := below_cell b9 q21; replace h8 := h8.later b9)
              | (go_at_call 14; go_at_call_of 14 (Value.agg #[Value.bool (ng Zac), Value.slice a8 (ln (am Zac)) (ln (am Zac))]); go_at_call_of 14 (Value.agg #[Value.bool (ng Zbc), Value.slice a9 (ln (am Zbc)) (ln (am Zbc))]); refine (HK6.out _ a8 a9 h8.seg h9.seg).mono ?_; rintro e w10 ⟨rfl, b10⟩; replace hBW := hBW.trans (b10.mono hBW.size); replace q00 := below_cell b10 q00; replace q01 := below_cell b10 q01; replace q10 := below_cell b10 q10; replace q11 := below_cell b10 q11; replace q20 := below_cell b10 q20; replace q21 := below_cell b10 q21; replace h8 := h8.later b10; replace h9 := h9.later b10))
        | fail
      clear h8 h9
      go_wp2_with fail
      replace hBW := hBW.drew
      first
        | go_region_held3 (fun w' => w'.cell? ⟨w.heap.size, 0, none⟩ = some (.bool s0) ∧ w'.cell? ⟨w.heap.size, 1, none⟩ = some (.slice a0 len0 cap0) ∧ w'.cell? ⟨w.heap.size + 1, 0, none⟩ = some (.bool s1) ∧ w'.cell? ⟨w.heap.size + 1, 1, none⟩ = some (.slice a1 len1 cap1) ∧ w'.cell? ⟨w.heap.size + 1 + 1, 0, none⟩ = some (.bool s2) ∧ w'.cell? ⟨w.heap.size + 1 + 1, 1, none⟩ = some (.slice a2 len2 cap2) ∧ Below w.heap.size w w')
            (first | exact ⟨q00, q01, q10, q11, q20, q21, hB.trans (hBW.mono hB.size)⟩ | exact kp6 b11 (by assumption) | exact kp6 b12 (by assumption) | exact kp6 b13 (by assumption) | exact kp6 b14 (by assumption) | exact kp6 (below_alloc _) (by assumption))
            (first
              | (go_at_call 15; go_at_call_of 15 (Value.agg #[Value.bool s2, Value.slice a2 len2 cap2]); refine (HK8.out _ (sb hS2 hB hBW)).mono ?_; rintro e w11 ⟨rfl, b11⟩; replace hBW := hBW.trans (b11.mono hBW.size); replace q00 := below_cell b11 q00; replace q01 := below_cell b11 q01; replace q10 := below_cell b11 q10; replace q11 := below_cell b11 q11; replace q20 := below_cell b11 q20; replace q21 := below_cell b11 q21)
              | (go_at_call 10; go_at_call_of 10 (Value.agg #[Value.bool s0, Value.slice a0 len0 cap0]); go_at_call_of 10 (Value.agg #[Value.bool s2, Value.slice a2 len2 cap2]); refine (wMul_is s0 a0 len0 cap0 X0 s2 a2 len2 cap2 X2 (Mac) _ (by omega) (by omega) (sb hS0 hB hBW) (by omega) (by omega) (sb hS2 hB hBW) E3.out).mono ?_; rintro e w12 ⟨a12, rfl, h12⟩; have b12 := h12.below; replace h12 := h12.back hBW; replace hBW := hBW.trans (b12.mono hBW.size); replace q00 := below_cell b12 q00; replace q01 := below_cell b12 q01; replace q10 := below_cell b12 q10; replace q11 := below_cell b12 q11; replace q20 := below_cell b12 q20; replace q21 := below_cell b12 q21)
              | (go_at_call 10; go_at_call_of 10 (Value.agg #[Value.bool s1, Value.slice a1 len1 cap1]); go_at_call_of 10 (Value.agg #[Value.bool s2, Value.slice a2 len2 cap2]); refine (wMul_is s1 a1 len1 cap1 X1 s2 a2 len2 cap2 X2 (Mbc) _ (by omega) (by omega) (sb hS1 hB hBW) (by omega) (by omega) (sb hS2 hB hBW) E4.out).mono ?_; rintro e w13 ⟨a13, rfl, h13⟩; have b13 := h13.below; replace h13 := h13.back hBW; replace hBW := hBW.trans (b13.mono hBW.size); replace q00 := below_cell b13 q00; replace q01 := below_cell b13 q01; replace q10 := below_cell b13 q10; replace q11 := below_cell b13 q11; replace q20 := below_cell b13 q20; replace q21 := below_cell b13 q21; replace h12 := h12.later b13)
              | (go_at_call 14; go_at_call_of 14 (Value.agg #[Value.bool (ng Mac), Value.slice a12 (ln (am Mac)) (ln (am Mac))]); go_at_call_of 14 (Value.agg #[Value.bool (ng Mbc), Value.slice a13 (ln (am Mbc)) (ln (am Mbc))]); refine (HK7.out hC0 _ a12 a13 h12.seg h13.seg).mono ?_; rintro e w14 ⟨rfl, b14⟩; replace hBW := hBW.trans (b14.mono hBW.size); replace q00 := below_cell b14 q00; replace q01 := below_cell b14 q01; replace q10 := below_cell b14 q10; replace q11 := below_cell b14 q11; replace q20 := below_cell b14 q20; replace q21 := below_cell b14 q21; replace h12 := h12.later b14; replace h13 := h13.later b14))
        | fail
      clear h12 h13
      go_wp2_with fail
      refine (awake_is _).mono ?_
      rintro e w15 ⟨rfl, b15⟩
      replace hBW := hBW.trans (b15.mono hBW.size)
      replace q00 := below_cell b15 q00
      replace q01 := below_cell b15 q01
      replace q10 := below_cell b15 q10
      replace q11 := below_cell b15 q11
      replace q20 := below_cell b15 q20
      replace q21 := below_cell b15 q21
      go_wp2
      go_ret
      exact ⟨rfl, hB.trans (hBW.mono hB.size)⟩
    · clear htr
      by_cases hx0 : x ≤ 0
      · have hy0 : ¬ y ≤ 0 := fun h => hxy ⟨hx0, h⟩
        clear hxy
        go_enter Try.func4, Try.ntmps4
        go_wp2_with fail
        have q00 : ((((w.alloc (.cells #[.bool s0, .slice a0 len0 cap0] 25)).alloc (.cells #[.bool s1, .slice a1 len1 cap1] 25)).alloc (.cells #[.bool s2, .slice a2 len2 cap2] 25))).cell? ⟨w.heap.size, 0, none⟩ = some (.bool s0) := by go_simp
        have q01 : ((((w.alloc (.cells #[.bool s0, .slice a0 len0 cap0] 25)).alloc (.cells #[.bool s1, .slice a1 len1 cap1] 25)).alloc (.cells #[.bool s2, .slice a2 len2 cap2] 25))).cell? ⟨w.heap.size, 1, none⟩ = some (.slice a0 len0 cap0) := by go_simp
        have q10 : ((((w.alloc (.cells #[.bool s0, .slice a0 len0 cap0] 25)).alloc (.cells #[.bool s1, .slice a1 len1 cap1] 25)).alloc (.cells #[.bool s2, .slice a2 len2 cap2] 25))).cell? ⟨w.heap.size + 1, 0, none⟩ = some (.bool s1) := by go_simp
        have q11 : ((((w.alloc (.cells #[.bool s0, .slice a0 len0 cap0] 25)).alloc (.cells #[.bool s1, .slice a1 len1 cap1] 25)).alloc (.cells #[.bool s2, .slice a2 len2 cap2] 25))).cell? ⟨w.heap.size + 1, 1, none⟩ = some (.slice a1 len1 cap1) := by go_simp
        have q20 : ((((w.alloc (.cells #[.bool s0, .slice a0 len0 cap0] 25)).alloc (.cells #[.bool s1, .slice a1 len1 cap1] 25)).alloc (.cells #[.bool s2, .slice a2 len2 cap2] 25))).cell? ⟨w.heap.size + 1 + 1, 0, none⟩ = some (.bool s2) := by go_simp
        have q21 : ((((w.alloc (.cells #[.bool s0, .slice a0 len0 cap0] 25)).alloc (.cells #[.bool s1, .slice a1 len1 cap1] 25)).alloc (.cells #[.bool s2, .slice a2 len2 cap2] 25))).cell? ⟨w.heap.size + 1 + 1, 1, none⟩ = some (.slice a2 len2 cap2) := by go_simp
        have hB : Below w.heap.size w ((((w.alloc (.cells #[.bool s0, .slice a0 len0 cap0] 25)).alloc (.cells #[.bool s1, .slice a1 len1 cap1] 25)).alloc (.cells #[.bool s2, .slice a2 len2 cap2] 25))) := ((((Below.refl _ _).alloc (by (try simp only [World.size_alloc]); omega) _).alloc (by (try simp only [World.size_alloc]); omega) _).alloc (by (try simp only [World.size_alloc]); omega) _)
        have hz : ((((w.alloc (.cells #[.bool s0, .slice a0 len0 cap0] 25)).alloc (.cells #[.bool s1, .slice a1 len1 cap1] 25)).alloc (.cells #[.bool s2, .slice a2 len2 cap2] 25))).heap.size = w.heap.size + 1 + 1 + 1 := by simp only [World.size_alloc]
        generalize (((w.alloc (.cells #[.bool s0, .slice a0 len0 cap0] 25)).alloc (.cells #[.bool s1, .slice a1 len1 cap1] 25)).alloc (.cells #[.bool s2, .slice a2 len2 cap2] 25)) = W at q00 q01 q10 q11 q20 q21 hB hz ⊢
        have hBW : Below W.heap.size W W := Below.refl _ _
        refine (HK1.out _ (sb hS0 hB hBW) (sb hS1 hB hBW)).mono ?_
        rintro e w3 ⟨rfl, b3⟩
        replace hBW := hBW.trans (b3.mono hBW.size)
        replace q00 := below_cell b3 q00
        replace q01 := below_cell b3 q01
        replace q10 := below_cell b3 q10
        replace q11 := below_cell b3 q11
        replace q20 := below_cell b3 q20
        replace q21 := below_cell b3 q21
        go_wp2_with fail
        refine (HK2.out _ (sb hS1 hB hBW) (sb hS2 hB hBW)).mono ?_
        rintro e w4 ⟨rfl, b4⟩
        replace hBW := hBW.trans (b4.mono hBW.size)
        replace q00 := below_cell b4 q00
        replace q01 := below_cell b4 q01
        replace q10 := below_cell b4 q10
        replace q11 := below_cell b4 q11
        replace q20 := below_cell b4 q20
        replace q21 := below_cell b4 q21
        go_wp2_with fail
        refine (HK3.out _ (sb hS1 hB hBW) (sb hS0 hB hBW)).mono ?_
        rintro e w5 ⟨rfl, b5⟩
        replace hBW := hBW.trans (b5.mono hBW.size)
        replace q00 := below_cell b5 q00
        replace q01 := below_cell b5 q01
        replace q10 := below_cell b5 q10
        replace q11 := below_cell b5 q11
        replace q20 := below_cell b5 q20
        replace q21 := below_cell b5 q21
        go_wp2_with fail
        refine (HK4.out _ (sb hS0 hB hBW) (sb hS0 hB hBW)).mono ?_
        rintro e w6 ⟨rfl, b6⟩
        replace hBW := hBW.trans (b6.mono hBW.size)
        replace q00 := below_cell b6 q00
        replace q01 := below_cell b6 q01
        replace q10 := below_cell b6 q10
        replace q11 := below_cell b6 q11
        replace q20 := below_cell b6 q20
        replace q21 := below_cell b6 q21
        go_wp2_with fail
        replace hBW := hBW.drew
        first
          | go_region_held3 (fun w' => w'.cell? ⟨w.heap.size, 0, none⟩ = some (.bool s0) ∧ w'.cell? ⟨w.heap.size, 1, none⟩ = some (.slice a0 len0 cap0) ∧ w'.cell? ⟨w.heap.size + 1, 0, none⟩ = some (.bool s1) ∧ w'.cell? ⟨w.heap.size + 1, 1, none⟩ = some (.slice a1 len1 cap1) ∧ w'.cell? ⟨w.heap.size + 1 + 1, 0, none⟩ = some (.bool s2) ∧ w'.cell? ⟨w.heap.size + 1 + 1, 1, none⟩ = some (.slice a2 len2 cap2) ∧ Below w.heap.size w w')
              (first | exact ⟨q00, q01, q10, q11, q20, q21, hB.trans (hBW.mono hB.size)⟩ | exact kp6 b7 (by assumption) | exact kp6 b8 (by assumption) | exact kp6 b9 (by assumption) | exact kp6 (below_alloc _) (by assumption))
              (first
                | (go_at_call 8; go_at_call_of 8 (Value.agg #[Value.bool s0, Value.slice a0 len0 cap0]); go_at_call_of 8 (Value.agg #[Value.bool s2, Value.slice a2 len2 cap2]); refine (wAdd_is s0 a0 len0 cap0 X0 s2 a2 len2 cap2 X2 (Zac) _ (by omega) (by omega) (sb hS0 hB hBW) (by omega) (by omega) (sb hS2 hB hBW) E1.out).mono ?_; rintro e w7 ⟨a7, rfl, h7⟩; have b7 := h7.below; replace h7 := h7.back hBW; replace hBW := hBW.trans (b7.mono hBW.size); replace q00 := below_cell b7 q00; replace q01 := below_cell b7 q01; replace q10 := below_cell b7 q10; replace q11 := below_cell b7 q11; replace q20 := below_cell b7 q20; replace q21 := below_cell b7 q21)
                | (go_at_call 8; go_at_call_of 8 (Value.agg #[Value.bool s1, Value.slice a1 len1 cap1]); go_at_call_of 8 (Value.agg #[Value.bool s2, Value.slice a2 len2 cap2]); refine (wAdd_is s1 a1 len1 cap1 X1 s2 a2 len2 cap2 X2 (Zbc) _ (by omega) (by omega) (sb hS1 hB hBW) (by omega) (by omega) (sb hS2 hB hBW) E2.out).mono ?_; rintro e w8 ⟨a8, rfl, h8⟩; have b8 := h8.below; replace h8 := h8.back hBW; replace hBW := hBW.trans (b8.mono hBW.size); replace q00 := below_cell b8 q00; replace q01 := below_cell b8 q01; replace q10 := below_cell b8 q10; replace q11 := below_cell b8 q11; replace q20 := below_cell b8 q20; replace q21 := below_cell b8 q21; replace h7 := h7.later b8)
                | (go_at_call 14; go_at_call_of 14 (Value.agg #[Value.bool (ng Zac), Value.slice a7 (ln (am Zac)) (ln (am Zac))]); go_at_call_of 14 (Value.agg #[Value.bool (ng Zbc), Value.slice a8 (ln (am Zbc)) (ln (am Zbc))]); refine (HK6.out _ a7 a8 h7.seg h8.seg).mono ?_; rintro e w9 ⟨rfl, b9⟩; replace hBW := hBW.trans (b9.mono hBW.size); replace q00 := below_cell b9 q00; replace q01 := below_cell b9 q01; replace q10 := below_cell b9 q10; replace q11 := below_cell b9 q11; replace q20 := below_cell b9 q20; replace q21 := below_cell b9 q21; replace h7 := h7.later b9; replace h8 := h8.later b9))
          | fail
        clear h7 h8
        go_wp2_with fail
        replace hBW := hBW.drew
        first
          | go_region_held3 (fun w' => w'.cell? ⟨w.heap.size, 0, none⟩ = some (.bool s0) ∧ w'.cell? ⟨w.heap.size, 1, none⟩ = some (.slice a0 len0 cap0) ∧ w'.cell? ⟨w.heap.size + 1, 0, none⟩ = some (.bool s1) ∧ w'.cell? ⟨w.heap.size + 1, 1, none⟩ = some (.slice a1 len1 cap1) ∧ w'.cell? ⟨w.heap.size + 1 + 1, 0, none⟩ = some (.bool s2) ∧ w'.cell? ⟨w.heap.size + 1 + 1, 1, none⟩ = some (.slice a2 len2 cap2) ∧ Below w.heap.size w w')
              (first | exact ⟨q00, q01, q10, q11, q20, q21, hB.trans (hBW.mono hB.size)⟩ | exact kp6 b10 (by assumption) | exact kp6 b11 (by assumption) | exact kp6 b12 (by assumption) | exact kp6 b13 (by assumption) | exact kp6 (below_alloc _) (by assumption))
              (first
                | (go_at_call 15; go_at_call_of 15 (Value.agg #[Value.bool s2, Value.slice a2 len2 cap2]); refine (HK8.out _ (sb hS2 hB hBW)).mono ?_; rintro e w10 ⟨rfl, b10⟩; replace hBW := hBW.trans (b10.mono hBW.size); replace q00 := below_cell b10 q00; replace q01 := below_cell b10 q01; replace q10 := below_cell b10 q10; replace q11 := below_cell b10 q11; replace q20 := below_cell b10 q20; replace q21 := below_cell b10 q21)
                | (go_at_call 10; go_at_call_of 10 (Value.agg #[Value.bool s0, Value.slice a0 len0 cap0]); go_at_call_of 10 (Value.agg #[Value.bool s2, Value.slice a2 len2 cap2]); refine (wMul_is s0 a0 len0 cap0 X0 s2 a2 len2 cap2 X2 (Mac) _ (by omega) (by omega) (sb hS0 hB hBW) (by omega) (by omega) (sb hS2 hB hBW) E3.out).mono ?_; rintro e w11 ⟨a11, rfl, h11⟩; have b11 := h11.below; replace h11 := h11.back hBW; replace hBW := hBW.trans (b11.mono hBW.size); replace q00 := below_cell b11 q00; replace q01 := below_cell b11 q01; replace q10 := below_cell b11 q10; replace q11 := below_cell b11 q11; replace q20 := below_cell b11 q20; replace q21 := below_cell b11 q21)
                | (go_at_call 10; go_at_call_of 10 (Value.agg #[Value.bool s1, Value.slice a1 len1 cap1]); go_at_call_of 10 (Value.agg #[Value.bool s2, Value.slice a2 len2 cap2]); refine (wMul_is s1 a1 len1 cap1 X1 s2 a2 len2 cap2 X2 (Mbc) _ (by omega) (by omega) (sb hS1 hB hBW) (by omega) (by omega) (sb hS2 hB hBW) E4.out).mono ?_; rintro e w12 ⟨a12, rfl, h12⟩; have b12 := h12.below; replace h12 := h12.back hBW; replace hBW := hBW.trans (b12.mono hBW.size); replace q00 := below_cell b12 q00; replace q01 := below_cell b12 q01; replace q10 := below_cell b12 q10; replace q11 := below_cell b12 q11; replace q20 := below_cell b12 q20; replace q21 := below_cell b12 q21; replace h11 := h11.later b12)
                | (go_at_call 14; go_at_call_of 14 (Value.agg #[Value.bool (ng Mac), Value.slice a11 (ln (am Mac)) (ln (am Mac))]); go_at_call_of 14 (Value.agg #[Value.bool (ng Mbc), Value.slice a12 (ln (am Mbc)) (ln (am Mbc))]); refine (HK7.out hC0 _ a11 a12 h11.seg h12.seg).mono ?_; rintro e w13 ⟨rfl, b13⟩; replace hBW := hBW.trans (b13.mono hBW.size); replace q00 := below_cell b13 q00; replace q01 := below_cell b13 q01; replace q10 := below_cell b13 q10; replace q11 := below_cell b13 q11; replace q20 := below_cell b13 q20; replace q21 := below_cell b13 q21; replace h11 := h11.later b13; replace h12 := h12.later b13))
          | fail
        clear h11 h12
        go_wp2_with fail
        refine (awake_is _).mono ?_
        rintro e w14 ⟨rfl, b14⟩
        replace hBW := hBW.trans (b14.mono hBW.size)
        replace q00 := below_cell b14 q00
        replace q01 := below_cell b14 q01
        replace q10 := below_cell b14 q10
        replace q11 := below_cell b14 q11
        replace q20 := below_cell b14 q20
        replace q21 := below_cell b14 q21
        go_wp2
        go_ret
        exact ⟨rfl, hB.trans (hBW.mono hB.size)⟩
      · clear hxy
        go_enter Try.func4, Try.ntmps4
        go_wp2_with fail
        have q00 : ((((w.alloc (.cells #[.bool s0, .slice a0 len0 cap0] 25)).alloc (.cells #[.bool s1, .slice a1 len1 cap1] 25)).alloc (.cells #[.bool s2, .slice a2 len2 cap2] 25))).cell? ⟨w.heap.size, 0, none⟩ = some (.bool s0) := by go_simp
        have q01 : ((((w.alloc (.cells #[.bool s0, .slice a0 len0 cap0] 25)).alloc (.cells #[.bool s1, .slice a1 len1 cap1] 25)).alloc (.cells #[.bool s2, .slice a2 len2 cap2] 25))).cell? ⟨w.heap.size, 1, none⟩ = some (.slice a0 len0 cap0) := by go_simp
        have q10 : ((((w.alloc (.cells #[.bool s0, .slice a0 len0 cap0] 25)).alloc (.cells #[.bool s1, .slice a1 len1 cap1] 25)).alloc (.cells #[.bool s2, .slice a2 len2 cap2] 25))).cell? ⟨w.heap.size + 1, 0, none⟩ = some (.bool s1) := by go_simp
        have q11 : ((((w.alloc (.cells #[.bool s0, .slice a0 len0 cap0] 25)).alloc (.cells #[.bool s1, .slice a1 len1 cap1] 25)).alloc (.cells #[.bool s2, .slice a2 len2 cap2] 25))).cell? ⟨w.heap.size + 1, 1, none⟩ = some (.slice a1 len1 cap1) := by go_simp
        have q20 : ((((w.alloc (.cells #[.bool s0, .slice a0 len0 cap0] 25)).alloc (.cells #[.bool s1, .slice a1 len1 cap1] 25)).alloc (.cells #[.bool s2, .slice a2 len2 cap2] 25))).cell? ⟨w.heap.size + 1 + 1, 0, none⟩ = some (.bool s2) := by go_simp
        have q21 : ((((w.alloc (.cells #[.bool s0, .slice a0 len0 cap0] 25)).alloc (.cells #[.bool s1, .slice a1 len1 cap1] 25)).alloc (.cells #[.bool s2, .slice a2 len2 cap2] 25))).cell? ⟨w.heap.size + 1 + 1, 1, none⟩ = some (.slice a2 len2 cap2) := by go_simp
        have hB : Below w.heap.size w ((((w.alloc (.cells #[.bool s0, .slice a0 len0 cap0] 25)).alloc (.cells #[.bool s1, .slice a1 len1 cap1] 25)).alloc (.cells #[.bool s2, .slice a2 len2 cap2] 25))) := ((((Below.refl _ _).alloc (by (try simp only [World.size_alloc]); omega) _).alloc (by (try simp only [World.size_alloc]); omega) _).alloc (by (try simp only [World.size_alloc]); omega) _)
        have hz : ((((w.alloc (.cells #[.bool s0, .slice a0 len0 cap0] 25)).alloc (.cells #[.bool s1, .slice a1 len1 cap1] 25)).alloc (.cells #[.bool s2, .slice a2 len2 cap2] 25))).heap.size = w.heap.size + 1 + 1 + 1 := by simp only [World.size_alloc]
        generalize (((w.alloc (.cells #[.bool s0, .slice a0 len0 cap0] 25)).alloc (.cells #[.bool s1, .slice a1 len1 cap1] 25)).alloc (.cells #[.bool s2, .slice a2 len2 cap2] 25)) = W at q00 q01 q10 q11 q20 q21 hB hz ⊢
        have hBW : Below W.heap.size W W := Below.refl _ _
        refine (HK1.out _ (sb hS0 hB hBW) (sb hS1 hB hBW)).mono ?_
        rintro e w3 ⟨rfl, b3⟩
        replace hBW := hBW.trans (b3.mono hBW.size)
        replace q00 := below_cell b3 q00
        replace q01 := below_cell b3 q01
        replace q10 := below_cell b3 q10
        replace q11 := below_cell b3 q11
        replace q20 := below_cell b3 q20
        replace q21 := below_cell b3 q21
        go_wp2_with fail
        refine (HK2.out _ (sb hS1 hB hBW) (sb hS2 hB hBW)).mono ?_
        rintro e w4 ⟨rfl, b4⟩
        replace hBW := hBW.trans (b4.mono hBW.size)
        replace q00 := below_cell b4 q00
        replace q01 := below_cell b4 q01
        replace q10 := below_cell b4 q10
        replace q11 := below_cell b4 q11
        replace q20 := below_cell b4 q20
        replace q21 := below_cell b4 q21
        go_wp2_with fail
        refine (HK3.out _ (sb hS1 hB hBW) (sb hS0 hB hBW)).mono ?_
        rintro e w5 ⟨rfl, b5⟩
        replace hBW := hBW.trans (b5.mono hBW.size)
        replace q00 := below_cell b5 q00
        replace q01 := below_cell b5 q01
        replace q10 := below_cell b5 q10
        replace q11 := below_cell b5 q11
        replace q20 := below_cell b5 q20
        replace q21 := below_cell b5 q21
        go_wp2_with fail
        refine (HK4.out _ (sb hS0 hB hBW) (sb hS0 hB hBW)).mono ?_
        rintro e w6 ⟨rfl, b6⟩
        replace hBW := hBW.trans (b6.mono hBW.size)
        replace q00 := below_cell b6 q00
        replace q01 := below_cell b6 q01
        replace q10 := below_cell b6 q10
        replace q11 := below_cell b6 q11
        replace q20 := below_cell b6 q20
        replace q21 := below_cell b6 q21
        go_wp2_with fail
        replace hBW := hBW.drew
        first
          | go_region_held3 (fun w' => w'.cell? ⟨w.heap.size, 0, none⟩ = some (.bool s0) ∧ w'.cell? ⟨w.heap.size, 1, none⟩ = some (.slice a0 len0 cap0) ∧ w'.cell? ⟨w.heap.size + 1, 0, none⟩ = some (.bool s1) ∧ w'.cell? ⟨w.heap.size + 1, 1, none⟩ = some (.slice a1 len1 cap1) ∧ w'.cell? ⟨w.heap.size + 1 + 1, 0, none⟩ = some (.bool s2) ∧ w'.cell? ⟨w.heap.size + 1 + 1, 1, none⟩ = some (.slice a2 len2 cap2) ∧ Below w.heap.size w w')
              (first | exact ⟨q00, q01, q10, q11, q20, q21, hB.trans (hBW.mono hB.size)⟩ | exact kp6 b7 (by assumption) | exact kp6 b8 (by assumption) | exact kp6 b9 (by assumption) | exact kp6 (below_alloc _) (by assumption))
              (first
                | (go_at_call 8; go_at_call_of 8 (Value.agg #[Value.bool s0, Value.slice a0 len0 cap0]); go_at_call_of 8 (Value.agg #[Value.bool s2, Value.slice a2 len2 cap2]); refine (wAdd_is s0 a0 len0 cap0 X0 s2 a2 len2 cap2 X2 (Zac) _ (by omega) (by omega) (sb hS0 hB hBW) (by omega) (by omega) (sb hS2 hB hBW) E1.out).mono ?_; rintro e w7 ⟨a7, rfl, h7⟩; have b7 := h7.below; replace h7 := h7.back hBW; replace hBW := hBW.trans (b7.mono hBW.size); replace q00 := below_cell b7 q00; replace q01 := below_cell b7 q01; replace q10 := below_cell b7 q10; replace q11 := below_cell b7 q11; replace q20 := below_cell b7 q20; replace q21 := below_cell b7 q21)
                | (go_at_call 8; go_at_call_of 8 (Value.agg #[Value.bool s1, Value.slice a1 len1 cap1]); go_at_call_of 8 (Value.agg #[Value.bool s2, Value.slice a2 len2 cap2]); refine (wAdd_is s1 a1 len1 cap1 X1 s2 a2 len2 cap2 X2 (Zbc) _ (by omega) (by omega) (sb hS1 hB hBW) (by omega) (by omega) (sb hS2 hB hBW) E2.out).mono ?_; rintro e w8 ⟨a8, rfl, h8⟩; have b8 := h8.below; replace h8 := h8.back hBW; replace hBW := hBW.trans (b8.mono hBW.size); replace q00 := below_cell b8 q00; replace q01 := below_cell b8 q01; replace q10 := below_cell b8 q10; replace q11 := below_cell b8 q11; replace q20 := below_cell b8 q20; replace q21 := below_cell b8 q21; replace h7 := h7.later b8)
                | (go_at_call 14; go_at_call_of 14 (Value.agg #[Value.bool (ng Zac), Value.slice a7 (ln (am Zac)) (ln (am Zac))]); go_at_call_of 14 (Value.agg #[Value.bool (ng Zbc), Value.slice a8 (ln (am Zbc)) (ln (am Zbc))]); refine (HK6.out _ a7 a8 h7.seg h8.seg).mono ?_; rintro e w9 ⟨rfl, b9⟩; replace hBW := hBW.trans (b9.mono hBW.size); replace q00 := below_cell b9 q00; replace q01 := below_cell b9 q01; replace q10 := below_cell b9 q10; replace q11 := below_cell b9 q11; replace q20 := below_cell b9 q20; replace q21 := below_cell b9 q21; replace h7 := h7.later b9; replace h8 := h8.later b9))
          | fail
        clear h7 h8
        go_wp2_with fail
        replace hBW := hBW.drew
        first
          | go_region_held3 (fun w' => w'.cell? ⟨w.heap.size, 0, none⟩ = some (.bool s0) ∧ w'.cell? ⟨w.heap.size, 1, none⟩ = some (.slice a0 len0 cap0) ∧ w'.cell? ⟨w.heap.size + 1, 0, none⟩ = some (.bool s1) ∧ w'.cell? ⟨w.heap.size + 1, 1, none⟩ = some (.slice a1 len1 cap1) ∧ w'.cell? ⟨w.heap.size + 1 + 1, 0, none⟩ = some (.bool s2) ∧ w'.cell? ⟨w.heap.size + 1 + 1, 1, none⟩ = some (.slice a2 len2 cap2) ∧ Below w.heap.size w w')
              (first | exact ⟨q00, q01, q10, q11, q20, q21, hB.trans (hBW.mono hB.size)⟩ | exact kp6 b10 (by assumption) | exact kp6 b11 (by assumption) | exact kp6 b12 (by assumption) | exact kp6 b13 (by assumption) | exact kp6 (below_alloc _) (by assumption))
              (first
                | (go_at_call 15; go_at_call_of 15 (Value.agg #[Value.bool s2, Value.slice a2 len2 cap2]); refine (HK8.out _ (sb hS2 hB hBW)).mono ?_; rintro e w10 ⟨rfl, b10⟩; replace hBW := hBW.trans (b10.mono hBW.size); replace q00 := below_cell b10 q00; replace q01 := below_cell b10 q01; replace q10 := below_cell b10 q10; replace q11 := below_cell b10 q11; replace q20 := below_cell b10 q20; replace q21 := below_cell b10 q21)
                | (go_at_call 10; go_at_call_of 10 (Value.agg #[Value.bool s0, Value.slice a0 len0 cap0]); go_at_call_of 10 (Value.agg #[Value.bool s2, Value.slice a2 len2 cap2]); refine (wMul_is s0 a0 len0 cap0 X0 s2 a2 len2 cap2 X2 (Mac) _ (by omega) (by omega) (sb hS0 hB hBW) (by omega) (by omega) (sb hS2 hB hBW) E3.out).mono ?_; rintro e w11 ⟨a11, rfl, h11⟩; have b11 := h11.below; replace h11 := h11.back hBW; replace hBW := hBW.trans (b11.mono hBW.size); replace q00 := below_cell b11 q00; replace q01 := below_cell b11 q01; replace q10 := below_cell b11 q10; replace q11 := below_cell b11 q11; replace q20 := below_cell b11 q20; replace q21 := below_cell b11 q21)
                | (go_at_call 10; go_at_call_of 10 (Value.agg #[Value.bool s1, Value.slice a1 len1 cap1]); go_at_call_of 10 (Value.agg #[Value.bool s2, Value.slice a2 len2 cap2]); refine (wMul_is s1 a1 len1 cap1 X1 s2 a2 len2 cap2 X2 (Mbc) _ (by omega) (by omega) (sb hS1 hB hBW) (by omega) (by omega) (sb hS2 hB hBW) E4.out).mono ?_; rintro e w12 ⟨a12, rfl, h12⟩; have b12 := h12.below; replace h12 := h12.back hBW; replace hBW := hBW.trans (b12.mono hBW.size); replace q00 := below_cell b12 q00; replace q01 := below_cell b12 q01; replace q10 := below_cell b12 q10; replace q11 := below_cell b12 q11; replace q20 := below_cell b12 q20; replace q21 := below_cell b12 q21; replace h11 := h11.later b12)
                | (go_at_call 14; go_at_call_of 14 (Value.agg #[Value.bool (ng Mac), Value.slice a11 (ln (am Mac)) (ln (am Mac))]); go_at_call_of 14 (Value.agg #[Value.bool (ng Mbc), Value.slice a12 (ln (am Mbc)) (ln (am Mbc))]); refine (HK7.out hC0 _ a11 a12 h11.seg h12.seg).mono ?_; rintro e w13 ⟨rfl, b13⟩; replace hBW := hBW.trans (b13.mono hBW.size); replace q00 := below_cell b13 q00; replace q01 := below_cell b13 q01; replace q10 := below_cell b13 q10; replace q11 := below_cell b13 q11; replace q20 := below_cell b13 q20; replace q21 := below_cell b13 q21; replace h11 := h11.later b13; replace h12 := h12.later b13))
          | fail
        clear h11 h12
        go_wp2_with fail
        refine (awake_is _).mono ?_
        rintro e w14 ⟨rfl, b14⟩
        replace hBW := hBW.trans (b14.mono hBW.size)
        replace q00 := below_cell b14 q00
        replace q01 := below_cell b14 q01
        replace q10 := below_cell b14 q10
        replace q11 := below_cell b14 q11
        replace q20 := below_cell b14 q20
        replace q21 := below_cell b14 q21
        go_wp2
        go_ret
        exact ⟨rfl, hB.trans (hBW.mono hB.size)⟩
  · have hp0 : (0 < q) = False := eq_false hp
    clear hp
    by_cases hxy : x ≤ 0 ∧ y ≤ 0
    · obtain ⟨hx0, hy0⟩ := hxy
      have hz0 := htr hx0 hy0
      clear htr
      go_enter Try.func4, Try.ntmps4
      go_wp2_with fail
      have q00 : ((((w.alloc (.cells #[.bool s0, .slice a0 len0 cap0] 25)).alloc (.cells #[.bool s1, .slice a1 len1 cap1] 25)).alloc (.cells #[.bool s2, .slice a2 len2 cap2] 25))).cell? ⟨w.heap.size, 0, none⟩ = some (.bool s0) := by go_simp
      have q01 : ((((w.alloc (.cells #[.bool s0, .slice a0 len0 cap0] 25)).alloc (.cells #[.bool s1, .slice a1 len1 cap1] 25)).alloc (.cells #[.bool s2, .slice a2 len2 cap2] 25))).cell? ⟨w.heap.size, 1, none⟩ = some (.slice a0 len0 cap0) := by go_simp
      have q10 : ((((w.alloc (.cells #[.bool s0, .slice a0 len0 cap0] 25)).alloc (.cells #[.bool s1, .slice a1 len1 cap1] 25)).alloc (.cells #[.bool s2, .slice a2 len2 cap2] 25))).cell? ⟨w.heap.size + 1, 0, none⟩ = some (.bool s1) := by go_simp
      have q11 : ((((w.alloc (.cells #[.bool s0, .slice a0 len0 cap0] 25)).alloc (.cells #[.bool s1, .slice a1 len1 cap1] 25)).alloc (.cells #[.bool s2, .slice a2 len2 cap2] 25))).cell? ⟨w.heap.size + 1, 1, none⟩ = some (.slice a1 len1 cap1) := by go_simp
      have q20 : ((((w.alloc (.cells #[.bool s0, .slice a0 len0 cap0] 25)).alloc (.cells #[.bool s1, .slice a1 len1 cap1] 25)).alloc (.cells #[.bool s2, .slice a2 len2 cap2] 25))).cell? ⟨w.heap.size + 1 + 1, 0, none⟩ = some (.bool s2) := by go_simp
      have q21 : ((((w.alloc (.cells #[.bool s0, .slice a0 len0 cap0] 25)).alloc (.cells #[.bool s1, .slice a1 len1 cap1] 25)).alloc (.cells #[.bool s2, .slice a2 len2 cap2] 25))).cell? ⟨w.heap.size + 1 + 1, 1, none⟩ = some (.slice a2 len2 cap2) := by go_simp
      have hB : Below w.heap.size w ((((w.alloc (.cells #[.bool s0, .slice a0 len0 cap0] 25)).alloc (.cells #[.bool s1, .slice a1 len1 cap1] 25)).alloc (.cells #[.bool s2, .slice a2 len2 cap2] 25))) := ((((Below.refl _ _).alloc (by (try simp only [World.size_alloc]); omega) _).alloc (by (try simp only [World.size_alloc]); omega) _).alloc (by (try simp only [World.size_alloc]); omega) _)
      have hz : ((((w.alloc (.cells #[.bool s0, .slice a0 len0 cap0] 25)).alloc (.cells #[.bool s1, .slice a1 len1 cap1] 25)).alloc (.cells #[.bool s2, .slice a2 len2 cap2] 25))).heap.size = w.heap.size + 1 + 1 + 1 := by simp only [World.size_alloc]
      generalize (((w.alloc (.cells #[.bool s0, .slice a0 len0 cap0] 25)).alloc (.cells #[.bool s1, .slice a1 len1 cap1] 25)).alloc (.cells #[.bool s2, .slice a2 len2 cap2] 25)) = W at q00 q01 q10 q11 q20 q21 hB hz ⊢
      have hBW : Below W.heap.size W W := Below.refl _ _
      refine (HK1.out _ (sb hS0 hB hBW) (sb hS1 hB hBW)).mono ?_
      rintro e w3 ⟨rfl, b3⟩
      replace hBW := hBW.trans (b3.mono hBW.size)
      replace q00 := below_cell b3 q00
      replace q01 := below_cell b3 q01
      replace q10 := below_cell b3 q10
      replace q11 := below_cell b3 q11
      replace q20 := below_cell b3 q20
      replace q21 := below_cell b3 q21
      go_wp2_with fail
      refine (HK2.out _ (sb hS1 hB hBW) (sb hS2 hB hBW)).mono ?_
      rintro e w4 ⟨rfl, b4⟩
      replace hBW := hBW.trans (b4.mono hBW.size)
      replace q00 := below_cell b4 q00
      replace q01 := below_cell b4 q01
      replace q10 := below_cell b4 q10
      replace q11 := below_cell b4 q11
      replace q20 := below_cell b4 q20
      replace q21 := below_cell b4 q21
      go_wp2_with fail
      refine (HK3.out _ (sb hS1 hB hBW) (sb hS0 hB hBW)).mono ?_
      rintro e w5 ⟨rfl, b5⟩
      replace hBW := hBW.trans (b5.mono hBW.size)
      replace q00 := below_cell b5 q00
      replace q01 := below_cell b5 q01
      replace q10 := below_cell b5 q10
      replace q11 := below_cell b5 q11
      replace q20 := below_cell b5 q20
      replace q21 := below_cell b5 q21
      go_wp2_with fail
      refine (HK4.out _ (sb hS0 hB hBW) (sb hS0 hB hBW)).mono ?_
      rintro e w6 ⟨rfl, b6⟩
      replace hBW := hBW.trans (b6.mono hBW.size)
      replace q00 := below_cell b6 q00
      replace q01 := below_cell b6 q01
      replace q10 := below_cell b6 q10
      replace q11 := below_cell b6 q11
      replace q20 := below_cell b6 q20
      replace q21 := below_cell b6 q21
      go_wp2_with fail
      refine (HK5.out _ (sb hS0 hB hBW) (sb hS2 hB hBW)).mono ?_
      rintro e w7 ⟨rfl, b7⟩
      replace hBW := hBW.trans (b7.mono hBW.size)
      replace q00 := below_cell b7 q00
      replace q01 := below_cell b7 q01
      replace q10 := below_cell b7 q10
      replace q11 := below_cell b7 q11
      replace q20 := below_cell b7 q20
      replace q21 := below_cell b7 q21
      go_wp2_with fail
      replace hBW := hBW.drew
      first
        | go_region_held3 (fun w' => w'.cell? ⟨w.heap.size, 0, none⟩ = some (.bool s0) ∧ w'.cell? ⟨w.heap.size, 1, none⟩ = some (.slice a0 len0 cap0) ∧ w'.cell? ⟨w.heap.size + 1, 0, none⟩ = some (.bool s1) ∧ w'.cell? ⟨w.heap.size + 1, 1, none⟩ = some (.slice a1 len1 cap1) ∧ w'.cell? ⟨w.heap.size + 1 + 1, 0, none⟩ = some (.bool s2) ∧ w'.cell? ⟨w.heap.size + 1 + 1, 1, none⟩ = some (.slice a2 len2 cap2) ∧ Below w.heap.size w w')
            (first | exact ⟨q00, q01, q10, q11, q20, q21, hB.trans (hBW.mono hB.size)⟩ | exact kp6 b8 (by assumption) | exact kp6 b9 (by assumption) | exact kp6 b10 (by assumption) | exact kp6 (below_alloc _) (by assumption))
            (first
              | (go_at_call 8; go_at_call_of 8 (Value.agg #[Value.bool s0, Value.slice a0 len0 cap0]); go_at_call_of 8 (Value.agg #[Value.bool s2, Value.slice a2 len2 cap2]); refine (wAdd_is s0 a0 len0 cap0 X0 s2 a2 len2 cap2 X2 (Zac) _ (by omega) (by omega) (sb hS0 hB hBW) (by omega) (by omega) (sb hS2 hB hBW) E1.out).mono ?_; rintro e w8 ⟨a8, rfl, h8⟩; have b8 := h8.below; replace h8 := h8.back hBW; replace hBW := hBW.trans (b8.mono hBW.size); replace q00 := below_cell b8 q00; replace q01 := below_cell b8 q01; replace q10 := below_cell b8 q10; replace q11 := below_cell b8 q11; replace q20 := below_cell b8 q20; replace q21 := below_cell b8 q21)
              | (go_at_call 8; go_at_call_of 8 (Value.agg #[Value.bool s1, Value.slice a1 len1 cap1]); go_at_call_of 8 (Value.agg #[Value.bool s2, Value.slice a2 len2 cap2]); refine (wAdd_is s1 a1 len1 cap1 X1 s2 a2 len2 cap2 X2 (Zbc) _ (by omega) (by omega) (sb hS1 hB hBW) (by omega) (by omega) (sb hS2 hB hBW) E2.out).mono ?_; rintro e w9 ⟨a9, rfl, h9⟩; have b9 := h9.below; replace h9 := h9.back hBW; replace hBW := hBW.trans (b9.mono hBW.size); replace q00 := below_cell b9 q00; replace q01 := below_cell b9 q01; replace q10 := below_cell b9 q10; replace q11 := below_cell b9 q11; replace q20 := below_cell b9 q20; replace q21 := below_cell b9 q21; replace h8 := h8.later b9)
              | (go_at_call 14; go_at_call_of 14 (Value.agg #[Value.bool (ng Zac), Value.slice a8 (ln (am Zac)) (ln (am Zac))]); go_at_call_of 14 (Value.agg #[Value.bool (ng Zbc), Value.slice a9 (ln (am Zbc)) (ln (am Zbc))]); refine (HK6.out _ a8 a9 h8.seg h9.seg).mono ?_; rintro e w10 ⟨rfl, b10⟩; replace hBW := hBW.trans (b10.mono hBW.size); replace q00 := below_cell b10 q00; replace q01 := below_cell b10 q01; replace q10 := below_cell b10 q10; replace q11 := below_cell b10 q11; replace q20 := below_cell b10 q20; replace q21 := below_cell b10 q21; replace h8 := h8.later b10; replace h9 := h9.later b10))
        | fail
      clear h8 h9
      go_wp2_with fail
      replace hBW := hBW.drew
      refine wp_region_held_drew (S := (fun w' => w'.cell? ⟨w.heap.size, 0, none⟩ = some (.bool s0) ∧ w'.cell? ⟨w.heap.size, 1, none⟩ = some (.slice a0 len0 cap0) ∧ w'.cell? ⟨w.heap.size + 1, 0, none⟩ = some (.bool s1) ∧ w'.cell? ⟨w.heap.size + 1, 1, none⟩ = some (.slice a1 len1 cap1) ∧ w'.cell? ⟨w.heap.size + 1 + 1, 0, none⟩ = some (.bool s2) ∧ w'.cell? ⟨w.heap.size + 1 + 1, 1, none⟩ = some (.slice a2 len2 cap2) ∧ Below w.heap.size w w')) (by kernel_rfl) ⟨q00, q01, q10, q11, q20, q21, hB.trans (hBW.mono hB.size)⟩ (fun hHeld => ?_)
      refine take' 0 (v := ?_) rfl (by kernel_rfl) (by kernel_rfl) (by kernel_rfl) (fun _ _ _ h => h) (Or.inl ⟨by rfl, ?_⟩) (by assumption) ?_
      rotate_left
      · intro w9 hSw
        go_simp
        first | done | with_reducible rfl
      simp only [Act.put, List.setIfInBounds_toArray, List.set_cons_zero, List.set_cons_succ]
      refine wpAnyH_ready (rs := [1]) (by kernel_rfl) (by simp) ?_
      refine cons' rfl (fun K hK => ?_)
      go_simp
      refine (HK8.out _ (sb hS2 hB hBW)).mono ?_
      rintro e w11 ⟨rfl, b11⟩
      go_wp2_with fail
      refine hK.out _ _ (kp6 b11 hHeld) ?_
      clear hHeld
      intro hHeld
      clear hK K
      replace hBW := hBW.trans (b11.mono hBW.size)
      replace q00 := below_cell b11 q00
      replace q01 := below_cell b11 q01
      replace q10 := below_cell b11 q10
      replace q11 := below_cell b11 q11
      replace q20 := below_cell b11 q20
      replace q21 := below_cell b11 q21
      refine take' 2 (v := ?_) rfl (by kernel_rfl) (by kernel_rfl) (by kernel_rfl) (fun _ _ _ h => h) (Or.inl ⟨by rfl, ?_⟩) (by assumption) ?_
      rotate_left
      · intro w9 hSw
        go_simp
        first | done | with_reducible rfl
      simp only [Act.put, List.setIfInBounds_toArray, List.set_cons_zero, List.set_cons_succ]
      refine take' 3 (v := ?_) rfl (by kernel_rfl) (by kernel_rfl) (by kernel_rfl) (fun _ _ _ h => h) (Or.inl ⟨by rfl, ?_⟩) (by assumption) ?_
      rotate_left
      · intro w9 hSw
        go_simp
        first | done | with_reducible rfl
      simp only [Act.put, List.setIfInBounds_toArray, List.set_cons_zero, List.set_cons_succ]
      refine take' 4 (v := undef) rfl (by kernel_rfl) (by kernel_rfl) (by kernel_rfl) (fun _ _ _ h => h) (Or.inr ⟨by rfl, rfl⟩) (by assumption) ?_
      simp only [Act.put, List.setIfInBounds_toArray, List.set_cons_zero, List.set_cons_succ]
      refine take' 5 (v := undef) rfl (by kernel_rfl) (by kernel_rfl) (by kernel_rfl) (fun _ _ _ h => h) (Or.inr ⟨by rfl, rfl⟩) (by assumption) ?_
      simp only [Act.put, List.setIfInBounds_toArray, List.set_cons_zero, List.set_cons_succ]
      refine take' 6 (v := undef) rfl (by kernel_rfl) (by kernel_rfl) (by kernel_rfl) (fun _ _ _ h => h) (Or.inr ⟨by rfl, rfl⟩) (by assumption) ?_
      simp only [Act.put, List.setIfInBounds_toArray, List.set_cons_zero, List.set_cons_succ]
      refine take' 7 (v := undef) rfl (by kernel_rfl) (by kernel_rfl) (by kernel_rfl) (fun _ _ _ h => h) (Or.inr ⟨by rfl, rfl⟩) (by assumption) ?_
      simp only [Act.put, List.setIfInBounds_toArray, List.set_cons_zero, List.set_cons_succ]
      refine take' 8 (v := undef) rfl (by kernel_rfl) (by kernel_rfl) (by kernel_rfl) (fun _ _ _ h => h) (Or.inr ⟨by rfl, rfl⟩) (by assumption) ?_
      simp only [Act.put, List.setIfInBounds_toArray, List.set_cons_zero, List.set_cons_succ]
      refine take' 9 (v := undef) rfl (by kernel_rfl) (by kernel_rfl) (by kernel_rfl) (fun _ _ _ h => h) (Or.inr ⟨by rfl, rfl⟩) (by assumption) ?_
      simp only [Act.put, List.setIfInBounds_toArray, List.set_cons_zero, List.set_cons_succ]
      refine take' 10 (v := undef) rfl (by kernel_rfl) (by kernel_rfl) (by kernel_rfl) (fun _ _ _ h => h) (Or.inr ⟨by rfl, rfl⟩) (by assumption) ?_
      simp only [Act.put, List.setIfInBounds_toArray, List.set_cons_zero, List.set_cons_succ]
      refine take' 11 (v := undef) rfl (by kernel_rfl) (by kernel_rfl) (by kernel_rfl) (fun _ _ _ h => h) (Or.inr ⟨by rfl, rfl⟩) (by assumption) ?_
      simp only [Act.put, List.setIfInBounds_toArray, List.set_cons_zero, List.set_cons_succ]
      refine take' 12 (v := undef) rfl (by kernel_rfl) (by kernel_rfl) (by kernel_rfl) (fun _ _ _ h => h) (Or.inr ⟨by rfl, rfl⟩) (by assumption) ?_
      simp only [Act.put, List.setIfInBounds_toArray, List.set_cons_zero, List.set_cons_succ]
      refine take' 13 (v := ?_) rfl (by kernel_rfl) (by kernel_rfl) (by kernel_rfl) (fun _ _ _ h => h) (Or.inl ⟨by rfl, ?_⟩) (by assumption) ?_
      rotate_left
      · intro w9 hSw
        go_simp
        first | done | with_reducible rfl
      simp only [Act.put, List.setIfInBounds_toArray, List.set_cons_zero, List.set_cons_succ]
      refine wpAnyH_done (by kernel_rfl) ?_ _
      go_wp2_with fail
      refine (awake_is _).mono ?_
      rintro e w12 ⟨rfl, b12⟩
      replace hBW := hBW.trans (b12.mono hBW.size)
      replace q00 := below_cell b12 q00
      replace q01 := below_cell b12 q01
      replace q10 := below_cell b12 q10
      replace q11 := below_cell b12 q11
      replace q20 := below_cell b12 q20
      replace q21 := below_cell b12 q21
      go_wp2
      go_ret
      exact ⟨rfl, hB.trans (hBW.mono hB.size)⟩
    · clear htr
      by_cases hx0 : x ≤ 0
      · have hy0 : ¬ y ≤ 0 := fun h => hxy ⟨hx0, h⟩
        clear hxy
        go_enter Try.func4, Try.ntmps4
        go_wp2_with fail
        have q00 : ((((w.alloc (.cells #[.bool s0, .slice a0 len0 cap0] 25)).alloc (.cells #[.bool s1, .slice a1 len1 cap1] 25)).alloc (.cells #[.bool s2, .slice a2 len2 cap2] 25))).cell? ⟨w.heap.size, 0, none⟩ = some (.bool s0) := by go_simp
        have q01 : ((((w.alloc (.cells #[.bool s0, .slice a0 len0 cap0] 25)).alloc (.cells #[.bool s1, .slice a1 len1 cap1] 25)).alloc (.cells #[.bool s2, .slice a2 len2 cap2] 25))).cell? ⟨w.heap.size, 1, none⟩ = some (.slice a0 len0 cap0) := by go_simp
        have q10 : ((((w.alloc (.cells #[.bool s0, .slice a0 len0 cap0] 25)).alloc (.cells #[.bool s1, .slice a1 len1 cap1] 25)).alloc (.cells #[.bool s2, .slice a2 len2 cap2] 25))).cell? ⟨w.heap.size + 1, 0, none⟩ = some (.bool s1) := by go_simp
        have q11 : ((((w.alloc (.cells #[.bool s0, .slice a0 len0 cap0] 25)).alloc (.cells #[.bool s1, .slice a1 len1 cap1] 25)).alloc (.cells #[.bool s2, .slice a2 len2 cap2] 25))).cell? ⟨w.heap.size + 1, 1, none⟩ = some (.slice a1 len1 cap1) := by go_simp
        have q20 : ((((w.alloc (.cells #[.bool s0, .slice a0 len0 cap0] 25)).alloc (.cells #[.bool s1, .slice a1 len1 cap1] 25)).alloc (.cells #[.bool s2, .slice a2 len2 cap2] 25))).cell? ⟨w.heap.size + 1 + 1, 0, none⟩ = some (.bool s2) := by go_simp
        have q21 : ((((w.alloc (.cells #[.bool s0, .slice a0 len0 cap0] 25)).alloc (.cells #[.bool s1, .slice a1 len1 cap1] 25)).alloc (.cells #[.bool s2, .slice a2 len2 cap2] 25))).cell? ⟨w.heap.size + 1 + 1, 1, none⟩ = some (.slice a2 len2 cap2) := by go_simp
        have hB : Below w.heap.size w ((((w.alloc (.cells #[.bool s0, .slice a0 len0 cap0] 25)).alloc (.cells #[.bool s1, .slice a1 len1 cap1] 25)).alloc (.cells #[.bool s2, .slice a2 len2 cap2] 25))) := ((((Below.refl _ _).alloc (by (try simp only [World.size_alloc]); omega) _).alloc (by (try simp only [World.size_alloc]); omega) _).alloc (by (try simp only [World.size_alloc]); omega) _)
        have hz : ((((w.alloc (.cells #[.bool s0, .slice a0 len0 cap0] 25)).alloc (.cells #[.bool s1, .slice a1 len1 cap1] 25)).alloc (.cells #[.bool s2, .slice a2 len2 cap2] 25))).heap.size = w.heap.size + 1 + 1 + 1 := by simp only [World.size_alloc]
        generalize (((w.alloc (.cells #[.bool s0, .slice a0 len0 cap0] 25)).alloc (.cells #[.bool s1, .slice a1 len1 cap1] 25)).alloc (.cells #[.bool s2, .slice a2 len2 cap2] 25)) = W at q00 q01 q10 q11 q20 q21 hB hz ⊢
        have hBW : Below W.heap.size W W := Below.refl _ _
        refine (HK1.out _ (sb hS0 hB hBW) (sb hS1 hB hBW)).mono ?_
        rintro e w3 ⟨rfl, b3⟩
        replace hBW := hBW.trans (b3.mono hBW.size)
        replace q00 := below_cell b3 q00
        replace q01 := below_cell b3 q01
        replace q10 := below_cell b3 q10
        replace q11 := below_cell b3 q11
        replace q20 := below_cell b3 q20
        replace q21 := below_cell b3 q21
        go_wp2_with fail
        refine (HK2.out _ (sb hS1 hB hBW) (sb hS2 hB hBW)).mono ?_
        rintro e w4 ⟨rfl, b4⟩
        replace hBW := hBW.trans (b4.mono hBW.size)
        replace q00 := below_cell b4 q00
        replace q01 := below_cell b4 q01
        replace q10 := below_cell b4 q10
        replace q11 := below_cell b4 q11
        replace q20 := below_cell b4 q20
        replace q21 := below_cell b4 q21
        go_wp2_with fail
        refine (HK3.out _ (sb hS1 hB hBW) (sb hS0 hB hBW)).mono ?_
        rintro e w5 ⟨rfl, b5⟩
        replace hBW := hBW.trans (b5.mono hBW.size)
        replace q00 := below_cell b5 q00
        replace q01 := below_cell b5 q01
        replace q10 := below_cell b5 q10
        replace q11 := below_cell b5 q11
        replace q20 := below_cell b5 q20
        replace q21 := below_cell b5 q21
        go_wp2_with fail
        refine (HK4.out _ (sb hS0 hB hBW) (sb hS0 hB hBW)).mono ?_
        rintro e w6 ⟨rfl, b6⟩
        replace hBW := hBW.trans (b6.mono hBW.size)
        replace q00 := below_cell b6 q00
        replace q01 := below_cell b6 q01
        replace q10 := below_cell b6 q10
        replace q11 := below_cell b6 q11
        replace q20 := below_cell b6 q20
        replace q21 := below_cell b6 q21
        go_wp2_with fail
        replace hBW := hBW.drew
        first
          | go_region_held3 (fun w' => w'.cell? ⟨w.heap.size, 0, none⟩ = some (.bool s0) ∧ w'.cell? ⟨w.heap.size, 1, none⟩ = some (.slice a0 len0 cap0) ∧ w'.cell? ⟨w.heap.size + 1, 0, none⟩ = some (.bool s1) ∧ w'.cell? ⟨w.heap.size + 1, 1, none⟩ = some (.slice a1 len1 cap1) ∧ w'.cell? ⟨w.heap.size + 1 + 1, 0, none⟩ = some (.bool s2) ∧ w'.cell? ⟨w.heap.size + 1 + 1, 1, none⟩ = some (.slice a2 len2 cap2) ∧ Below w.heap.size w w')
              (first | exact ⟨q00, q01, q10, q11, q20, q21, hB.trans (hBW.mono hB.size)⟩ | exact kp6 b7 (by assumption) | exact kp6 b8 (by assumption) | exact kp6 b9 (by assumption) | exact kp6 (below_alloc _) (by assumption))
              (first
                | (go_at_call 8; go_at_call_of 8 (Value.agg #[Value.bool s0, Value.slice a0 len0 cap0]); go_at_call_of 8 (Value.agg #[Value.bool s2, Value.slice a2 len2 cap2]); refine (wAdd_is s0 a0 len0 cap0 X0 s2 a2 len2 cap2 X2 (Zac) _ (by omega) (by omega) (sb hS0 hB hBW) (by omega) (by omega) (sb hS2 hB hBW) E1.out).mono ?_; rintro e w7 ⟨a7, rfl, h7⟩; have b7 := h7.below; replace h7 := h7.back hBW; replace hBW := hBW.trans (b7.mono hBW.size); replace q00 := below_cell b7 q00; replace q01 := below_cell b7 q01; replace q10 := below_cell b7 q10; replace q11 := below_cell b7 q11; replace q20 := below_cell b7 q20; replace q21 := below_cell b7 q21)
                | (go_at_call 8; go_at_call_of 8 (Value.agg #[Value.bool s1, Value.slice a1 len1 cap1]); go_at_call_of 8 (Value.agg #[Value.bool s2, Value.slice a2 len2 cap2]); refine (wAdd_is s1 a1 len1 cap1 X1 s2 a2 len2 cap2 X2 (Zbc) _ (by omega) (by omega) (sb hS1 hB hBW) (by omega) (by omega) (sb hS2 hB hBW) E2.out).mono ?_; rintro e w8 ⟨a8, rfl, h8⟩; have b8 := h8.below; replace h8 := h8.back hBW; replace hBW := hBW.trans (b8.mono hBW.size); replace q00 := below_cell b8 q00; replace q01 := below_cell b8 q01; replace q10 := below_cell b8 q10; replace q11 := below_cell b8 q11; replace q20 := below_cell b8 q20; replace q21 := below_cell b8 q21; replace h7 := h7.later b8)
                | (go_at_call 14; go_at_call_of 14 (Value.agg #[Value.bool (ng Zac), Value.slice a7 (ln (am Zac)) (ln (am Zac))]); go_at_call_of 14 (Value.agg #[Value.bool (ng Zbc), Value.slice a8 (ln (am Zbc)) (ln (am Zbc))]); refine (HK6.out _ a7 a8 h7.seg h8.seg).mono ?_; rintro e w9 ⟨rfl, b9⟩; replace hBW := hBW.trans (b9.mono hBW.size); replace q00 := below_cell b9 q00; replace q01 := below_cell b9 q01; replace q10 := below_cell b9 q10; replace q11 := below_cell b9 q11; replace q20 := below_cell b9 q20; replace q21 := below_cell b9 q21; replace h7 := h7.later b9; replace h8 := h8.later b9))
          | fail
        clear h7 h8
        go_wp2_with fail
        replace hBW := hBW.drew
        refine wp_region_held_drew (S := (fun w' => w'.cell? ⟨w.heap.size, 0, none⟩ = some (.bool s0) ∧ w'.cell? ⟨w.heap.size, 1, none⟩ = some (.slice a0 len0 cap0) ∧ w'.cell? ⟨w.heap.size + 1, 0, none⟩ = some (.bool s1) ∧ w'.cell? ⟨w.heap.size + 1, 1, none⟩ = some (.slice a1 len1 cap1) ∧ w'.cell? ⟨w.heap.size + 1 + 1, 0, none⟩ = some (.bool s2) ∧ w'.cell? ⟨w.heap.size + 1 + 1, 1, none⟩ = some (.slice a2 len2 cap2) ∧ Below w.heap.size w w')) (by kernel_rfl) ⟨q00, q01, q10, q11, q20, q21, hB.trans (hBW.mono hB.size)⟩ (fun hHeld => ?_)
        refine take' 0 (v := ?_) rfl (by kernel_rfl) (by kernel_rfl) (by kernel_rfl) (fun _ _ _ h => h) (Or.inl ⟨by rfl, ?_⟩) (by assumption) ?_
        rotate_left
        · intro w9 hSw
          go_simp
          first | done | with_reducible rfl
        simp only [Act.put, List.setIfInBounds_toArray, List.set_cons_zero, List.set_cons_succ]
        refine wpAnyH_ready (rs := [1]) (by kernel_rfl) (by simp) ?_
        refine cons' rfl (fun K hK => ?_)
        go_simp
        refine (HK8.out _ (sb hS2 hB hBW)).mono ?_
        rintro e w10 ⟨rfl, b10⟩
        go_wp2_with fail
        refine hK.out _ _ (kp6 b10 hHeld) ?_
        clear hHeld
        intro hHeld
        clear hK K
        replace hBW := hBW.trans (b10.mono hBW.size)
        replace q00 := below_cell b10 q00
        replace q01 := below_cell b10 q01
        replace q10 := below_cell b10 q10
        replace q11 := below_cell b10 q11
        replace q20 := below_cell b10 q20
        replace q21 := below_cell b10 q21
        refine take' 2 (v := ?_) rfl (by kernel_rfl) (by kernel_rfl) (by kernel_rfl) (fun _ _ _ h => h) (Or.inl ⟨by rfl, ?_⟩) (by assumption) ?_
        rotate_left
        · intro w9 hSw
          go_simp
          first | done | with_reducible rfl
        simp only [Act.put, List.setIfInBounds_toArray, List.set_cons_zero, List.set_cons_succ]
        refine take' 3 (v := ?_) rfl (by kernel_rfl) (by kernel_rfl) (by kernel_rfl) (fun _ _ _ h => h) (Or.inl ⟨by rfl, ?_⟩) (by assumption) ?_
        rotate_left
        · intro w9 hSw
          go_simp
          first | done | with_reducible rfl
        simp only [Act.put, List.setIfInBounds_toArray, List.set_cons_zero, List.set_cons_succ]
        refine take' 4 (v := undef) rfl (by kernel_rfl) (by kernel_rfl) (by kernel_rfl) (fun _ _ _ h => h) (Or.inr ⟨by rfl, rfl⟩) (by assumption) ?_
        simp only [Act.put, List.setIfInBounds_toArray, List.set_cons_zero, List.set_cons_succ]
        refine take' 5 (v := undef) rfl (by kernel_rfl) (by kernel_rfl) (by kernel_rfl) (fun _ _ _ h => h) (Or.inr ⟨by rfl, rfl⟩) (by assumption) ?_
        simp only [Act.put, List.setIfInBounds_toArray, List.set_cons_zero, List.set_cons_succ]
        refine take' 6 (v := undef) rfl (by kernel_rfl) (by kernel_rfl) (by kernel_rfl) (fun _ _ _ h => h) (Or.inr ⟨by rfl, rfl⟩) (by assumption) ?_
        simp only [Act.put, List.setIfInBounds_toArray, List.set_cons_zero, List.set_cons_succ]
        refine take' 7 (v := undef) rfl (by kernel_rfl) (by kernel_rfl) (by kernel_rfl) (fun _ _ _ h => h) (Or.inr ⟨by rfl, rfl⟩) (by assumption) ?_
        simp only [Act.put, List.setIfInBounds_toArray, List.set_cons_zero, List.set_cons_succ]
        refine take' 8 (v := undef) rfl (by kernel_rfl) (by kernel_rfl) (by kernel_rfl) (fun _ _ _ h => h) (Or.inr ⟨by rfl, rfl⟩) (by assumption) ?_
        simp only [Act.put, List.setIfInBounds_toArray, List.set_cons_zero, List.set_cons_succ]
        refine take' 9 (v := undef) rfl (by kernel_rfl) (by kernel_rfl) (by kernel_rfl) (fun _ _ _ h => h) (Or.inr ⟨by rfl, rfl⟩) (by assumption) ?_
        simp only [Act.put, List.setIfInBounds_toArray, List.set_cons_zero, List.set_cons_succ]
        refine take' 10 (v := undef) rfl (by kernel_rfl) (by kernel_rfl) (by kernel_rfl) (fun _ _ _ h => h) (Or.inr ⟨by rfl, rfl⟩) (by assumption) ?_
        simp only [Act.put, List.setIfInBounds_toArray, List.set_cons_zero, List.set_cons_succ]
        refine take' 11 (v := undef) rfl (by kernel_rfl) (by kernel_rfl) (by kernel_rfl) (fun _ _ _ h => h) (Or.inr ⟨by rfl, rfl⟩) (by assumption) ?_
        simp only [Act.put, List.setIfInBounds_toArray, List.set_cons_zero, List.set_cons_succ]
        refine take' 12 (v := undef) rfl (by kernel_rfl) (by kernel_rfl) (by kernel_rfl) (fun _ _ _ h => h) (Or.inr ⟨by rfl, rfl⟩) (by assumption) ?_
        simp only [Act.put, List.setIfInBounds_toArray, List.set_cons_zero, List.set_cons_succ]
        refine take' 13 (v := ?_) rfl (by kernel_rfl) (by kernel_rfl) (by kernel_rfl) (fun _ _ _ h => h) (Or.inl ⟨by rfl, ?_⟩) (by assumption) ?_
        rotate_left
        · intro w9 hSw
          go_simp
          first | done | with_reducible rfl
        simp only [Act.put, List.setIfInBounds_toArray, List.set_cons_zero, List.set_cons_succ]
        refine wpAnyH_done (by kernel_rfl) ?_ _
        go_wp2_with fail
        refine (awake_is _).mono ?_
        rintro e w11 ⟨rfl, b11⟩
        replace hBW := hBW.trans (b11.mono hBW.size)
        replace q00 := below_cell b11 q00
        replace q01 := below_cell b11 q01
        replace q10 := below_cell b11 q10
        replace q11 := below_cell b11 q11
        replace q20 := below_cell b11 q20
        replace q21 := below_cell b11 q21
        go_wp2
        go_ret
        exact ⟨rfl, hB.trans (hBW.mono hB.size)⟩
      · clear hxy
        go_enter Try.func4, Try.ntmps4
        go_wp2_with fail
        have q00 : ((((w.alloc (.cells #[.bool s0, .slice a0 len0 cap0] 25)).alloc (.cells #[.bool s1, .slice a1 len1 cap1] 25)).alloc (.cells #[.bool s2, .slice a2 len2 cap2] 25))).cell? ⟨w.heap.size, 0, none⟩ = some (.bool s0) := by go_simp
        have q01 : ((((w.alloc (.cells #[.bool s0, .slice a0 len0 cap0] 25)).alloc (.cells #[.bool s1, .slice a1 len1 cap1] 25)).alloc (.cells #[.bool s2, .slice a2 len2 cap2] 25))).cell? ⟨w.heap.size, 1, none⟩ = some (.slice a0 len0 cap0) := by go_simp
        have q10 : ((((w.alloc (.cells #[.bool s0, .slice a0 len0 cap0] 25)).alloc (.cells #[.bool s1, .slice a1 len1 cap1] 25)).alloc (.cells #[.bool s2, .slice a2 len2 cap2] 25))).cell? ⟨w.heap.size + 1, 0, none⟩ = some (.bool s1) := by go_simp
        have q11 : ((((w.alloc (.cells #[.bool s0, .slice a0 len0 cap0] 25)).alloc (.cells #[.bool s1, .slice a1 len1 cap1] 25)).alloc (.cells #[.bool s2, .slice a2 len2 cap2] 25))).cell? ⟨w.heap.size + 1, 1, none⟩ = some (.slice a1 len1 cap1) := by go_simp
        have q20 : ((((w.alloc (.cells #[.bool s0, .slice a0 len0 cap0] 25)).alloc (.cells #[.bool s1, .slice a1 len1 cap1] 25)).alloc (.cells #[.bool s2, .slice a2 len2 cap2] 25))).cell? ⟨w.heap.size + 1 + 1, 0, none⟩ = some (.bool s2) := by go_simp
        have q21 : ((((w.alloc (.cells #[.bool s0, .slice a0 len0 cap0] 25)).alloc (.cells #[.bool s1, .slice a1 len1 cap1] 25)).alloc (.cells #[.bool s2, .slice a2 len2 cap2] 25))).cell? ⟨w.heap.size + 1 + 1, 1, none⟩ = some (.slice a2 len2 cap2) := by go_simp
        have hB : Below w.heap.size w ((((w.alloc (.cells #[.bool s0, .slice a0 len0 cap0] 25)).alloc (.cells #[.bool s1, .slice a1 len1 cap1] 25)).alloc (.cells #[.bool s2, .slice a2 len2 cap2] 25))) := ((((Below.refl _ _).alloc (by (try simp only [World.size_alloc]); omega) _).alloc (by (try simp only [World.size_alloc]); omega) _).alloc (by (try simp only [World.size_alloc]); omega) _)
        have hz : ((((w.alloc (.cells #[.bool s0, .slice a0 len0 cap0] 25)).alloc (.cells #[.bool s1, .slice a1 len1 cap1] 25)).alloc (.cells #[.bool s2, .slice a2 len2 cap2] 25))).heap.size = w.heap.size + 1 + 1 + 1 := by simp only [World.size_alloc]
        generalize (((w.alloc (.cells #[.bool s0, .slice a0 len0 cap0] 25)).alloc (.cells #[.bool s1, .slice a1 len1 cap1] 25)).alloc (.cells #[.bool s2, .slice a2 len2 cap2] 25)) = W at q00 q01 q10 q11 q20 q21 hB hz ⊢
        have hBW : Below W.heap.size W W := Below.refl _ _
        refine (HK1.out _ (sb hS0 hB hBW) (sb hS1 hB hBW)).mono ?_
        rintro e w3 ⟨rfl, b3⟩
        replace hBW := hBW.trans (b3.mono hBW.size)
        replace q00 := below_cell b3 q00
        replace q01 := below_cell b3 q01
        replace q10 := below_cell b3 q10
        replace q11 := below_cell b3 q11
        replace q20 := below_cell b3 q20
        replace q21 := below_cell b3 q21
        go_wp2_with fail
        refine (HK2.out _ (sb hS1 hB hBW) (sb hS2 hB hBW)).mono ?_
        rintro e w4 ⟨rfl, b4⟩
        replace hBW := hBW.trans (b4.mono hBW.size)
        replace q00 := below_cell b4 q00
        replace q01 := below_cell b4 q01
        replace q10 := below_cell b4 q10
        replace q11 := below_cell b4 q11
        replace q20 := below_cell b4 q20
        replace q21 := below_cell b4 q21
        go_wp2_with fail
        refine (HK3.out _ (sb hS1 hB hBW) (sb hS0 hB hBW)).mono ?_
        rintro e w5 ⟨rfl, b5⟩
        replace hBW := hBW.trans (b5.mono hBW.size)
        replace q00 := below_cell b5 q00
        replace q01 := below_cell b5 q01
        replace q10 := below_cell b5 q10
        replace q11 := below_cell b5 q11
        replace q20 := below_cell b5 q20
        replace q21 := below_cell b5 q21
        go_wp2_with fail
        refine (HK4.out _ (sb hS0 hB hBW) (sb hS0 hB hBW)).mono ?_
        rintro e w6 ⟨rfl, b6⟩
        replace hBW := hBW.trans (b6.mono hBW.size)
        replace q00 := below_cell b6 q00
        replace q01 := below_cell b6 q01
        replace q10 := below_cell b6 q10
        replace q11 := below_cell b6 q11
        replace q20 := below_cell b6 q20
        replace q21 := below_cell b6 q21
        go_wp2_with fail
        replace hBW := hBW.drew
        first
          | go_region_held3 (fun w' => w'.cell? ⟨w.heap.size, 0, none⟩ = some (.bool s0) ∧ w'.cell? ⟨w.heap.size, 1, none⟩ = some (.slice a0 len0 cap0) ∧ w'.cell? ⟨w.heap.size + 1, 0, none⟩ = some (.bool s1) ∧ w'.cell? ⟨w.heap.size + 1, 1, none⟩ = some (.slice a1 len1 cap1) ∧ w'.cell? ⟨w.heap.size + 1 + 1, 0, none⟩ = some (.bool s2) ∧ w'.cell? ⟨w.heap.size + 1 + 1, 1, none⟩ = some (.slice a2 len2 cap2) ∧ Below w.heap.size w w')
              (first | exact ⟨q00, q01, q10, q11, q20, q21, hB.trans (hBW.mono hB.size)⟩ | exact kp6 b7 (by assumption) | exact kp6 b8 (by assumption) | exact kp6 b9 (by assumption) | exact kp6 (below_alloc _) (by assumption))
              (first
                | (go_at_call 8; go_at_call_of 8 (Value.agg #[Value.bool s0, Value.slice a0 len0 cap0]); go_at_call_of 8 (Value.agg #[Value.bool s2, Value.slice a2 len2 cap2]); refine (wAdd_is s0 a0 len0 cap0 X0 s2 a2 len2 cap2 X2 (Zac) _ (by omega) (by omega) (sb hS0 hB hBW) (by omega) (by omega) (sb hS2 hB hBW) E1.out).mono ?_; rintro e w7 ⟨a7, rfl, h7⟩; have b7 := h7.below; replace h7 := h7.back hBW; replace hBW := hBW.trans (b7.mono hBW.size); replace q00 := below_cell b7 q00; replace q01 := below_cell b7 q01; replace q10 := below_cell b7 q10; replace q11 := below_cell b7 q11; replace q20 := below_cell b7 q20; replace q21 := below_cell b7 q21)
                | (go_at_call 8; go_at_call_of 8 (Value.agg #[Value.bool s1, Value.slice a1 len1 cap1]); go_at_call_of 8 (Value.agg #[Value.bool s2, Value.slice a2 len2 cap2]); refine (wAdd_is s1 a1 len1 cap1 X1 s2 a2 len2 cap2 X2 (Zbc) _ (by omega) (by omega) (sb hS1 hB hBW) (by omega) (by omega) (sb hS2 hB hBW) E2.out).mono ?_; rintro e w8 ⟨a8, rfl, h8⟩; have b8 := h8.below; replace h8 := h8.back hBW; replace hBW := hBW.trans (b8.mono hBW.size); replace q00 := below_cell b8 q00; replace q01 := below_cell b8 q01; replace q10 := below_cell b8 q10; replace q11 := below_cell b8 q11; replace q20 := below_cell b8 q20; replace q21 := below_cell b8 q21; replace h7 := h7.later b8)
                | (go_at_call 14; go_at_call_of 14 (Value.agg #[Value.bool (ng Zac), Value.slice a7 (ln (am Zac)) (ln (am Zac))]); go_at_call_of 14 (Value.agg #[Value.bool (ng Zbc), Value.slice a8 (ln (am Zbc)) (ln (am Zbc))]); refine (HK6.out _ a7 a8 h7.seg h8.seg).mono ?_; rintro e w9 ⟨rfl, b9⟩; replace hBW := hBW.trans (b9.mono hBW.size); replace q00 := below_cell b9 q00; replace q01 := below_cell b9 q01; replace q10 := below_cell b9 q10; replace q11 := below_cell b9 q11; replace q20 := below_cell b9 q20; replace q21 := below_cell b9 q21; replace h7 := h7.later b9; replace h8 := h8.later b9))
          | fail
        clear h7 h8
        go_wp2_with fail
        replace hBW := hBW.drew
        refine wp_region_held_drew (S := (fun w' => w'.cell? ⟨w.heap.size, 0, none⟩ = some (.bool s0) ∧ w'.cell? ⟨w.heap.size, 1, none⟩ = some (.slice a0 len0 cap0) ∧ w'.cell? ⟨w.heap.size + 1, 0, none⟩ = some (.bool s1) ∧ w'.cell? ⟨w.heap.size + 1, 1, none⟩ = some (.slice a1 len1 cap1) ∧ w'.cell? ⟨w.heap.size + 1 + 1, 0, none⟩ = some (.bool s2) ∧ w'.cell? ⟨w.heap.size + 1 + 1, 1, none⟩ = some (.slice a2 len2 cap2) ∧ Below w.heap.size w w')) (by kernel_rfl) ⟨q00, q01, q10, q11, q20, q21, hB.trans (hBW.mono hB.size)⟩ (fun hHeld => ?_)
        refine take' 0 (v := ?_) rfl (by kernel_rfl) (by kernel_rfl) (by kernel_rfl) (fun _ _ _ h => h) (Or.inl ⟨by rfl, ?_⟩) (by assumption) ?_
        rotate_left
        · intro w9 hSw
          go_simp
          first | done | with_reducible rfl
        simp only [Act.put, List.setIfInBounds_toArray, List.set_cons_zero, List.set_cons_succ]
        refine wpAnyH_ready (rs := [1]) (by kernel_rfl) (by simp) ?_
        refine cons' rfl (fun K hK => ?_)
        go_simp
        refine (HK8.out _ (sb hS2 hB hBW)).mono ?_
        rintro e w10 ⟨rfl, b10⟩
        go_wp2_with fail
        refine hK.out _ _ (kp6 b10 hHeld) ?_
        clear hHeld
        intro hHeld
        clear hK K
        replace hBW := hBW.trans (b10.mono hBW.size)
        replace q00 := below_cell b10 q00
        replace q01 := below_cell b10 q01
        replace q10 := below_cell b10 q10
        replace q11 := below_cell b10 q11
        replace q20 := below_cell b10 q20
        replace q21 := below_cell b10 q21
        refine take' 2 (v := ?_) rfl (by kernel_rfl) (by kernel_rfl) (by kernel_rfl) (fun _ _ _ h => h) (Or.inl ⟨by rfl, ?_⟩) (by assumption) ?_
        rotate_left
        · intro w9 hSw
          go_simp
          first | done | with_reducible rfl
        simp only [Act.put, List.setIfInBounds_toArray, List.set_cons_zero, List.set_cons_succ]
        refine take' 3 (v := ?_) rfl (by kernel_rfl) (by kernel_rfl) (by kernel_rfl) (fun _ _ _ h => h) (Or.inl ⟨by rfl, ?_⟩) (by assumption) ?_
        rotate_left
        · intro w9 hSw
          go_simp
          first | done | with_reducible rfl
        simp only [Act.put, List.setIfInBounds_toArray, List.set_cons_zero, List.set_cons_succ]
        refine take' 4 (v := undef) rfl (by kernel_rfl) (by kernel_rfl) (by kernel_rfl) (fun _ _ _ h => h) (Or.inr ⟨by rfl, rfl⟩) (by assumption) ?_
        simp only [Act.put, List.setIfInBounds_toArray, List.set_cons_zero, List.set_cons_succ]
        refine take' 5 (v := undef) rfl (by kernel_rfl) (by kernel_rfl) (by kernel_rfl) (fun _ _ _ h => h) (Or.inr ⟨by rfl, rfl⟩) (by assumption) ?_
        simp only [Act.put, List.setIfInBounds_toArray, List.set_cons_zero, List.set_cons_succ]
        refine take' 6 (v := undef) rfl (by kernel_rfl) (by kernel_rfl) (by kernel_rfl) (fun _ _ _ h => h) (Or.inr ⟨by rfl, rfl⟩) (by assumption) ?_
        simp only [Act.put, List.setIfInBounds_toArray, List.set_cons_zero, List.set_cons_succ]
        refine take' 7 (v := undef) rfl (by kernel_rfl) (by kernel_rfl) (by kernel_rfl) (fun _ _ _ h => h) (Or.inr ⟨by rfl, rfl⟩) (by assumption) ?_
        simp only [Act.put, List.setIfInBounds_toArray, List.set_cons_zero, List.set_cons_succ]
        refine take' 8 (v := undef) rfl (by kernel_rfl) (by kernel_rfl) (by kernel_rfl) (fun _ _ _ h => h) (Or.inr ⟨by rfl, rfl⟩) (by assumption) ?_
        simp only [Act.put, List.setIfInBounds_toArray, List.set_cons_zero, List.set_cons_succ]
        refine take' 9 (v := undef) rfl (by kernel_rfl) (by kernel_rfl) (by kernel_rfl) (fun _ _ _ h => h) (Or.inr ⟨by rfl, rfl⟩) (by assumption) ?_
        simp only [Act.put, List.setIfInBounds_toArray, List.set_cons_zero, List.set_cons_succ]
        refine take' 10 (v := undef) rfl (by kernel_rfl) (by kernel_rfl) (by kernel_rfl) (fun _ _ _ h => h) (Or.inr ⟨by rfl, rfl⟩) (by assumption) ?_
        simp only [Act.put, List.setIfInBounds_toArray, List.set_cons_zero, List.set_cons_succ]
        refine take' 11 (v := undef) rfl (by kernel_rfl) (by kernel_rfl) (by kernel_rfl) (fun _ _ _ h => h) (Or.inr ⟨by rfl, rfl⟩) (by assumption) ?_
        simp only [Act.put, List.setIfInBounds_toArray, List.set_cons_zero, List.set_cons_succ]
        refine take' 12 (v := undef) rfl (by kernel_rfl) (by kernel_rfl) (by kernel_rfl) (fun _ _ _ h => h) (Or.inr ⟨by rfl, rfl⟩) (by assumption) ?_
        simp only [Act.put, List.setIfInBounds_toArray, List.set_cons_zero, List.set_cons_succ]
        refine take' 13 (v := ?_) rfl (by kernel_rfl) (by kernel_rfl) (by kernel_rfl) (fun _ _ _ h => h) (Or.inl ⟨by rfl, ?_⟩) (by assumption) ?_
        rotate_left
        · intro w9 hSw
          go_simp
          first | done | with_reducible rfl
        simp only [Act.put, List.setIfInBounds_toArray, List.set_cons_zero, List.set_cons_succ]
        refine wpAnyH_done (by kernel_rfl) ?_ _
        go_wp2_with fail
        refine (awake_is _).mono ?_
        rintro e w11 ⟨rfl, b11⟩
        replace hBW := hBW.trans (b11.mono hBW.size)
        replace q00 := below_cell b11 q00
        replace q01 := below_cell b11 q01
        replace q10 := below_cell b11 q10
        replace q11 := below_cell b11 q11
        replace q20 := below_cell b11 q20
        replace q21 := below_cell b11 q21
        go_wp2
        go_ret
        exact ⟨rfl, hB.trans (hBW.mono hB.size)⟩

set_option maxRecDepth 100000 in
theorem contract (H : Type) (enc : TypeId × Value → H) (W : World) (base : Nat) (args : Array Value) (ds gs : List (DataW H)) (before : List MemPlace)
    (hval : ∀ (j : Nat) t v, Try.f4.params[j]? = some t → args[j]? = some v → Value.okWide Try.prog W .any base t v)
    (hW : DataW.Whole enc Try.prog Try.f4.params.toList Rows.wholeOrderSpec.vars false W args.toList ds gs before)
    (hsz : (DataW.weightsEach Try.prog (Try.f4.params.toList ++ Rows.wholeOrderSpec.plain.varTypes Try.prog) (ds ++ gs)).all (· ≤ reachBytes) = true) :
    Calls Try.prog 4 args W fun e W' => ∃ v, e = .returned v ∧ Rows.wholeOrderSpec.post enc Try.prog Try.f4 false true false false W args v W' := by
  have hW' := hW
  obtain ⟨p, q, hA0, hV, rfl, hfz, hnd⟩ := hW
  have hA : DataW.TrodAll enc Try.prog W 0 (fun _ => true) true Try.f4.params.toList args.toList ds p := hA0
  rw [Try.params4] at hA hval hsz
  obtain ⟨v0, vs0, d0, ds0, p0, q0, hargs, rfl, rfl, h0, r0⟩ := trodAll_cons hA
  obtain ⟨v1, vs1, d1, ds1, p1, q1, rfl, rfl, rfl, h1, r1⟩ := trodAll_cons r0
  obtain ⟨v2, vs2, d2, ds2, p2, q2, rfl, rfl, rfl, h2, r2⟩ := trodAll_cons r1
  obtain ⟨rfl, rfl, rfl⟩ := trodAll_nil r2
  obtain rfl : args = #[v0, v1, v2] := by cases args; simp_all
  obtain ⟨rfl, rfl⟩ := trodVars_none hV
  have lt0 : ∀ x ∈ p0, x.block < W.heap.size := by obtain ⟨m, hm⟩ := h0; exact DataW.trod_lt m _ _ _ hm
  obtain ⟨s0, a0, len0, cap0, X0, rfl, hS0, hc0, hb0, hu0⟩ := open_Int (hval 0 25 v0 rfl rfl) h0 (sized_at 0 hsz rfl rfl)
  have lt1 : ∀ x ∈ p1, x.block < W.heap.size := by obtain ⟨m, hm⟩ := h1; exact DataW.trod_lt m _ _ _ hm
  obtain ⟨s1, a1, len1, cap1, X1, rfl, hS1, hc1, hb1, hu1⟩ := open_Int (hval 1 25 v1 rfl rfl) h1 (sized_at 1 hsz rfl rfl)
  have lt2 : ∀ x ∈ p2, x.block < W.heap.size := by obtain ⟨m, hm⟩ := h2; exact DataW.trod_lt m _ _ _ hm
  obtain ⟨s2, a2, len2, cap2, X2, rfl, hS2, hc2, hb2, hu2⟩ := open_Int (hval 2 25 v2 rfl rfl) h2 (sized_at 2 hsz rfl rfl)
  clear hA0
  simp only [List.append_nil] at hW'
  refine (walk s0 a0 len0 cap0 X0 s1 a1 len1 cap1 X1 s2 a2 len2 cap2 X2 W hS0 hc0 hb0 hS1 hc1 hb1 hS2 hc2 hb2).mono fun e W' ⟨he, bel⟩ => ?_
  subst he
  exact ⟨_, rfl, _, _, _, [], _, [], hW', trodAll_mk1 (shut_bool Try.underlying4 _), (trodAll_cons_mk (Below.trod laidOut (by kernel_rfl) (of_decide_eq_true (by kernel_rfl)) h0 bel lt0) (trodAll_cons_mk (Below.trod laidOut (by kernel_rfl) (of_decide_eq_true (by kernel_rfl)) h1 bel lt1) (trodAll_cons_mk (Below.trod laidOut (by kernel_rfl) (of_decide_eq_true (by kernel_rfl)) h2 bel lt2) trodAll_mk0))), rfl, bel.frame _, fun h => by cases h⟩

set_option maxRecDepth 100000 in
theorem lifted (os : Os) (started : os.Started) (H : Type) (enc : TypeId × Value → H) :
    ReturnsInHanded {} Try.checked os 4 .any (Rows.wholeOrderSpec.pre6 enc Try.prog Try.f4 Rows.wholeOrderRow.domain false) (Rows.wholeOrderSpec.post enc Try.prog Try.f4 false true false false) := by
  refine returnsInHanded_of_change_sized (C := Try.checked) own started (by kernel_rfl) Try.func4
    (ChangeSpec.witness6 (enc := enc) (C := Try.checked) false ⟨#[], #[.agg #[.bool false, .slice none 0 0], .agg #[.bool false, .slice none 0 0], .agg #[.bool false, .slice none 0 0]], []⟩ 8 (by kernel_rfl) (by kernel_rfl) (by kernel_rfl) (by kernel_rfl)) ?_
  intro W base args ds gs before hval hW _ hsz _
  exact contract H enc W base args ds gs before hval hW hsz

theorem over : Rows.wholeOrderRow.holds Try.pinned (OpenSpec.ofChange Rows.wholeOrderSpec) :=
  OpenClaim.holds_of_wide 4 Try.f4 rfl rfl rfl rfl rfl rfl rfl ⟨rfl, rfl, rfl, rfl, rfl⟩ rfl rfl rfl rfl rfl (by kernel_rfl) Try.func4 (by kernel_rfl)
    (of_decide_eq_true (by kernel_rfl)) (by unfold Func.isWrapper; first | (rw [if_pos (by decide +kernel)]; kernel_rfl) | (rw [if_neg (by decide +kernel)]; exact ⟨rfl, rfl⟩))
    (fun os started H enc _ => lifted os started H enc)

end Go.Proofs.Ytpejkdabhijcoab.wholeOrder
namespace Go.Proofs.Ytpejkdabhijcoab
theorem wholeOrder_holds : Rows.WholeOrderSaid := wholeOrder.over
#print axioms wholeOrder_holds
end Go.Proofs.Ytpejkdabhijcoab
