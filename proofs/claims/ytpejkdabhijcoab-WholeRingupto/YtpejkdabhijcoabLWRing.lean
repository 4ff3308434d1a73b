/-
  WholeRing: sums and products are taken in any order, and products go over sums.
-/
import Derived.Test.YtpejkdabhijcoabWI6
import Derived.Test.YtpejkdabhijcoabOpenI
namespace Go.Proofs.Ytpejkdabhijcoab.wholeRing
open Go.ChangeShapes Go.WideShapes Go.ChangeAt Go.RowKit Go.Proofs.Ytpejkdabhijcoab
set_option linter.unusedVariables false

theorem ln_addI {A B Z : Int} {n m k : Nat} (h : A + B = Z) (hA : ln (am A) ≤ n) (hB : ln (am B) ≤ m) (hn : n + 1 ≤ k) (hm : m + 1 ≤ k) : ln (am Z) ≤ k := by
  have h1 : am Z ≤ am A + am B := by rw [← h]; unfold am; omega
  have h2 : ln (am A + am B) ≤ k := ln_sum (Nat.lt_of_lt_of_le (ln_lt _) (pow_mono hA)) (Nat.lt_of_lt_of_le (ln_lt _) (pow_mono hB)) hn hm
  exact Nat.le_trans (ln_mono h1) h2
theorem ln_mulI {A B Z : Int} {n m : Nat} (h : A * B = Z) (hA : ln (am A) ≤ n) (hB : ln (am B) ≤ m) : ln (am Z) ≤ n + m := by
  have h1 : am Z = am A * am B := by rw [← h]; unfold am; exact Int.natAbs_mul A B
  rw [h1]
  exact ln_prod (Nat.lt_of_lt_of_le (ln_lt _) (pow_mono hA)) (Nat.lt_of_lt_of_le (ln_lt _) (pow_mono hB))

set_option maxHeartbeats 8000000 in
set_option maxRecDepth 100000 in
theorem walk (s0 : Bool) (a0 : Option Addr) (len0 cap0 X0 : Nat) (s1 : Bool) (a1 : Option Addr) (len1 cap1 X1 : Nat) (s2 : Bool) (a2 : Option Addr) (len2 cap2 X2 : Nat) (w : World) (hS0 : Seg w a0 X0 len0) (hc0 : len0 ≤ cap0) (hb0 : len0 ≤ 1048576) (hS1 : Seg w a1 X1 len1) (hc1 : len1 ≤ cap1) (hb1 : len1 ≤ 1048576) (hS2 : Seg w a2 X2 len2) (hc2 : len2 ≤ cap2) (hb2 : len2 ≤ 1048576) :
    Calls Try.prog 3 #[.agg #[.bool s0, .slice a0 len0 cap0], .agg #[.bool s1, .slice a1 len1 cap1], .agg #[.bool s2, .slice a2 len2 cap2]] w fun e w' => e = .returned (.bool true) ∧ Below w.heap.size w w' := by
  obtain ⟨A, hA⟩ : ∃ Z, sg s0 X0 = Z := ⟨_, rfl⟩
  obtain ⟨B, hB'⟩ : ∃ Z, sg s1 X1 = Z := ⟨_, rfl⟩
  obtain ⟨C, hC⟩ : ∃ Z, sg s2 X2 = Z := ⟨_, rfl⟩
  obtain ⟨Zab, hab⟩ : ∃ Z, A + B = Z := ⟨_, rfl⟩
  obtain ⟨Zbc, hbc⟩ : ∃ Z, B + C = Z := ⟨_, rfl⟩
  obtain ⟨Zabc, habc⟩ : ∃ Z, Zab + C = Z := ⟨_, rfl⟩
  obtain ⟨Mab, mab⟩ : ∃ Z, A * B = Z := ⟨_, rfl⟩
  obtain ⟨Mbc, mbc⟩ : ∃ Z, B * C = Z := ⟨_, rfl⟩
  obtain ⟨Mac, mac⟩ : ∃ Z, A * C = Z := ⟨_, rfl⟩
  obtain ⟨Mabc, mabc⟩ : ∃ Z, Mab * C = Z := ⟨_, rfl⟩
  obtain ⟨Ms, ms⟩ : ∃ Z, Zab * C = Z := ⟨_, rfl⟩
  obtain ⟨A1, ha1⟩ : ∃ Z, A + 1 = Z := ⟨_, rfl⟩
  have E1 : Hid (sg s0 X0 + sg s1 X1 = Zab) := by show _ = _; rw [hA, hB']; exact hab
  have E2 : Hid (sg s1 X1 + sg s0 X0 = Zab) := by show _ = _; rw [hA, hB', Int.add_comm]; exact hab
  have E3 : Hid (sg (ng Zab) (am Zab) + sg s2 X2 = Zabc) := by show _ = _; rw [sg_na, hC]; exact habc
  have E4 : Hid (sg s1 X1 + sg s2 X2 = Zbc) := by show _ = _; rw [hB', hC]; exact hbc
  have E5 : Hid (sg s0 X0 + sg (ng Zbc) (am Zbc) = Zabc) := by show _ = _; rw [sg_na, hA, ← hbc, ← habc, ← hab, Int.add_assoc]
  have E6 : Hid (sg s0 X0 * sg s1 X1 = Mab) := by show _ = _; rw [hA, hB']; exact mab
  have E7 : Hid (sg s1 X1 * sg s0 X0 = Mab) := by show _ = _; rw [hA, hB', Int.mul_comm]; exact mab
  have E8 : Hid (sg (ng Mab) (am Mab) * sg s2 X2 = Mabc) := by show _ = _; rw [sg_na, hC]; exact mabc
  have E9 : Hid (sg s1 X1 * sg s2 X2 = Mbc) := by show _ = _; rw [hB', hC]; exact mbc
  have E10 : Hid (sg s0 X0 * sg (ng Mbc) (am Mbc) = Mabc) := by show _ = _; rw [sg_na, hA, ← mbc, ← mabc, ← mab, Int.mul_assoc]
  have E11 : Hid (sg (ng Zab) (am Zab) * sg s2 X2 = Ms) := by show _ = _; rw [sg_na, hC]; exact ms
  have E12 : Hid (sg s0 X0 * sg s2 X2 = Mac) := by show _ = _; rw [hA, hC]; exact mac
  have E13 : Hid (sg (ng Mac) (am Mac) + sg (ng Mbc) (am Mbc) = Ms) := by show _ = _; rw [sg_na, sg_na, ← mac, ← mbc, ← ms, ← hab, Int.add_mul]
  have E14 : Hid (sg (ng Zab) (am Zab) - sg s1 X1 = A) := by show _ = _; rw [sg_na, hB']; omega
  have E15 : Hid (sg s0 X0 = A) := hA
  have E16 : Hid (sg s0 X0 * sg (ng 1) (am 1) = A) := by show _ = _; rw [sg_na, hA, Int.mul_one]
  have E17 : Hid (sg s0 X0 + sg (ng 1) (am 1) = A1) := by show _ = _; rw [sg_na, hA]; exact ha1
  have lA : ln (am A) ≤ 1048576 := by rw [← hA, am_sg]; have := ln_le_of_lt hS0.1; omega
  have lB : ln (am B) ≤ 1048576 := by rw [← hB', am_sg]; have := ln_le_of_lt hS1.1; omega
  have lC : ln (am C) ≤ 1048576 := by rw [← hC, am_sg]; have := ln_le_of_lt hS2.1; omega
  have l1 := ln_am_small (z := 1) (by omega) (by omega)
  have lab : ln (am Zab) ≤ 1048577 := ln_addI hab lA lB (by omega) (by omega)
  have lbc : ln (am Zbc) ≤ 1048577 := ln_addI hbc lB lC (by omega) (by omega)
  have labc : ln (am Zabc) ≤ 1048578 := ln_addI habc lab lC (by omega) (by omega)
  have kab : ln (am Mab) ≤ 2097152 := by have := ln_mulI mab lA lB; omega
  have kbc : ln (am Mbc) ≤ 2097152 := by have := ln_mulI mbc lB lC; omega
  have kac : ln (am Mac) ≤ 2097152 := by have := ln_mulI mac lA lC; omega
  have kabc : ln (am Mabc) ≤ 4000000 := by have := ln_mulI mabc kab lC; omega
  have ks : ln (am Ms) ≤ 4000000 := by have := ln_mulI ms lab lC; omega
  have la1 : ln (am A1) ≤ 1048578 := ln_addI ha1 lA l1 (by omega) (by omega)
  have K1 : ∀ w' ao, Seg w' ao (am A1) (ln (am A1)) → Seg w' a0 X0 len0 → Calls Try.prog 14 #[.agg #[.bool (ng A1), .slice ao (ln (am A1)) (ln (am A1))], .agg #[.bool s0, .slice a0 len0 cap0]] w' fun e w'' => e = .returned (.int .i64 1) ∧ Below w'.heap.size w' w'' :=
    fun w' ao h1 h2 => by
      have := wCmp_is (ng A1) ao _ _ (am A1) s0 a0 len0 cap0 X0 w' (Nat.le_refl _) (by omega) h1 hc0 (by omega) h2
      rwa [sg_na, hA, ← ha1, show A + 1 - A = 1 by omega, show sgn 1 = 1 from rfl, ha1] at this
  have HK1 := hide' K1
  clear K1 hA hB' hC hab hbc habc mab mbc mac mabc ms ha1
  go_enter Try.func3, Try.ntmps3
  go_wp2_with fail
  have q00 : ((((w.alloc (.cells #[.bool s0, .slice a0 len0 cap0] 25)).alloc (.cells #[.bool s1, .slice a1 len1 cap1] 25)).alloc (.cells #[.bool s2, .slice a2 len2 cap2] 25))).cell? ⟨w.heap.size, 0, none⟩ = some (.bool s0) := by go_simp
  have q01 : ((((w.alloc (.cells #[.bool s0, .slice a0 len0 cap0] 25)).alloc (.cells #[.bool s1, .slice a1 len1 cap1] 25)).alloc (.cells #[.bool s2, .slice a2 len2 cap2] 25))).cell? ⟨w.heap.size, 1, none⟩ = some (.slice a0 len0 cap0) := by go_simp
  have q10 : ((((w.alloc (.cells #[.bool s0, .slice a0 len0 cap0] 25)).alloc (.cells #[.bool s1, .slice a1 len1 cap1] 25)).alloc (.cells #[.bool s2, .slice a2 len2 cap2] 25))).cell? ⟨w.heap.size + 1, 0, none⟩ = some (.bool s1) := by go_simp
  have q11 : ((((w.alloc (.cells #[.bool s0, .slice a0 len0 cap0] 25)).alloc (.cells #[.bool s1, .slice a1 len1 cap1] 25)).alloc (.cells #[.bool s2, .slice a2 len2 cap2] 25))).cell? ⟨w.heap.size + 1, 1, none⟩ = some (.slice a1 len1 cap1) := by go_simp
  have q20 : ((((w.alloc (.cells #[.bool s0, .slice a0 len0 cap0] 25)).alloc (.cells #[.bool s1, .slice a1 len1 cap1] 25)).alloc (.cells #[.bool s2, .slice a2 len2 cap2] 25))).cell? ⟨w.heap.size + 1 + 1, 0, none⟩ = some (.bool s2) := by go_simp
  have q21 : ((((w.alloc (.cells #[.bool s0, .slice a0 len0 cap0] 25)).alloc (.cells #[.bool s1, .slice a1 len1 cap1] 25)).alloc (.cells #[.bool s2, .slice a2 len2 cap2] 25))).cell? ⟨w.heap.size + 1 + 1, 1, none⟩ = some (.slice a2 len2 cap2) := by go_simp
  have hB : Below w.heap.size w ((((w.alloc (.cells #[.bool s0, .slice a0 len0 cap0] 25)).alloc (.cells #[.bool s1, .slice a1 len1 cap1] 25)).alloc (.cells #[.bool s2, .slice a2 len2 cap2] 25))) := ((((Below.refl _ _).alloc (by (try simp only [World.size_alloc]); omega) _).alloc (by (try simp only [World.size_alloc]); omega) _).alloc (by (try simp only [World.size_alloc]); omega) _)
  have hz : ((((w.alloc (.cells #[.bool s0, .slice a0 len0 cap0] 25)).alloc (.cells #[.bool s1, .slice a1 len1 cap1] 25)).alloc (.cells #[.bool s2, .slice a2 len2 cap2] 25))).heap.size = w.heap.size + 1 + 1 + 1 := by simp only [World.size_alloc]
  generalize (((w.alloc (.cells #[.bool s0, .slice a0 len0 cap0] 25)).alloc (.cells #[.bool s1, .slice a1 len1 cap1] 25)).alloc (.cells #[.bool s2, .slice a2 len2 cap2] 25)) = W at q00 q01 q10 q11 q20 q21 hB hz ⊢
  have hBW : Below W.heap.size W W := Below.refl _ _
  refine (wAdd_is s0 a0 len0 cap0 X0 s1 a1 len1 cap1 X1 (Zab) _ (by omega) (by omega) (sb hS0 hB hBW) (by omega) (by omega) (sb hS1 hB hBW) E1.out).mono ?_
  rintro e w3 ⟨a3, rfl, h3⟩
  have b3 := h3.below
  replace h3 := h3.back hBW
  replace hBW := hBW.trans (b3.mono hBW.size)
  replace q00 := below_cell b3 q00
  replace q01 := below_cell b3 q01
  replace q10 := below_cell b3 q10
  replace q11 := below_cell b3 q11
  replace q20 := below_cell b3 q20
  replace q21 := below_cell b3 q21
  go_wp2_with fail
  have l300 : ((w3.alloc (.cells #[.bool (ng Zab), .slice a3 (ln (am Zab)) (ln (am Zab))] 25))).cell? ⟨w3.heap.size, 0, none⟩ = some (.bool (ng Zab)) := by go_simp
  have l301 : ((w3.alloc (.cells #[.bool (ng Zab), .slice a3 (ln (am Zab)) (ln (am Zab))] 25))).cell? ⟨w3.heap.size, 1, none⟩ = some (.slice a3 (ln (am Zab)) (ln (am Zab))) := by go_simp
  have c3 : Below w3.heap.size w3 ((w3.alloc (.cells #[.bool (ng Zab), .slice a3 (ln (am Zab)) (ln (am Zab))] 25))) := ((Below.refl _ _).alloc (by (try simp only [World.size_alloc]); omega) _)
  replace hBW := hBW.trans (c3.mono hBW.size)
  replace q00 := below_cell c3 q00
  replace q01 := below_cell c3 q01
  replace q10 := below_cell c3 q10
  replace q11 := below_cell c3 q11
  replace q20 := below_cell c3 q20
  replace q21 := below_cell c3 q21
  replace h3 := h3.later c3
  generalize (w3.alloc (.cells #[.bool (ng Zab), .slice a3 (ln (am Zab)) (ln (am Zab))] 25)) = w3x at q00 q01 q10 q11 q20 q21 l300 l301 h3 hBW c3 ⊢
  clear c3
  replace hBW := hBW.drew
  replace h3 := h3.drew
  first
    | go_region_held3 (fun w' => w'.cell? ⟨w.heap.size, 0, none⟩ = some (.bool s0) ∧ w'.cell? ⟨w.heap.size, 1, none⟩ = some (.slice a0 len0 cap0) ∧ w'.cell? ⟨w.heap.size + 1, 0, none⟩ = some (.bool s1) ∧ w'.cell? ⟨w.heap.size + 1, 1, none⟩ = some (.slice a1 len1 cap1) ∧ w'.cell? ⟨w.heap.size + 1 + 1, 0, none⟩ = some (.bool s2) ∧ w'.cell? ⟨w.heap.size + 1 + 1, 1, none⟩ = some (.slice a2 len2 cap2) ∧ w'.cell? ⟨w3.heap.size, 0, none⟩ = some (.bool (ng Zab)) ∧ w'.cell? ⟨w3.heap.size, 1, none⟩ = some (.slice a3 (ln (am Zab)) (ln (am Zab))) ∧ Below w.heap.size w w')
        (first | exact ⟨q00, q01, q10, q11, q20, q21, l300, l301, hB.trans (hBW.mono hB.size)⟩ | exact kp8 b4 (by assumption) | exact kp8 b5 (by assumption) | exact kp8 b6 (by assumption) | exact kp8 b7 (by assumption) | exact kp8 b8 (by assumption) | exact kp8 b9 (by assumption) | exact kp8 (below_alloc _) (by assumption))
        (first
          | (go_at_call 8; go_at_call_of 8 (Value.agg #[Value.bool s1, Value.slice a1 len1 cap1]); go_at_call_of 8 (Value.agg #[Value.bool s0, Value.slice a0 len0 cap0]); refine (wAdd_is s1 a1 len1 cap1 X1 s0 a0 len0 cap0 X0 (Zab) _ (by omega) (by omega) (sb hS1 hB hBW) (by omega) (by omega) (sb hS0 hB hBW) E2.out).mono ?_; rintro e w4 ⟨a4, rfl, h4⟩; have b4 := h4.below; replace h4 := h4.back hBW; replace hBW := hBW.trans (b4.mono hBW.size); replace q00 := below_cell b4 q00; replace q01 := below_cell b4 q01; replace q10 := below_cell b4 q10; replace q11 := below_cell b4 q11; replace q20 := below_cell b4 q20; replace q21 := below_cell b4 q21; replace l300 := below_cell b4 l300; replace l301 := below_cell b4 l301; replace h3 := h3.later b4)
          | (go_at_call 9; go_at_call_of 9 (Value.agg #[Value.bool (ng Zab), Value.slice a3 (ln (am Zab)) (ln (am Zab))]); go_at_call_of 9 (Value.agg #[Value.bool (ng Zab), Value.slice a4 (ln (am Zab)) (ln (am Zab))]); refine (sameI_is (Zab) a3 a4 _ _ _ (by omega) h3.seg h4.seg).mono ?_; rintro e w5 ⟨rfl, b5⟩; replace hBW := hBW.trans (b5.mono hBW.size); replace q00 := below_cell b5 q00; replace q01 := below_cell b5 q01; replace q10 := below_cell b5 q10; replace q11 := below_cell b5 q11; replace q20 := below_cell b5 q20; replace q21 := below_cell b5 q21; replace l300 := below_cell b5 l300; replace l301 := below_cell b5 l301; replace h3 := h3.later b5; replace h4 := h4.later b5)
          | (go_at_call 8; go_at_call_of 8 (Value.agg #[Value.bool (ng Zab), Value.slice a3 (ln (am Zab)) (ln (am Zab))]); go_at_call_of 8 (Value.agg #[Value.bool s2, Value.slice a2 len2 cap2]); refine (wAdd_is (ng Zab) a3 (ln (am Zab)) (ln (am Zab)) (am Zab) s2 a2 len2 cap2 X2 (Zabc) _ (by omega) (by omega) h3.seg (by omega) (by omega) (sb hS2 hB hBW) E3.out).mono ?_; rintro e w6 ⟨a6, rfl, h6⟩; have b6 := h6.below; replace h6 := h6.back hBW; replace hBW := hBW.trans (b6.mono hBW.size); replace q00 := below_cell b6 q00; replace q01 := below_cell b6 q01; replace q10 := below_cell b6 q10; replace q11 := below_cell b6 q11; replace q20 := below_cell b6 q20; replace q21 := below_cell b6 q21; replace l300 := below_cell b6 l300; replace l301 := below_cell b6 l301; replace h3 := h3.later b6; replace h4 := h4.later b6)
          | (go_at_call 8; go_at_call_of 8 (Value.agg #[Value.bool s1, Value.slice a1 len1 cap1]); go_at_call_of 8 (Value.agg #[Value.bool s2, Value.slice a2 len2 cap2]); refine (wAdd_is s1 a1 len1 cap1 X1 s2 a2 len2 cap2 X2 (Zbc) _ (by omega) (by omega) (sb hS1 hB hBW) (by omega) (by omega) (sb hS2 hB hBW) E4.out).mono ?_; rintro e w7 ⟨a7, rfl, h7⟩; have b7 := h7.below; replace h7 := h7.back hBW; replace hBW := hBW.trans (b7.mono hBW.size); replace q00 := below_cell b7 q00; replace q01 := below_cell b7 q01; replace q10 := below_cell b7 q10; replace q11 := below_cell b7 q11; replace q20 := below_cell b7 q20; replace q21 := below_cell b7 q21; replace l300 := below_cell b7 l300; replace l301 := below_cell b7 l301; replace h3 := h3.later b7; replace h4 := h4.later b7; replace h6 := h6.later b7)
          | (go_at_call 8; go_at_call_of 8 (Value.agg #[Value.bool s0, Value.slice a0 len0 cap0]); go_at_call_of 8 (Value.agg #[Value.bool (ng Zbc), Value.slice a7 (ln (am Zbc)) (ln (am Zbc))]); refine (wAdd_is s0 a0 len0 cap0 X0 (ng Zbc) a7 (ln (am Zbc)) (ln (am Zbc)) (am Zbc) (Zabc) _ (by omega) (by omega) (sb hS0 hB hBW) (by omega) (by omega) h7.seg E5.out).mono ?_; rintro e w8 ⟨a8, rfl, h8⟩; have b8 := h8.below; replace h8 := h8.back hBW; replace hBW := hBW.trans (b8.mono hBW.size); replace q00 := below_cell b8 q00; replace q01 := below_cell b8 q01; replace q10 := below_cell b8 q10; replace q11 := below_cell b8 q11; replace q20 := below_cell b8 q20; replace q21 := below_cell b8 q21; replace l300 := below_cell b8 l300; replace l301 := below_cell b8 l301; replace h3 := h3.later b8; replace h4 := h4.later b8; replace h6 := h6.later b8; replace h7 := h7.later b8)
          | (go_at_call 9; go_at_call_of 9 (Value.agg #[Value.bool (ng Zabc), Value.slice a6 (ln (am Zabc)) (ln (am Zabc))]); go_at_call_of 9 (Value.agg #[Value.bool (ng Zabc), Value.slice a8 (ln (am Zabc)) (ln (am Zabc))]); refine (sameI_is (Zabc) a6 a8 _ _ _ (by omega) h6.seg h8.seg).mono ?_; rintro e w9 ⟨rfl, b9⟩; replace hBW := hBW.trans (b9.mono hBW.size); replace q00 := below_cell b9 q00; replace q01 := below_cell b9 q01; replace q10 := below_cell b9 q10; replace q11 := below_cell b9 q11; replace q20 := below_cell b9 q20; replace q21 := below_cell b9 q21; replace l300 := below_cell b9 l300; replace l301 := below_cell b9 l301; replace h3 := h3.later b9; replace h4 := h4.later b9; replace h6 := h6.later b9; replace h7 := h7.later b9; replace h8 := h8.later b9))
    | fail
  clear h4 h6 h7 h8
  go_wp2_with fail
  refine (wMul_is s0 a0 len0 cap0 X0 s1 a1 len1 cap1 X1 (Mab) _ (by omega) (by omega) (sb hS0 hB hBW) (by omega) (by omega) (sb hS1 hB hBW) E6.out).mono ?_
  rintro e w10 ⟨a10, rfl, h10⟩
  have b10 := h10.below
  replace h10 := h10.back hBW
  replace hBW := hBW.trans (b10.mono hBW.size)
  replace q00 := below_cell b10 q00
  replace q01 := below_cell b10 q01
  replace q10 := below_cell b10 q10
  replace q11 := below_cell b10 q11
  replace q20 := below_cell b10 q20
  replace q21 := below_cell b10 q21
  replace l300 := below_cell b10 l300
  replace l301 := below_cell b10 l301
  replace h3 := h3.later b10
  go_wp2_with fail
  have l1000 : ((w10.alloc (.cells #[.bool (ng Mab), .slice a10 (ln (am Mab)) (ln (am Mab))] 25))).cell? ⟨w10.heap.size, 0, none⟩ = some (.bool (ng Mab)) := by go_simp
  have l1001 : ((w10.alloc (.cells #[.bool (ng Mab), .slice a10 (ln (am Mab)) (ln (am Mab))] 25))).cell? ⟨w10.heap.size, 1, none⟩ = some (.slice a10 (ln (am Mab)) (ln (am Mab))) := by go_simp
  have c10 : Below w10.heap.size w10 ((w10.alloc (.cells #[.bool (ng Mab), .slice a10 (ln (am Mab)) (ln (am Mab))] 25))) := ((Below.refl _ _).alloc (by (try simp only [World.size_alloc]); omega) _)
  replace hBW := hBW.trans (c10.mono hBW.size)
  replace q00 := below_cell c10 q00
  replace q01 := below_cell c10 q01
  replace q10 := below_cell c10 q10
  replace q11 := below_cell c10 q11
  replace q20 := below_cell c10 q20
  replace q21 := below_cell c10 q21
  replace l300 := below_cell c10 l300
  replace l301 := below_cell c10 l301
  replace h3 := h3.later c10
  replace h10 := h10.later c10
  generalize (w10.alloc (.cells #[.bool (ng Mab), .slice a10 (ln (am Mab)) (ln (am Mab))] 25)) = w10x at q00 q01 q10 q11 q20 q21 l300 l301 l1000 l1001 h3 h10 hBW c10 ⊢
  clear c10
  replace hBW := hBW.drew
  replace h3 := h3.drew
  replace h10 := h10.drew
  first
    | go_region_held3 (fun w' => w'.cell? ⟨w.heap.size, 0, none⟩ = some (.bool s0) ∧ w'.cell? ⟨w.heap.size, 1, none⟩ = some (.slice a0 len0 cap0) ∧ w'.cell? ⟨w.heap.size + 1, 0, none⟩ = some (.bool s1) ∧ w'.cell? ⟨w.heap.size + 1, 1, none⟩ = some (.slice a1 len1 cap1) ∧ w'.cell? ⟨w.heap.size + 1 + 1, 0, none⟩ = some (.bool s2) ∧ w'.cell? ⟨w.heap.size + 1 + 1, 1, none⟩ = some (.slice a2 len2 cap2) ∧ w'.cell? ⟨w3.heap.size, 0, none⟩ = some (.bool (ng Zab)) ∧ w'.cell? ⟨w3.heap.size, 1, none⟩ = some (.slice a3 (ln (am Zab)) (ln (am Zab))) ∧ w'.cell? ⟨w10.heap.size, 0, none⟩ = some (.bool (ng Mab)) ∧ w'.cell? ⟨w10.heap.size, 1, none⟩ = some (.slice a10 (ln (am Mab)) (ln (am Mab))) ∧ Below w.heap.size w w')
        (first | exact ⟨q00, q01, q10, q11, q20, q21, l300, l301, l1000, l1001, hB.trans (hBW.mono hB.size)⟩ | exact kp10 b11 (by assumption) | exact kp10 b12 (by assumption) | exact kp10 b13 (by assumption) | exact kp10 b14 (by assumption) | exact kp10 b15 (by assumption) | exact kp10 b16 (by assumption) | exact kp10 (below_alloc _) (by assumption))
        (first
          | (go_at_call 10; go_at_call_of 10 (Value.agg #[Value.bool s1, Value.slice a1 len1 cap1]); go_at_call_of 10 (Value.agg #[Value.bool s0, Value.slice a0 len0 cap0]); refine (wMul_is s1 a1 len1 cap1 X1 s0 a0 len0 cap0 X0 (Mab) _ (by omega) (by omega) (sb hS1 hB hBW) (by omega) (by omega) (sb hS0 hB hBW) E7.out).mono ?_; rintro e w11 ⟨a11, rfl, h11⟩; have b11 := h11.below; replace h11 := h11.back hBW; replace hBW := hBW.trans (b11.mono hBW.size); replace q00 := below_cell b11 q00; replace q01 := below_cell b11 q01; replace q10 := below_cell b11 q10; replace q11 := below_cell b11 q11; replace q20 := below_cell b11 q20; replace q21 := below_cell b11 q21; replace l300 := below_cell b11 l300; replace l301 := below_cell b11 l301; replace l1000 := below_cell b11 l1000; replace l1001 := below_cell b11 l1001; replace h3 := h3.later b11; replace h10 := h10.later b11)
          | (go_at_call 9; go_at_call_of 9 (Value.agg #[Value.bool (ng Mab), Value.slice a10 (ln (am Mab)) (ln (am Mab))]); go_at_call_of 9 (Value.agg #[Value.bool (ng Mab), Value.slice a11 (ln (am Mab)) (ln (am Mab))]); refine (sameI_is (Mab) a10 a11 _ _ _ (by omega) h10.seg h11.seg).mono ?_; rintro e w12 ⟨rfl, b12⟩; replace hBW := hBW.trans (b12.mono hBW.size); replace q00 := below_cell b12 q00; replace q01 := below_cell b12 q01; replace q10 := below_cell b12 q10; replace q11 := below_cell b12 q11; replace q20 := below_cell b12 q20; replace q21 := below_cell b12 q21; replace l300 := below_cell b12 l300; replace l301 := below_cell b12 l301; replace l1000 := below_cell b12 l1000; replace l1001 := below_cell b12 l1001; replace h3 := h3.later b12; replace h10 := h10.later b12; replace h11 := h11.later b12)
          | (go_at_call 10; go_at_call_of 10 (Value.agg #[Value.bool (ng Mab), Value.slice a10 (ln (am Mab)) (ln (am Mab))]); go_at_call_of 10 (Value.agg #[Value.bool s2, Value.slice a2 len2 cap2]); refine (wMul_is (ng Mab) a10 (ln (am Mab)) (ln (am Mab)) (am Mab) s2 a2 len2 cap2 X2 (Mabc) _ (by omega) (by omega) h10.seg (by omega) (by omega) (sb hS2 hB hBW) E8.out).mono ?_; rintro e w13 ⟨a13, rfl, h13⟩; have b13 := h13.below; replace h13 := h13.back hBW; replace hBW := hBW.trans (b13.mono hBW.size); replace q00 := below_cell b13 q00; replace q01 := below_cell b13 q01; replace q10 := below_cell b13 q10; replace q11 := below_cell b13 q11; replace q20 := below_cell b13 q20; replace q21 := below_cell b13 q21; replace l300 := below_cell b13 l300; replace l301 := below_cell b13 l301; replace l1000 := below_cell b13 l1000; replace l1001 := below_cell b13 l1001; replace h3 := h3.later b13; replace h10 := h10.later b13; replace h11 := h11.later b13)
          | (go_at_call 10; go_at_call_of 10 (Value.agg #[Value.bool s1, Value.slice a1 len1 cap1]); go_at_call_of 10 (Value.agg #[Value.bool s2, Value.slice a2 len2 cap2]); refine (wMul_is s1 a1 len1 cap1 X1 s2 a2 len2 cap2 X2 (Mbc) _ (by omega) (by omega) (sb hS1 hB hBW) (by omega) (by omega) (sb hS2 hB hBW) E9.out).mono ?_; rintro e w14 ⟨a14, rfl, h14⟩; have b14 := h14.below; replace h14 := h14.back hBW; replace hBW := hBW.trans (b14.mono hBW.size); replace q00 := below_cell b14 q00; replace q01 := below_cell b14 q01; replace q10 := below_cell b14 q10; replace q11 := below_cell b14 q11; replace q20 := below_cell b14 q20; replace q21 := below_cell b14 q21; replace l300 := below_cell b14 l300; replace l301 := below_cell b14 l301; replace l1000 := below_cell b14 l1000; replace l1001 := below_cell b14 l1001; replace h3 := h3.later b14; replace h10 := h10.later b14; replace h11 := h11.later b14; replace h13 := h13.later b14)
          | (go_at_call 10; go_at_call_of 10 (Value.agg #[Value.bool s0, Value.slice a0 len0 cap0]); go_at_call_of 10 (Value.agg #[Value.bool (ng Mbc), Value.slice a14 (ln (am Mbc)) (ln (am Mbc))]); refine (wMul_is s0 a0 len0 cap0 X0 (ng Mbc) a14 (ln (am Mbc)) (ln (am Mbc)) (am Mbc) (Mabc) _ (by omega) (by omega) (sb hS0 hB hBW) (by omega) (by omega) h14.seg E10.out).mono ?_; rintro e w15 ⟨a15, rfl, h15⟩; have b15 := h15.below; replace h15 := h15.back hBW; replace hBW := hBW.trans (b15.mono hBW.size); replace q00 := below_cell b15 q00; replace q01 := below_cell b15 q01; replace q10 := below_cell b15 q10; replace q11 := below_cell b15 q11; replace q20 := below_cell b15 q20; replace q21 := below_cell b15 q21; replace l300 := below_cell b15 l300; replace l301 := below_cell b15 l301; replace l1000 := below_cell b15 l1000; replace l1001 := below_cell b15 l1001; replace h3 := h3.later b15; replace h10 := h10.later b15; replace h11 := h11.later b15; replace h13 := h13.later b15; replace h14 := h14.later b15)
          | (go_at_call 9; go_at_call_of 9 (Value.agg #[Value.bool (ng Mabc), Value.slice a13 (ln (am Mabc)) (ln (am Mabc))]); go_at_call_of 9 (Value.agg #[Value.bool (ng Mabc), Value.slice a15 (ln (am Mabc)) (ln (am Mabc))]); refine (sameI_is (Mabc) a13 a15 _ _ _ (by omega) h13.seg h15.seg).mono ?_; rintro e w16 ⟨rfl, b16⟩; replace hBW := hBW.trans (b16.mono hBW.size); replace q00 := below_cell b16 q00; replace q01 := below_cell b16 q01; replace q10 := below_cell b16 q10; replace q11 := below_cell b16 q11; replace q20 := below_cell b16 q20; replace q21 := below_cell b16 q21; replace l300 := below_cell b16 l300; replace l301 := below_cell b16 l301; replace l1000 := below_cell b16 l1000; replace l1001 := below_cell b16 l1001; replace h3 := h3.later b16; replace h10 := h10.later b16; replace h11 := h11.later b16; replace h13 := h13.later b16; replace h14 := h14.later b16; replace h15 := h15.later b16))
    | fail
  clear h11 h13 h14 h15
  go_wp2_with fail
  replace hBW := hBW.drew
  replace h3 := h3.drew
  replace h10 := h10.drew
  first
    | go_region_held3 (fun w' => w'.cell? ⟨w.heap.size, 0, none⟩ = some (.bool s0) ∧ w'.cell? ⟨w.heap.size, 1, none⟩ = some (.slice a0 len0 cap0) ∧ w'.cell? ⟨w.heap.size + 1, 0, none⟩ = some (.bool s1) ∧ w'.cell? ⟨w.heap.size + 1, 1, none⟩ = some (.slice a1 len1 cap1) ∧ w'.cell? ⟨w.heap.size + 1 + 1, 0, none⟩ = some (.bool s2) ∧ w'.cell? ⟨w.heap.size + 1 + 1, 1, none⟩ = some (.slice a2 len2 cap2) ∧ w'.cell? ⟨w3.heap.size, 0, none⟩ = some (.bool (ng Zab)) ∧ w'.cell? ⟨w3.heap.size, 1, none⟩ = some (.slice a3 (ln (am Zab)) (ln (am Zab))) ∧ w'.cell? ⟨w10.heap.size, 0, none⟩ = some (.bool (ng Mab)) ∧ w'.cell? ⟨w10.heap.size, 1, none⟩ = some (.slice a10 (ln (am Mab)) (ln (am Mab))) ∧ Below w.heap.size w w')
        (first | exact ⟨q00, q01, q10, q11, q20, q21, l300, l301, l1000, l1001, hB.trans (hBW.mono hB.size)⟩ | exact kp10 b17 (by assumption) | exact kp10 b18 (by assumption) | exact kp10 b19 (by assumption) | exact kp10 b20 (by assumption) | exact kp10 b21 (by assumption) | exact kp10 b22 (by assumption) | exact kp10 b23 (by assumption) | exact kp10 b24 (by assumption) | exact kp10 (below_alloc _) (by assumption))
        (first
          | (go_at_call 10; go_at_call_of 10 (Value.agg #[Value.bool (ng Zab), Value.slice a3 (ln (am Zab)) (ln (am Zab))]); go_at_call_of 10 (Value.agg #[Value.bool s2, Value.slice a2 len2 cap2]); refine (wMul_is (ng Zab) a3 (ln (am Zab)) (ln (am Zab)) (am Zab) s2 a2 len2 cap2 X2 (Ms) _ (by omega) (by omega) h3.seg (by omega) (by omega) (sb hS2 hB hBW) E11.out).mono ?_; rintro e w17 ⟨a17, rfl, h17⟩; have b17 := h17.below; replace h17 := h17.back hBW; replace hBW := hBW.trans (b17.mono hBW.size); replace q00 := below_cell b17 q00; replace q01 := below_cell b17 q01; replace q10 := below_cell b17 q10; replace q11 := below_cell b17 q11; replace q20 := below_cell b17 q20; replace q21 := below_cell b17 q21; replace l300 := below_cell b17 l300; replace l301 := below_cell b17 l301; replace l1000 := below_cell b17 l1000; replace l1001 := below_cell b17 l1001; replace h3 := h3.later b17; replace h10 := h10.later b17)
          | (go_at_call 10; go_at_call_of 10 (Value.agg #[Value.bool s0, Value.slice a0 len0 cap0]); go_at_call_of 10 (Value.agg #[Value.bool s2, Value.slice a2 len2 cap2]); refine (wMul_is s0 a0 len0 cap0 X0 s2 a2 len2 cap2 X2 (Mac) _ (by omega) (by omega) (sb hS0 hB hBW) (by omega) (by omega) (sb hS2 hB hBW) E12.out).mono ?_; rintro e w18 ⟨a18, rfl, h18⟩; have b18 := h18.below; replace h18 := h18.back hBW; replace hBW := hBW.trans (b18.mono hBW.size); replace q00 := below_cell b18 q00; replace q01 := below_cell b18 q01; replace q10 := below_cell b18 q10; replace q11 := below_cell b18 q11; replace q20 := below_cell b18 q20; replace q21 := below_cell b18 q21; replace l300 := below_cell b18 l300; replace l301 := below_cell b18 l301; replace l1000 := below_cell b18 l1000; replace l1001 := below_cell b18 l1001; replace h3 := h3.later b18; replace h10 := h10.later b18; replace h17 := h17.later b18)
          | (go_at_call 10; go_at_call_of 10 (Value.agg #[Value.bool s1, Value.slice a1 len1 cap1]); go_at_call_of 10 (Value.agg #[Value.bool s2, Value.slice a2 len2 cap2]); refine (wMul_is s1 a1 len1 cap1 X1 s2 a2 len2 cap2 X2 (Mbc) _ (by omega) (by omega) (sb hS1 hB hBW) (by omega) (by omega) (sb hS2 hB hBW) E9.out).mono ?_; rintro e w19 ⟨a19, rfl, h19⟩; have b19 := h19.below; replace h19 := h19.back hBW; replace hBW := hBW.trans (b19.mono hBW.size); replace q00 := below_cell b19 q00; replace q01 := below_cell b19 q01; replace q10 := below_cell b19 q10; replace q11 := below_cell b19 q11; replace q20 := below_cell b19 q20; replace q21 := below_cell b19 q21; replace l300 := below_cell b19 l300; replace l301 := below_cell b19 l301; replace l1000 := below_cell b19 l1000; replace l1001 := below_cell b19 l1001; replace h3 := h3.later b19; replace h10 := h10.later b19; replace h17 := h17.later b19; replace h18 := h18.later b19)
          | (go_at_call 8; go_at_call_of 8 (Value.agg #[Value.bool (ng Mac), Value.slice a18 (ln (am Mac)) (ln (am Mac))]); go_at_call_of 8 (Value.agg #[Value.bool (ng Mbc), Value.slice a19 (ln (am Mbc)) (ln (am Mbc))]); refine (wAdd_is (ng Mac) a18 (ln (am Mac)) (ln (am Mac)) (am Mac) (ng Mbc) a19 (ln (am Mbc)) (ln (am Mbc)) (am Mbc) (Ms) _ (by omega) (by omega) h18.seg (by omega) (by omega) h19.seg E13.out).mono ?_; rintro e w20 ⟨a20, rfl, h20⟩; have b20 := h20.below; replace h20 := h20.back hBW; replace hBW := hBW.trans (b20.mono hBW.size); replace q00 := below_cell b20 q00; replace q01 := below_cell b20 q01; replace q10 := below_cell b20 q10; replace q11 := below_cell b20 q11; replace q20 := below_cell b20 q20; replace q21 := below_cell b20 q21; replace l300 := below_cell b20 l300; replace l301 := below_cell b20 l301; replace l1000 := below_cell b20 l1000; replace l1001 := below_cell b20 l1001; replace h3 := h3.later b20; replace h10 := h10.later b20; replace h17 := h17.later b20; replace h18 := h18.later b20; replace h19 := h19.later b20)
          | (go_at_call 9; go_at_call_of 9 (Value.agg #[Value.bool (ng Ms), Value.slice a17 (ln (am Ms)) (ln (am Ms))]); go_at_call_of 9 (Value.agg #[Value.bool (ng Ms), Value.slice a20 (ln (am Ms)) (ln (am Ms))]); refine (sameI_is (Ms) a17 a20 _ _ _ (by omega) h17.seg h20.seg).mono ?_; rintro e w21 ⟨rfl, b21⟩; replace hBW := hBW.trans (b21.mono hBW.size); replace q00 := below_cell b21 q00; replace q01 := below_cell b21 q01; replace q10 := below_cell b21 q10; replace q11 := below_cell b21 q11; replace q20 := below_cell b21 q20; replace q21 := below_cell b21 q21; replace l300 := below_cell b21 l300; replace l301 := below_cell b21 l301; replace l1000 := below_cell b21 l1000; replace l1001 := below_cell b21 l1001; replace h3 := h3.later b21; replace h10 := h10.later b21; replace h17 := h17.later b21; replace h18 := h18.later b21; replace h19 := h19.later b21; replace h20 := h20.later b21)
          | (go_at_call 11; go_at_call_of 11 (Value.agg #[Value.bool (ng Zab), Value.slice a3 (ln (am Zab)) (ln (am Zab))]); go_at_call_of 11 (Value.agg #[Value.bool s1, Value.slice a1 len1 cap1]); refine (wSub_is (ng Zab) a3 (ln (am Zab)) (ln (am Zab)) (am Zab) s1 a1 len1 cap1 X1 (A) _ (by omega) (by omega) h3.seg (by omega) (by omega) (sb hS1 hB hBW) E14.out).mono ?_; rintro e w22 ⟨a22, rfl, h22⟩; have b22 := h22.below; replace h22 := h22.back hBW; replace hBW := hBW.trans (b22.mono hBW.size); replace q00 := below_cell b22 q00; replace q01 := below_cell b22 q01; replace q10 := below_cell b22 q10; replace q11 := below_cell b22 q11; replace q20 := below_cell b22 q20; replace q21 := below_cell b22 q21; replace l300 := below_cell b22 l300; replace l301 := below_cell b22 l301; replace l1000 := below_cell b22 l1000; replace l1001 := below_cell b22 l1001; replace h3 := h3.later b22; replace h10 := h10.later b22; replace h17 := h17.later b22; replace h18 := h18.later b22; replace h19 := h19.later b22; replace h20 := h20.later b22)
          | (go_at_call 12; go_at_call_of 12 (Value.agg #[Value.bool s0, Value.slice a0 len0 cap0]); refine (wNorm_is s0 a0 len0 cap0 X0 (A) _ (by omega) (by omega) (sb hS0 hB hBW) E15.out).mono ?_; rintro e w23 ⟨a23, rfl, h23⟩; have b23 := h23.below; replace h23 := h23.back hBW; replace hBW := hBW.trans (b23.mono hBW.size); replace q00 := below_cell b23 q00; replace q01 := below_cell b23 q01; replace q10 := below_cell b23 q10; replace q11 := below_cell b23 q11; replace q20 := below_cell b23 q20; replace q21 := below_cell b23 q21; replace l300 := below_cell b23 l300; replace l301 := below_cell b23 l301; replace l1000 := below_cell b23 l1000; replace l1001 := below_cell b23 l1001; replace h3 := h3.later b23; replace h10 := h10.later b23; replace h17 := h17.later b23; replace h18 := h18.later b23; replace h19 := h19.later b23; replace h20 := h20.later b23; replace h22 := h22.later b23)
          | (go_at_call 9; go_at_call_of 9 (Value.agg #[Value.bool (ng A), Value.slice a22 (ln (am A)) (ln (am A))]); go_at_call_of 9 (Value.agg #[Value.bool (ng A), Value.slice a23 (ln (am A)) (ln (am A))]); refine (sameI_is (A) a22 a23 _ _ _ (by omega) h22.seg h23.seg).mono ?_; rintro e w24 ⟨rfl, b24⟩; replace hBW := hBW.trans (b24.mono hBW.size); replace q00 := below_cell b24 q00; replace q01 := below_cell b24 q01; replace q10 := below_cell b24 q10; replace q11 := below_cell b24 q11; replace q20 := below_cell b24 q20; replace q21 := below_cell b24 q21; replace l300 := below_cell b24 l300; replace l301 := below_cell b24 l301; replace l1000 := below_cell b24 l1000; replace l1001 := below_cell b24 l1001; replace h3 := h3.later b24; replace h10 := h10.later b24; replace h17 := h17.later b24; replace h18 := h18.later b24; replace h19 := h19.later b24; replace h20 := h20.later b24; replace h22 := h22.later b24; replace h23 := h23.later b24))
    | fail
  clear h17 h18 h19 h20 h22 h23
  go_wp2_with fail
  replace hBW := hBW.drew
  replace h3 := h3.drew
  replace h10 := h10.drew
  first
    | go_region_held3 (fun w' => w'.cell? ⟨w.heap.size, 0, none⟩ = some (.bool s0) ∧ w'.cell? ⟨w.heap.size, 1, none⟩ = some (.slice a0 len0 cap0) ∧ w'.cell? ⟨w.heap.size + 1, 0, none⟩ = some (.bool s1) ∧ w'.cell? ⟨w.heap.size + 1, 1, none⟩ = some (.slice a1 len1 cap1) ∧ w'.cell? ⟨w.heap.size + 1 + 1, 0, none⟩ = some (.bool s2) ∧ w'.cell? ⟨w.heap.size + 1 + 1, 1, none⟩ = some (.slice a2 len2 cap2) ∧ w'.cell? ⟨w3.heap.size, 0, none⟩ = some (.bool (ng Zab)) ∧ w'.cell? ⟨w3.heap.size, 1, none⟩ = some (.slice a3 (ln (am Zab)) (ln (am Zab))) ∧ w'.cell? ⟨w10.heap.size, 0, none⟩ = some (.bool (ng Mab)) ∧ w'.cell? ⟨w10.heap.size, 1, none⟩ = some (.slice a10 (ln (am Mab)) (ln (am Mab))) ∧ Below w.heap.size w w')
        (first | exact ⟨q00, q01, q10, q11, q20, q21, l300, l301, l1000, l1001, hB.trans (hBW.mono hB.size)⟩ | exact kp10 b25 (by assumption) | exact kp10 b26 (by assumption) | exact kp10 b27 (by assumption) | exact kp10 b28 (by assumption) | exact kp10 b29 (by assumption) | exact kp10 b30 (by assumption) | exact kp10 b31 (by assumption) | exact kp10 (below_alloc _) (by assumption))
        (first
          | (go_at_call 13; (fail_if_success clear b25); refine (one_is _).mono ?_; rintro e w25 ⟨a25, rfl, h25⟩; have b25 := h25.below; replace h25 := h25.back hBW; replace hBW := hBW.trans (b25.mono hBW.size); replace q00 := below_cell b25 q00; replace q01 := below_cell b25 q01; replace q10 := below_cell b25 q10; replace q11 := below_cell b25 q11; replace q20 := below_cell b25 q20; replace q21 := below_cell b25 q21; replace l300 := below_cell b25 l300; replace l301 := below_cell b25 l301; replace l1000 := below_cell b25 l1000; replace l1001 := below_cell b25 l1001; replace h3 := h3.later b25; replace h10 := h10.later b25)
          | (go_at_call 10; go_at_call_of 10 (Value.agg #[Value.bool s0, Value.slice a0 len0 cap0]); go_at_call_of 10 (Value.agg #[Value.bool (ng 1), Value.slice a25 (ln (am 1)) (ln (am 1))]); refine (wMul_is s0 a0 len0 cap0 X0 (ng 1) a25 (ln (am 1)) (ln (am 1)) (am 1) (A) _ (by omega) (by omega) (sb hS0 hB hBW) (by omega) (by omega) h25.seg E16.out).mono ?_; rintro e w26 ⟨a26, rfl, h26⟩; have b26 := h26.below; replace h26 := h26.back hBW; replace hBW := hBW.trans (b26.mono hBW.size); replace q00 := below_cell b26 q00; replace q01 := below_cell b26 q01; replace q10 := below_cell b26 q10; replace q11 := below_cell b26 q11; replace q20 := below_cell b26 q20; replace q21 := below_cell b26 q21; replace l300 := below_cell b26 l300; replace l301 := below_cell b26 l301; replace l1000 := below_cell b26 l1000; replace l1001 := below_cell b26 l1001; replace h3 := h3.later b26; replace h10 := h10.later b26; replace h25 := h25.later b26)
          | (go_at_call 12; go_at_call_of 12 (Value.agg #[Value.bool s0, Value.slice a0 len0 cap0]); refine (wNorm_is s0 a0 len0 cap0 X0 (A) _ (by omega) (by omega) (sb hS0 hB hBW) E15.out).mono ?_; rintro e w27 ⟨a27, rfl, h27⟩; have b27 := h27.below; replace h27 := h27.back hBW; replace hBW := hBW.trans (b27.mono hBW.size); replace q00 := below_cell b27 q00; replace q01 := below_cell b27 q01; replace q10 := below_cell b27 q10; replace q11 := below_cell b27 q11; replace q20 := below_cell b27 q20; replace q21 := below_cell b27 q21; replace l300 := below_cell b27 l300; replace l301 := below_cell b27 l301; replace l1000 := below_cell b27 l1000; replace l1001 := below_cell b27 l1001; replace h3 := h3.later b27; replace h10 := h10.later b27; replace h25 := h25.later b27; replace h26 := h26.later b27)
          | (go_at_call 9; go_at_call_of 9 (Value.agg #[Value.bool (ng A), Value.slice a26 (ln (am A)) (ln (am A))]); go_at_call_of 9 (Value.agg #[Value.bool (ng A), Value.slice a27 (ln (am A)) (ln (am A))]); refine (sameI_is (A) a26 a27 _ _ _ (by omega) h26.seg h27.seg).mono ?_; rintro e w28 ⟨rfl, b28⟩; replace hBW := hBW.trans (b28.mono hBW.size); replace q00 := below_cell b28 q00; replace q01 := below_cell b28 q01; replace q10 := below_cell b28 q10; replace q11 := below_cell b28 q11; replace q20 := below_cell b28 q20; replace q21 := below_cell b28 q21; replace l300 := below_cell b28 l300; replace l301 := below_cell b28 l301; replace l1000 := below_cell b28 l1000; replace l1001 := below_cell b28 l1001; replace h3 := h3.later b28; replace h10 := h10.later b28; replace h25 := h25.later b28; replace h26 := h26.later b28; replace h27 := h27.later b28)
          | (go_at_call 13; (fail_if_success clear b29); refine (one_is _).mono ?_; rintro e w29 ⟨a29, rfl, h29⟩; have b29 := h29.below; replace h29 := h29.back hBW; replace hBW := hBW.trans (b29.mono hBW.size); replace q00 := below_cell b29 q00; replace q01 := below_cell b29 q01; replace q10 := below_cell b29 q10; replace q11 := below_cell b29 q11; replace q20 := below_cell b29 q20; replace q21 := below_cell b29 q21; replace l300 := below_cell b29 l300; replace l301 := below_cell b29 l301; replace l1000 := below_cell b29 l1000; replace l1001 := below_cell b29 l1001; replace h3 := h3.later b29; replace h10 := h10.later b29)
          | (go_at_call 8; go_at_call_of 8 (Value.agg #[Value.bool s0, Value.slice a0 len0 cap0]); go_at_call_of 8 (Value.agg #[Value.bool (ng 1), Value.slice a29 (ln (am 1)) (ln (am 1))]); refine (wAdd_is s0 a0 len0 cap0 X0 (ng 1) a29 (ln (am 1)) (ln (am 1)) (am 1) (A1) _ (by omega) (by omega) (sb hS0 hB hBW) (by omega) (by omega) h29.seg E17.out).mono ?_; rintro e w30 ⟨a30, rfl, h30⟩; have b30 := h30.below; replace h30 := h30.back hBW; replace hBW := hBW.trans (b30.mono hBW.size); replace q00 := below_cell b30 q00; replace q01 := below_cell b30 q01; replace q10 := below_cell b30 q10; replace q11 := below_cell b30 q11; replace q20 := below_cell b30 q20; replace q21 := below_cell b30 q21; replace l300 := below_cell b30 l300; replace l301 := below_cell b30 l301; replace l1000 := below_cell b30 l1000; replace l1001 := below_cell b30 l1001; replace h3 := h3.later b30; replace h10 := h10.later b30; replace h29 := h29.later b30)
          | (go_at_call 14; go_at_call_of 14 (Value.agg #[Value.bool (ng A1), Value.slice a30 (ln (am A1)) (ln (am A1))]); go_at_call_of 14 (Value.agg #[Value.bool s0, Value.slice a0 len0 cap0]); refine (HK1.out _ a30 h30.seg (sb hS0 hB hBW)).mono ?_; rintro e w31 ⟨rfl, b31⟩; replace hBW := hBW.trans (b31.mono hBW.size); replace q00 := below_cell b31 q00; replace q01 := below_cell b31 q01; replace q10 := below_cell b31 q10; replace q11 := below_cell b31 q11; replace q20 := below_cell b31 q20; replace q21 := below_cell b31 q21; replace l300 := below_cell b31 l300; replace l301 := below_cell b31 l301; replace l1000 := below_cell b31 l1000; replace l1001 := below_cell b31 l1001; replace h3 := h3.later b31; replace h10 := h10.later b31; replace h29 := h29.later b31; replace h30 := h30.later b31))
    | fail
  go_wp2
  go_ret
  exact ⟨rfl, hB.trans (hBW.mono hB.size)⟩

set_option maxRecDepth 100000 in
theorem contract (H : Type) (enc : TypeId × Value → H) (W : World) (base : Nat) (args : Array Value) (ds gs : List (DataW H)) (before : List MemPlace)
    (hval : ∀ (j : Nat) t v, Try.f3.params[j]? = some t → args[j]? = some v → Value.okWide Try.prog W .any base t v)
    (hW : DataW.Whole enc Try.prog Try.f3.params.toList Rows.wholeRingSpec.vars false W args.toList ds gs before)
    (hsz : (DataW.weightsEach Try.prog (Try.f3.params.toList ++ Rows.wholeRingSpec.plain.varTypes Try.prog) (ds ++ gs)).all (· ≤ reachBytes) = true) (hk : Rows.uptoSmall H (ds ++ gs) = true) :
    Calls Try.prog 3 args W fun e W' => ∃ v, e = .returned v ∧ Rows.wholeRingSpec.post enc Try.prog Try.f3 false true false false W args v W' := by
  have hW' := hW
  obtain ⟨p, q, hA0, hV, rfl, hfz, hnd⟩ := hW
  have hA : DataW.TrodAll enc Try.prog W 0 (fun _ => true) true Try.f3.params.toList args.toList ds p := hA0
  rw [Try.params3] at hA hval hsz
  obtain ⟨v0, vs0, d0, ds0, p0, q0, hargs, rfl, rfl, h0, r0⟩ := trodAll_cons hA
  obtain ⟨v1, vs1, d1, ds1, p1, q1, rfl, rfl, rfl, h1, r1⟩ := trodAll_cons r0
  obtain ⟨v2, vs2, d2, ds2, p2, q2, rfl, rfl, rfl, h2, r2⟩ := trodAll_cons r1
  obtain ⟨rfl, rfl, rfl⟩ := trodAll_nil r2
  obtain rfl : args = #[v0, v1, v2] := by cases args; simp_all
  obtain ⟨rfl, rfl⟩ := trodVars_none hV
  have lt0 : ∀ x ∈ p0, x.block < W.heap.size := by obtain ⟨m, hm⟩ := h0; exact DataW.trod_lt m _ _ _ hm
  obtain ⟨s0, a0, len0, cap0, X0, rfl, hS0, hc0, hb0, hu0⟩ := open_Int (hval 0 25 v0 rfl rfl) h0 (sized_at 0 hsz rfl rfl)
  have lt1 : ∀ x ∈ p1, x.block < W.heap.size := by obtain ⟨m, hm⟩ := h1; exact DataW.trod_lt m _ _ _ hm
  obtain ⟨s1, a1, len1, cap1, X1, rfl, hS1, hc1, hb1, hu1⟩ := open_Int (hval 1 25 v1 rfl rfl) h1 (sized_at 1 hsz rfl rfl)
  have lt2 : ∀ x ∈ p2, x.block < W.heap.size := by obtain ⟨m, hm⟩ := h2; exact DataW.trod_lt m _ _ _ hm
  obtain ⟨s2, a2, len2, cap2, X2, rfl, hS2, hc2, hb2, hu2⟩ := open_Int (hval 2 25 v2 rfl rfl) h2 (sized_at 2 hsz rfl rfl)
  clear hA0
  have hbulk := of_decide_eq_true hk
  simp only [List.append_nil, Rows.uptoBulkAll] at hbulk
  have hb0 : len0 ≤ 1048576 := by omega
  have hb1 : len1 ≤ 1048576 := by omega
  have hb2 : len2 ≤ 1048576 := by omega
  simp only [List.append_nil] at hW'
  refine (walk s0 a0 len0 cap0 X0 s1 a1 len1 cap1 X1 s2 a2 len2 cap2 X2 W hS0 hc0 hb0 hS1 hc1 hb1 hS2 hc2 hb2).mono fun e W' ⟨he, bel⟩ => ?_
  subst he
  exact ⟨_, rfl, _, _, _, [], _, [], hW', trodAll_mk1 (shut_bool Try.underlying4 _), (trodAll_cons_mk (Below.trod laidOut (by kernel_rfl) (of_decide_eq_true (by kernel_rfl)) h0 bel lt0) (trodAll_cons_mk (Below.trod laidOut (by kernel_rfl) (of_decide_eq_true (by kernel_rfl)) h1 bel lt1) (trodAll_cons_mk (Below.trod laidOut (by kernel_rfl) (of_decide_eq_true (by kernel_rfl)) h2 bel lt2) trodAll_mk0))), rfl, bel.frame _, fun h => by cases h⟩

set_option maxRecDepth 100000 in
theorem lifted (os : Os) (started : os.Started) (H : Type) (enc : TypeId × Value → H) (F : Stop.Interp) :
    ReturnsInHanded {} Try.checked os 3 .any ((Rows.OpenSpec.upto Rows.wholeRingSpec).pre6 enc Try.prog Try.f3 Rows.wholeRingUptoRow.domain false) (((Rows.OpenSpec.upto Rows.wholeRingSpec).at F).post enc Try.prog Try.f3 false true false false) := by
  refine returnsInHanded_of_cond_sized (C := Try.checked) (s := Rows.OpenSpec.upto Rows.wholeRingSpec) (k := Rows.uptoSmall) rfl own started (by kernel_rfl) Try.func3
    (OpenSpec.witness (enc := enc) (C := Try.checked) (s := Rows.OpenSpec.upto Rows.wholeRingSpec) (k := Rows.uptoSmall) rfl false ⟨#[], #[.agg #[.bool false, .slice none 0 0], .agg #[.bool false, .slice none 0 0], .agg #[.bool false, .slice none 0 0]], []⟩ 8 (by kernel_rfl) (by kernel_rfl) (by kernel_rfl)
      (x := ([.agg [.lit (.bool false), .nil], .agg [.lit (.bool false), .nil], .agg [.lit (.bool false), .nil]], [], [])) (by kernel_rfl) rfl (by kernel_rfl)) ?_
  intro W base args ds gs before hval hW _ hk hsz _
  exact contract H enc W base args ds gs before hval hW hsz hk

theorem over : Rows.wholeRingUptoRow.holds Try.pinned (Rows.OpenSpec.upto Rows.wholeRingSpec) :=
  OpenClaim.holds_of_cond 3 Try.f3 rfl rfl rfl rfl rfl rfl rfl ⟨rfl, rfl, rfl, rfl, rfl⟩ rfl rfl rfl rfl rfl (by kernel_rfl) Try.func3 (by kernel_rfl)
    (of_decide_eq_true (by kernel_rfl)) (by unfold Func.isWrapper; first | (rw [if_pos (by decide +kernel)]; kernel_rfl) | (rw [if_neg (by decide +kernel)]; exact ⟨rfl, rfl⟩))
    (fun os started H enc _ F => lifted os started H enc F)

end Go.Proofs.Ytpejkdabhijcoab.wholeRing
namespace Go.Proofs.Ytpejkdabhijcoab
theorem wholeRing_holds : Rows.WholeRingUptoSaid := wholeRing.over
#print axioms wholeRing_holds
end Go.Proofs.Ytpejkdabhijcoab
