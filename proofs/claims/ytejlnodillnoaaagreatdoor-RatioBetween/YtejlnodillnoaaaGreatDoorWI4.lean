import Derived.Test.YtejlnodillnoaaaGreatDoorWI2
import Derived.Test.YtejlnodillnoaaaGreatDoorWI3
import Derived.Test.YtejlnodillnoaaaGreatDoorW13
set_option linter.unusedSimpArgs false
namespace Go.Proofs.YtejlnodillnoaaaGreatDoor
open Go.RowKit
set_option linter.unusedVariables false
set_option maxHeartbeats 1000000 in
theorem vSign_is (s : Bool) (ao : Option Addr) (n cap X : Nat) (Z : Int) (w : World) (hm : n ≤ 70368744177664) (hS : Seg w ao X n) (hZ : sg s X = Z) :
    Calls Tryz.prog 71 #[.agg #[.bool s, .slice ao n cap]] w fun e w' => e = .returned (.int .i64 (sgn Z)) ∧ Below w.heap.size w w' := by
  have hB := below_alloc (w := w) (.cells #[.bool s, .slice ao n cap] 25)
  have hpos : Z ≠ 0 → 0 < ln (am Z) := fun h => Nat.pos_of_ne_zero fun e => h (am_eq_zero.1 (ln_eq_zero.1 e))
  have hlz : ln (am Z) ≤ 70368744177664 := by rw [← hZ, am_sg]; have := ln_le_of_lt hS.1; omega
  rcases Int.lt_trichotomy Z 0 with h | h | h
  · have hg : ng Z = true := ng_true.2 h
    have hs := sgn_neg h
    clear h
    go_enter Tryz.func71, Tryz.ntmps71
    go_wp2_with fail
    refine (vNorm_is s ao n cap X Z _ hm (hS.below hB (Nat.le_refl _)) hZ).mono ?_
    rintro e w1 ⟨a1, rfl, hn⟩
    have hB1 := hB.trans (hn.below.mono hB.size)
    have hB2 := hB1.alloc hB1.size (.cells #[.bool (ng Z), .slice a1 (ln (am Z)) (ln (am Z))] 25)
    rw [hg] at hB2
    go_wp2
    go_ret
    exact ⟨by rw [hs]; rfl, hB2⟩
  · have hg : ng Z = false := by rw [h]; rfl
    have hs : sgn Z = 0 := by rw [h]; rfl
    have hl : ln (am Z) = 0 := by rw [h]; exact ln_zero
    clear h
    go_enter Tryz.func71, Tryz.ntmps71
    go_wp2_with fail
    refine (vNorm_is s ao n cap X Z _ hm (hS.below hB (Nat.le_refl _)) hZ).mono ?_
    rintro e w1 ⟨a1, rfl, hn⟩
    have hB1 := hB.trans (hn.below.mono hB.size)
    have hB2 := hB1.alloc hB1.size (.cells #[.bool (ng Z), .slice a1 (ln (am Z)) (ln (am Z))] 25)
    rw [hg, hl] at hB2
    go_wp2
    go_ret
    exact ⟨by rw [hs]; rfl, hB2⟩
  · have hg : ng Z = false := ng_false.2 (by omega)
    have hs := sgn_pos h
    have hl := hpos (by omega)
    clear h
    go_enter Tryz.func71, Tryz.ntmps71
    go_wp2_with fail
    refine (vNorm_is s ao n cap X Z _ hm (hS.below hB (Nat.le_refl _)) hZ).mono ?_
    rintro e w1 ⟨a1, rfl, hn⟩
    have hB1 := hB.trans (hn.below.mono hB.size)
    have hB2 := hB1.alloc hB1.size (.cells #[.bool (ng Z), .slice a1 (ln (am Z)) (ln (am Z))] 25)
    rw [hg] at hB2
    go_wp2
    go_ret
    exact ⟨by rw [hs]; rfl, hB2⟩
set_option maxHeartbeats 2000000 in
set_option maxRecDepth 30000 in
theorem vAdd_is (s : Bool) (ao : Option Addr) (n cap X : Nat) (t : Bool) (ao2 : Option Addr) (m cap2 Y : Nat) (Z : Int) (w : World) (hm : n ≤ 70368744177663) (hS : Seg w ao X n) (hm2 : m ≤ 70368744177663) (hS2 : Seg w ao2 Y m) (hZ : sg s X + sg t Y = Z) :
    Calls Tryz.prog 57 #[.agg #[.bool s, .slice ao n cap], .agg #[.bool t, .slice ao2 m cap2]] w fun e w' => ∃ ao', e = .returned (.agg #[.bool (ng Z), .slice ao' (ln (am Z)) (ln (am Z))]) ∧ New w w' ao' (am Z) (ln (am Z)) := by
  have hl1 := ln_le_of_lt hS.1
  have hl2 := ln_le_of_lt hS2.1
  have hl3 : ln (X + Y) ≤ 70368744177664 := ln_sum hS.1 hS2.1 (by omega) (by omega)
  by_cases ht : s = t
  · subst ht
    have hZ2 : sg s (X + Y) = Z := by rw [← sg_add]; exact hZ
    have hbe : (s == s) = true := by simp
    go_enter Tryz.func57, Tryz.ntmps57
    go_wp2_with fail
    obtain ⟨W, hW⟩ : ∃ W, (((w.alloc (.cells #[.bool s, .slice ao n cap] 25)).alloc (.cells #[.bool s, .slice ao2 m cap2] 25)).alloc (.cells #[.bool false, .slice none 0 0] 25)) = W := ⟨_, rfl⟩
    have q00 : W.cell? ⟨w.heap.size, 0, none⟩ = some (.bool s) := by subst hW; go_simp
    have q01 : W.cell? ⟨w.heap.size, 1, none⟩ = some (.slice ao n cap) := by subst hW; go_simp
    have q10 : W.cell? ⟨w.heap.size + 1, 0, none⟩ = some (.bool s) := by subst hW; go_simp
    have q11 : W.cell? ⟨w.heap.size + 1, 1, none⟩ = some (.slice ao2 m cap2) := by subst hW; go_simp
    have r00 : W.cell? ⟨w.heap.size + 1 + 1, 0, none⟩ = some (.bool false) := by subst hW; go_simp
    have r01 : W.cell? ⟨w.heap.size + 1 + 1, 1, none⟩ = some (.slice none 0 0) := by subst hW; go_simp
    have hB : Below w.heap.size w W := by subst hW; exact ((((Below.refl _ _).alloc (by (try simp only [World.size_alloc]); omega) _).alloc (by (try simp only [World.size_alloc]); omega) _).alloc (by (try simp only [World.size_alloc]); omega) _)
    have hR0 : Row W (w.heap.size + 1 + 1) := by
      have := row_new (((w.alloc (.cells #[.bool s, .slice ao n cap] 25)).alloc (.cells #[.bool s, .slice ao2 m cap2] 25))) #[.bool false, .slice none 0 0] 25
      try simp only [World.size_alloc] at this
      subst hW; exact this
    have hz : W.heap.size = w.heap.size + 1 + 1 + 1 := by subst hW; simp only [World.size_alloc]
    rw [hW]
    clear hW
    have hBW : Below W.heap.size W W := Below.refl _ _
    replace hBW := hBW.drew
    first
      | go_region_held3 (fun w' => w'.cell? ⟨w.heap.size, 0, none⟩ = some (.bool s) ∧ w'.cell? ⟨w.heap.size, 1, none⟩ = some (.slice ao n cap) ∧ w'.cell? ⟨w.heap.size + 1, 0, none⟩ = some (.bool s) ∧ w'.cell? ⟨w.heap.size + 1, 1, none⟩ = some (.slice ao2 m cap2) ∧ Below w.heap.size w w')
          (first | exact ⟨q00, q01, q10, q11, hB.trans (hBW.mono hB.size)⟩ | exact kp4 b1 (by assumption) | exact kp4 b2 (by assumption) | exact kp4 (below_alloc _) (by assumption) | exact kpS4 (kpS4 (by assumption) (by omega) (by omega)  (by omega)) (by omega) (by omega)  (by omega))
          (first
            | (go_at_call 55; (fail_if_success clear b1); refine (rAdd_any ao ao2 n cap X m cap2 Y _ hm (sb hS hB hBW) hm2 (sb hS2 hB hBW)).mono ?_; rintro e w1 ⟨a1, rfl, hn⟩; have b1 := hn.below; replace hn := hn.back hBW; replace hBW := hBW.trans (b1.mono hBW.size); replace q00 := below_cell b1 q00; replace q01 := below_cell b1 q01; replace q10 := below_cell b1 q10; replace q11 := below_cell b1 q11; replace r00 := below_cell b1 r00; replace r01 := below_cell b1 r01; replace hR0 := below_row b1 hR0)
            | (go_at_call 78; (fail_if_success clear b2); refine (made_is s a1 _ _ (X + Y) Z _ (by omega) hn.seg hZ2).mono ?_; rintro e w2 ⟨a2, rfl, hk⟩; have b2 := hk.below; replace hk := hk.back hBW; replace hBW := hBW.trans (b2.mono hBW.size); replace q00 := below_cell b2 q00; replace q01 := below_cell b2 q01; replace q10 := below_cell b2 q10; replace q11 := below_cell b2 q11; replace r00 := below_cell b2 r00; replace r01 := below_cell b2 r01; replace hR0 := below_row b2 hR0; replace hn := hn.later b2; have fz := fun o => hR0.frozen o))
      | fail
    go_wp2
    refine bodyPost_ret (v := .agg #[.bool (ng Z), .slice a2 (ln (am Z)) (ln (am Z))]) (by rw [results_cell rfl]; go_simp) rfl ?_
    exact ⟨a2, rfl, hk.ret hB (by omega) (by omega) _ _⟩
  · have hbe : (s == t) = false := by simpa using ht
    by_cases hle : Y ≤ X
    · have hZ2 : sg s (X - Y) = Z := by rw [← hZ]; exact (sg_sub ht hle).symm
      have hcmp : 0 ≤ cmpI X Y := by rw [cmpI]; rw [if_neg (by omega)]; split <;> omega
      have HL : Hid (Y ≤ X) := hle
      have hl4 : ln (X - Y) ≤ 70368744177664 := by have := ln_mono (Nat.sub_le X Y); omega
      clear hle ht
      go_enter Tryz.func57, Tryz.ntmps57
      go_wp2_with fail
      obtain ⟨W, hW⟩ : ∃ W, (((w.alloc (.cells #[.bool s, .slice ao n cap] 25)).alloc (.cells #[.bool t, .slice ao2 m cap2] 25)).alloc (.cells #[.bool false, .slice none 0 0] 25)) = W := ⟨_, rfl⟩
      have q00 : W.cell? ⟨w.heap.size, 0, none⟩ = some (.bool s) := by subst hW; go_simp
      have q01 : W.cell? ⟨w.heap.size, 1, none⟩ = some (.slice ao n cap) := by subst hW; go_simp
      have q10 : W.cell? ⟨w.heap.size + 1, 0, none⟩ = some (.bool t) := by subst hW; go_simp
      have q11 : W.cell? ⟨w.heap.size + 1, 1, none⟩ = some (.slice ao2 m cap2) := by subst hW; go_simp
      have r00 : W.cell? ⟨w.heap.size + 1 + 1, 0, none⟩ = some (.bool false) := by subst hW; go_simp
      have r01 : W.cell? ⟨w.heap.size + 1 + 1, 1, none⟩ = some (.slice none 0 0) := by subst hW; go_simp
      have hB : Below w.heap.size w W := by subst hW; exact ((((Below.refl _ _).alloc (by (try simp only [World.size_alloc]); omega) _).alloc (by (try simp only [World.size_alloc]); omega) _).alloc (by (try simp only [World.size_alloc]); omega) _)
      have hR0 : Row W (w.heap.size + 1 + 1) := by
        have := row_new (((w.alloc (.cells #[.bool s, .slice ao n cap] 25)).alloc (.cells #[.bool t, .slice ao2 m cap2] 25))) #[.bool false, .slice none 0 0] 25
        try simp only [World.size_alloc] at this
        subst hW; exact this
      have hz : W.heap.size = w.heap.size + 1 + 1 + 1 := by subst hW; simp only [World.size_alloc]
      rw [hW]
      clear hW
      have hBW : Below W.heap.size W W := Below.refl _ _
      refine (rCmp_any ao ao2 n cap X m cap2 Y _ (by omega) (sb hS hB hBW) (by omega) (sb hS2 hB hBW)).mono ?_
      rintro e w1 ⟨rfl, rfl⟩
      go_wp2_with fail
      refine (rSub_any ao ao2 n cap X m cap2 Y _ (by omega) (sb hS hB hBW) (by omega) (sb hS2 hB hBW) HL.out).mono ?_
      rintro e w2 ⟨a2, rfl, hn⟩
      have b2 := hn.below
      replace hn := hn.back hBW
      replace hBW := hBW.trans (b2.mono hBW.size)
      replace q00 := below_cell b2 q00
      replace q01 := below_cell b2 q01
      replace q10 := below_cell b2 q10
      replace q11 := below_cell b2 q11
      replace r00 := below_cell b2 r00
      replace r01 := below_cell b2 r01
      replace hR0 := below_row b2 hR0
      go_wp2_with fail
      refine (made_is s a2 _ _ (X - Y) Z _ (by omega) hn.seg hZ2).mono ?_
      rintro e w3 ⟨a3, rfl, hk⟩
      have b3 := hk.below
      replace hk := hk.back hBW
      replace hBW := hBW.trans (b3.mono hBW.size)
      replace q00 := below_cell b3 q00
      replace q01 := below_cell b3 q01
      replace q10 := below_cell b3 q10
      replace q11 := below_cell b3 q11
      replace r00 := below_cell b3 r00
      replace r01 := below_cell b3 r01
      replace hR0 := below_row b3 hR0
      replace hn := hn.later b3
      have fz0 := fun o => hR0.frozen o
      go_wp2
      refine bodyPost_ret (v := .agg #[.bool (ng Z), .slice a3 (ln (am Z)) (ln (am Z))]) (by rw [results_cell rfl]; go_simp) rfl ?_
      exact ⟨a3, rfl, hk.ret hB (by omega) (by omega) _ _⟩
    · have hlt : X < Y := Nat.lt_of_not_le hle
      have hZ2 : sg t (Y - X) = Z := by rw [← hZ]; exact (sg_sub' ht (Nat.le_of_lt hlt)).symm
      have hcmp : cmpI X Y < 0 := by rw [cmpI_lt hlt]; omega
      have HL : Hid (X < Y) := hlt
      have hl4 : ln (Y - X) ≤ 70368744177664 := by have := ln_mono (Nat.sub_le Y X); omega
      clear hle hlt ht
      go_enter Tryz.func57, Tryz.ntmps57
      go_wp2_with fail
      obtain ⟨W, hW⟩ : ∃ W, (((w.alloc (.cells #[.bool s, .slice ao n cap] 25)).alloc (.cells #[.bool t, .slice ao2 m cap2] 25)).alloc (.cells #[.bool false, .slice none 0 0] 25)) = W := ⟨_, rfl⟩
      have q00 : W.cell? ⟨w.heap.size, 0, none⟩ = some (.bool s) := by subst hW; go_simp
      have q01 : W.cell? ⟨w.heap.size, 1, none⟩ = some (.slice ao n cap) := by subst hW; go_simp
      have q10 : W.cell? ⟨w.heap.size + 1, 0, none⟩ = some (.bool t) := by subst hW; go_simp
      have q11 : W.cell? ⟨w.heap.size + 1, 1, none⟩ = some (.slice ao2 m cap2) := by subst hW; go_simp
      have r00 : W.cell? ⟨w.heap.size + 1 + 1, 0, none⟩ = some (.bool false) := by subst hW; go_simp
      have r01 : W.cell? ⟨w.heap.size + 1 + 1, 1, none⟩ = some (.slice none 0 0) := by subst hW; go_simp
      have hB : Below w.heap.size w W := by subst hW; exact ((((Below.refl _ _).alloc (by (try simp only [World.size_alloc]); omega) _).alloc (by (try simp only [World.size_alloc]); omega) _).alloc (by (try simp only [World.size_alloc]); omega) _)
      have hR0 : Row W (w.heap.size + 1 + 1) := by
        have := row_new (((w.alloc (.cells #[.bool s, .slice ao n cap] 25)).alloc (.cells #[.bool t, .slice ao2 m cap2] 25))) #[.bool false, .slice none 0 0] 25
        try simp only [World.size_alloc] at this
        subst hW; exact this
      have hz : W.heap.size = w.heap.size + 1 + 1 + 1 := by subst hW; simp only [World.size_alloc]
      rw [hW]
      clear hW
      have hBW : Below W.heap.size W W := Below.refl _ _
      refine (rCmp_any ao ao2 n cap X m cap2 Y _ (by omega) (sb hS hB hBW) (by omega) (sb hS2 hB hBW)).mono ?_
      rintro e w1 ⟨rfl, rfl⟩
      go_wp2_with fail
      refine (rSub_any ao2 ao m cap2 Y n cap X _ (by omega) (sb hS2 hB hBW) (by omega) (sb hS hB hBW) (Nat.le_of_lt HL.out)).mono ?_
      rintro e w2 ⟨a2, rfl, hn⟩
      have b2 := hn.below
      replace hn := hn.back hBW
      replace hBW := hBW.trans (b2.mono hBW.size)
      replace q00 := below_cell b2 q00
      replace q01 := below_cell b2 q01
      replace q10 := below_cell b2 q10
      replace q11 := below_cell b2 q11
      replace r00 := below_cell b2 r00
      replace r01 := below_cell b2 r01
      replace hR0 := below_row b2 hR0
      go_wp2_with fail
      refine (made_is t a2 _ _ (Y - X) Z _ (by omega) hn.seg hZ2).mono ?_
      rintro e w3 ⟨a3, rfl, hk⟩
      have b3 := hk.below
      replace hk := hk.back hBW
      replace hBW := hBW.trans (b3.mono hBW.size)
      replace q00 := below_cell b3 q00
      replace q01 := below_cell b3 q01
      replace q10 := below_cell b3 q10
      replace q11 := below_cell b3 q11
      replace r00 := below_cell b3 r00
      replace r01 := below_cell b3 r01
      replace hR0 := below_row b3 hR0
      replace hn := hn.later b3
      have fz0 := fun o => hR0.frozen o
      go_wp2
      refine bodyPost_ret (v := .agg #[.bool (ng Z), .slice a3 (ln (am Z)) (ln (am Z))]) (by rw [results_cell rfl]; go_simp) rfl ?_
      exact ⟨a3, rfl, hk.ret hB (by omega) (by omega) _ _⟩
set_option maxHeartbeats 2000000 in
set_option maxRecDepth 30000 in
theorem vSub_is (s : Bool) (ao : Option Addr) (n cap X : Nat) (t : Bool) (ao2 : Option Addr) (m cap2 Y : Nat) (Z : Int) (w : World) (hm : n ≤ 70368744177663) (hS : Seg w ao X n) (hm2 : m ≤ 70368744177663) (hS2 : Seg w ao2 Y m) (hZ : sg s X - sg t Y = Z) :
    Calls Tryz.prog 99 #[.agg #[.bool s, .slice ao n cap], .agg #[.bool t, .slice ao2 m cap2]] w fun e w' => ∃ ao', e = .returned (.agg #[.bool (ng Z), .slice ao' (ln (am Z)) (ln (am Z))]) ∧ New w w' ao' (am Z) (ln (am Z)) := by
  obtain ⟨N, hN⟩ : ∃ N, -(sg t Y) = N := ⟨_, rfl⟩
  have hZ2 : sg s X + sg (ng N) (am N) = Z := by rw [sg_na, ← hN]; omega
  have hlN : ln (am N) ≤ m := by rw [← hN, ← sg_not, am_sg]; exact ln_le_of_lt hS2.1
  go_enter Tryz.func99, Tryz.ntmps99
  go_wp2_with fail
  obtain ⟨W, hW⟩ : ∃ W, (((w.alloc (.cells #[.bool s, .slice ao n cap] 25)).alloc (.cells #[.bool t, .slice ao2 m cap2] 25)).alloc (.cells #[.bool false, .slice none 0 0] 25)) = W := ⟨_, rfl⟩
  have q00 : W.cell? ⟨w.heap.size, 0, none⟩ = some (.bool s) := by subst hW; go_simp
  have q01 : W.cell? ⟨w.heap.size, 1, none⟩ = some (.slice ao n cap) := by subst hW; go_simp
  have q10 : W.cell? ⟨w.heap.size + 1, 0, none⟩ = some (.bool t) := by subst hW; go_simp
  have q11 : W.cell? ⟨w.heap.size + 1, 1, none⟩ = some (.slice ao2 m cap2) := by subst hW; go_simp
  have r00 : W.cell? ⟨w.heap.size + 1 + 1, 0, none⟩ = some (.bool false) := by subst hW; go_simp
  have r01 : W.cell? ⟨w.heap.size + 1 + 1, 1, none⟩ = some (.slice none 0 0) := by subst hW; go_simp
  have hB : Below w.heap.size w W := by subst hW; exact ((((Below.refl _ _).alloc (by (try simp only [World.size_alloc]); omega) _).alloc (by (try simp only [World.size_alloc]); omega) _).alloc (by (try simp only [World.size_alloc]); omega) _)
  have hR0 : Row W (w.heap.size + 1 + 1) := by
    have := row_new (((w.alloc (.cells #[.bool s, .slice ao n cap] 25)).alloc (.cells #[.bool t, .slice ao2 m cap2] 25))) #[.bool false, .slice none 0 0] 25
    try simp only [World.size_alloc] at this
    subst hW; exact this
  have hz : W.heap.size = w.heap.size + 1 + 1 + 1 := by subst hW; simp only [World.size_alloc]
  rw [hW]
  clear hW
  have hBW : Below W.heap.size W W := Below.refl _ _
  replace hBW := hBW.drew
  first
    | go_region_held3 (fun w' => w'.cell? ⟨w.heap.size, 0, none⟩ = some (.bool s) ∧ w'.cell? ⟨w.heap.size, 1, none⟩ = some (.slice ao n cap) ∧ w'.cell? ⟨w.heap.size + 1, 0, none⟩ = some (.bool t) ∧ w'.cell? ⟨w.heap.size + 1, 1, none⟩ = some (.slice ao2 m cap2) ∧ Below w.heap.size w w')
        (first | exact ⟨q00, q01, q10, q11, hB.trans (hBW.mono hB.size)⟩ | exact kp4 b1 (by assumption) | exact kp4 b2 (by assumption) | exact kp4 (below_alloc _) (by assumption) | exact kpS4 (kpS4 (by assumption) (by omega) (by omega)  (by omega)) (by omega) (by omega)  (by omega))
        (first
          | (go_at_call 73; (fail_if_success clear b1); refine (vNeg_is t ao2 m cap2 Y N _ (by omega) (sb hS2 hB hBW) hN).mono ?_; rintro e w1 ⟨a1, rfl, hn⟩; have b1 := hn.below; replace hn := hn.back hBW; replace hBW := hBW.trans (b1.mono hBW.size); replace q00 := below_cell b1 q00; replace q01 := below_cell b1 q01; replace q10 := below_cell b1 q10; replace q11 := below_cell b1 q11; replace r00 := below_cell b1 r00; replace r01 := below_cell b1 r01; replace hR0 := below_row b1 hR0)
          | (go_at_call 57; (fail_if_success clear b2); refine (vAdd_is s ao n cap X (ng N) a1 _ _ (am N) Z _ hm (sb hS hB hBW) (by omega) hn.seg hZ2).mono ?_; rintro e w2 ⟨a2, rfl, hk⟩; have b2 := hk.below; replace hk := hk.back hBW; replace hBW := hBW.trans (b2.mono hBW.size); replace q00 := below_cell b2 q00; replace q01 := below_cell b2 q01; replace q10 := below_cell b2 q10; replace q11 := below_cell b2 q11; replace r00 := below_cell b2 r00; replace r01 := below_cell b2 r01; replace hR0 := below_row b2 hR0; replace hn := hn.later b2; have fz := fun o => hR0.frozen o))
    | fail
  go_wp2
  refine bodyPost_ret (v := .agg #[.bool (ng Z), .slice a2 (ln (am Z)) (ln (am Z))]) (by rw [results_cell rfl]; go_simp) rfl ?_
  exact ⟨a2, rfl, hk.ret hB (by omega) (by omega) _ _⟩
set_option maxHeartbeats 2000000 in
set_option maxRecDepth 30000 in
theorem vMul_is (s : Bool) (ao : Option Addr) (n cap X : Nat) (t : Bool) (ao2 : Option Addr) (m cap2 Y : Nat) (Z : Int) (w : World) (hm : n + m ≤ 70368744177664) (hS : Seg w ao X n) (hS2 : Seg w ao2 Y m) (hZ : sg s X * sg t Y = Z) :
    Calls Tryz.prog 58 #[.agg #[.bool s, .slice ao n cap], .agg #[.bool t, .slice ao2 m cap2]] w fun e w' => ∃ ao', e = .returned (.agg #[.bool (ng Z), .slice ao' (ln (am Z)) (ln (am Z))]) ∧ New w w' ao' (am Z) (ln (am Z)) := by
  have hZ2 : sg (s != t) (X * Y) = Z := by rw [← sg_mul]; exact hZ
  have hl3 : ln (X * Y) ≤ 70368744177664 := by have := ln_prod hS.1 hS2.1; omega
  obtain ⟨P, hP⟩ : ∃ P, X * Y = P := ⟨_, rfl⟩
  rw [hP] at hZ2 hl3
  go_enter Tryz.func58, Tryz.ntmps58
  go_wp2_with fail
  obtain ⟨W, hW⟩ : ∃ W, (((w.alloc (.cells #[.bool s, .slice ao n cap] 25)).alloc (.cells #[.bool t, .slice ao2 m cap2] 25)).alloc (.cells #[.bool false, .slice none 0 0] 25)) = W := ⟨_, rfl⟩
  have q00 : W.cell? ⟨w.heap.size, 0, none⟩ = some (.bool s) := by subst hW; go_simp
  have q01 : W.cell? ⟨w.heap.size, 1, none⟩ = some (.slice ao n cap) := by subst hW; go_simp
  have q10 : W.cell? ⟨w.heap.size + 1, 0, none⟩ = some (.bool t) := by subst hW; go_simp
  have q11 : W.cell? ⟨w.heap.size + 1, 1, none⟩ = some (.slice ao2 m cap2) := by subst hW; go_simp
  have r00 : W.cell? ⟨w.heap.size + 1 + 1, 0, none⟩ = some (.bool false) := by subst hW; go_simp
  have r01 : W.cell? ⟨w.heap.size + 1 + 1, 1, none⟩ = some (.slice none 0 0) := by subst hW; go_simp
  have hB : Below w.heap.size w W := by subst hW; exact ((((Below.refl _ _).alloc (by (try simp only [World.size_alloc]); omega) _).alloc (by (try simp only [World.size_alloc]); omega) _).alloc (by (try simp only [World.size_alloc]); omega) _)
  have hR0 : Row W (w.heap.size + 1 + 1) := by
    have := row_new (((w.alloc (.cells #[.bool s, .slice ao n cap] 25)).alloc (.cells #[.bool t, .slice ao2 m cap2] 25))) #[.bool false, .slice none 0 0] 25
    try simp only [World.size_alloc] at this
    subst hW; exact this
  have hz : W.heap.size = w.heap.size + 1 + 1 + 1 := by subst hW; simp only [World.size_alloc]
  rw [hW]
  clear hW
  have hBW : Below W.heap.size W W := Below.refl _ _
  replace hBW := hBW.drew
  first
    | go_region_held3 (fun w' => w'.cell? ⟨w.heap.size, 0, none⟩ = some (.bool s) ∧ w'.cell? ⟨w.heap.size, 1, none⟩ = some (.slice ao n cap) ∧ w'.cell? ⟨w.heap.size + 1, 0, none⟩ = some (.bool t) ∧ w'.cell? ⟨w.heap.size + 1, 1, none⟩ = some (.slice ao2 m cap2) ∧ Below w.heap.size w w')
        (first | exact ⟨q00, q01, q10, q11, hB.trans (hBW.mono hB.size)⟩ | exact kp4 b1 (by assumption) | exact kp4 b2 (by assumption) | exact kp4 (below_alloc _) (by assumption) | exact kpS4 (kpS4 (by assumption) (by omega) (by omega)  (by omega)) (by omega) (by omega)  (by omega))
        (first
          | (go_at_call 56; (fail_if_success clear b1); refine (rMul_is ao ao2 n cap X m cap2 Y P _ hm (sb hS hB hBW) (sb hS2 hB hBW) hP).mono ?_; rintro e w1 ⟨a1, rfl, hn⟩; have b1 := hn.below; replace hn := hn.back hBW; replace hBW := hBW.trans (b1.mono hBW.size); replace q00 := below_cell b1 q00; replace q01 := below_cell b1 q01; replace q10 := below_cell b1 q10; replace q11 := below_cell b1 q11; replace r00 := below_cell b1 r00; replace r01 := below_cell b1 r01; replace hR0 := below_row b1 hR0)
          | (go_at_call 78; (fail_if_success clear b2); refine (made_is (s != t) a1 _ _ P Z _ (by omega) hn.seg hZ2).mono ?_; rintro e w2 ⟨a2, rfl, hk⟩; have b2 := hk.below; replace hk := hk.back hBW; replace hBW := hBW.trans (b2.mono hBW.size); replace q00 := below_cell b2 q00; replace q01 := below_cell b2 q01; replace q10 := below_cell b2 q10; replace q11 := below_cell b2 q11; replace r00 := below_cell b2 r00; replace r01 := below_cell b2 r01; replace hR0 := below_row b2 hR0; replace hn := hn.later b2; have fz := fun o => hR0.frozen o))
    | fail
  go_wp2
  refine bodyPost_ret (v := .agg #[.bool (ng Z), .slice a2 (ln (am Z)) (ln (am Z))]) (by rw [results_cell rfl]; go_simp) rfl ?_
  exact ⟨a2, rfl, hk.ret hB (by omega) (by omega) _ _⟩
end Go.Proofs.YtejlnodillnoaaaGreatDoor
