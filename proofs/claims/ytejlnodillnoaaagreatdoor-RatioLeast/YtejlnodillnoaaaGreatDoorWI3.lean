/-
  Layer 2's sums, products and order.
-/
import Derived.Test.YtejlnodillnoaaaGreatDoorWI1
import Derived.Test.YtejlnodillnoaaaGreatDoorW8
namespace Go.Proofs.YtejlnodillnoaaaGreatDoor
open Go.RowKit
set_option linter.unusedVariables false

theorem sd_beq (s t : Bool) : (sd s == sd t) = (s == t) := by cases s <;> cases t <;> rfl

set_option maxHeartbeats 2000000 in
set_option maxRecDepth 30000 in
theorem sum_is (s1 t1 : Bool) (ao : Option Addr) (n cap X : Nat) (s2 t2 : Bool) (ao2 : Option Addr) (m cap2 Y : Nat) (Z : Int) (w : World) (hc : n ≤ cap) (hm : n ≤ 70368744177663) (hS : Seg w ao X n) (hc2 : m ≤ cap2) (hm2 : m ≤ 70368744177663) (hS2 : Seg w ao2 Y m) (hZ : sg t1 X + sg t2 Y = Z) :
    Calls Tryz.prog 95 #[.agg #[.bool s1, .slice ao n cap], .int .i64 (sd t1), .agg #[.bool s2, .slice ao2 m cap2], .int .i64 (sd t2)] w fun e w' => ∃ ao', e = .returned (.agg #[.bool (ng Z), .slice ao' (ln (am Z)) (ln (am Z))]) ∧ New w w' ao' (am Z) (ln (am Z)) := by
  have hl1 := ln_le_of_lt hS.1
  have hl2 := ln_le_of_lt hS2.1
  have hl3 : ln (X + Y) ≤ 70368744177664 := ln_sum hS.1 hS2.1 (by omega) (by omega)
  have hbe := sd_beq t1 t2
  by_cases ht : t1 = t2
  · subst ht
    have hZ2 : sg t1 (X + Y) = Z := by rw [← sg_add]; exact hZ
    have hbe2 : (sd t1 == sd t1) = true := by simp
    clear hbe
    go_enter Tryz.func95, Tryz.ntmps95
    go_wp2_with fail
    obtain ⟨W, hW⟩ : ∃ W, (((w.alloc (.cells #[.bool s1, .slice ao n cap] 25)).alloc (.cells #[.bool s2, .slice ao2 m cap2] 25)).alloc (.cells #[.bool false, .slice none 0 0] 25)) = W := ⟨_, rfl⟩
    have q00 : W.cell? ⟨w.heap.size, 0, none⟩ = some (.bool s1) := by subst hW; go_simp
    have q01 : W.cell? ⟨w.heap.size, 1, none⟩ = some (.slice ao n cap) := by subst hW; go_simp
    have q10 : W.cell? ⟨w.heap.size + 1, 0, none⟩ = some (.bool s2) := by subst hW; go_simp
    have q11 : W.cell? ⟨w.heap.size + 1, 1, none⟩ = some (.slice ao2 m cap2) := by subst hW; go_simp
    have r00 : W.cell? ⟨w.heap.size + 1 + 1, 0, none⟩ = some (.bool false) := by subst hW; go_simp
    have r01 : W.cell? ⟨w.heap.size + 1 + 1, 1, none⟩ = some (.slice none 0 0) := by subst hW; go_simp
    have hB : Below w.heap.size w W := by subst hW; exact ((((Below.refl _ _).alloc (by (try simp only [World.size_alloc]); omega) _).alloc (by (try simp only [World.size_alloc]); omega) _).alloc (by (try simp only [World.size_alloc]); omega) _)
    have hR0 : Row W (w.heap.size + 1 + 1) := by
      have := row_new (((w.alloc (.cells #[.bool s1, .slice ao n cap] 25)).alloc (.cells #[.bool s2, .slice ao2 m cap2] 25))) #[.bool false, .slice none 0 0] 25
      try simp only [World.size_alloc] at this
      subst hW; exact this
    have hz : W.heap.size = w.heap.size + 1 + 1 + 1 := by subst hW; simp only [World.size_alloc]
    rw [hW]
    clear hW
    have hBW : Below W.heap.size W W := Below.refl _ _
    go_wp2_with fail
    refine (Add_any ao ao2 n cap X m cap2 Y _ hc hm (sb hS hB hBW) hc2 hm2 (sb hS2 hB hBW)).mono ?_
    rintro e w1 ⟨a1, rfl, hn⟩
    have b1 := hn.below
    replace hn := hn.back hBW
    replace hBW := hBW.trans (b1.mono hBW.size)
    replace q00 := below_cell b1 q00
    replace q01 := below_cell b1 q01
    replace q10 := below_cell b1 q10
    replace q11 := below_cell b1 q11
    replace r00 := below_cell b1 r00
    replace r01 := below_cell b1 r01
    replace hR0 := below_row b1 hR0
    go_wp2_with fail
    refine (signed1 a1 (ln (X + Y)) (ln (X + Y)) t1 _ (by omega)).mono ?_
    rintro e w2 ⟨rfl, b2⟩
    replace hBW := hBW.trans (b2.mono hBW.size)
    replace q00 := below_cell b2 q00
    replace q01 := below_cell b2 q01
    replace q10 := below_cell b2 q10
    replace q11 := below_cell b2 q11
    replace r00 := below_cell b2 r00
    replace r01 := below_cell b2 r01
    replace hR0 := below_row b2 hR0
    replace hn := hn.later b2
    have fz0 := fun o => hR0.frozen o
    go_wp2
    refine bodyPost_ret (v := .agg #[.bool (t1 && decide (0 < ln (X + Y))), .slice a1 (ln (X + Y)) (ln (X + Y))]) (by rw [results_cell rfl]; go_simp) rfl ?_
    exact ⟨a1, res_eq hZ2, NewI (hn.ret hB (by omega) (by omega) _ _) hZ2⟩
  · have hf : (t1 == t2) = false := by simpa using ht
    rw [hf] at hbe
    by_cases hle : Y ≤ X
    · have hZ2 : sg t1 (X - Y) = Z := by rw [← hZ]; exact (sg_sub ht hle).symm
      have HL : Hid (Y ≤ X) := hle
      have hl4 : ln (X - Y) ≤ 70368744177664 := by have := ln_mono (Nat.sub_le X Y); omega
      clear hle
      go_enter Tryz.func95, Tryz.ntmps95
      go_wp2_with fail
      obtain ⟨W, hW⟩ : ∃ W, (((w.alloc (.cells #[.bool s1, .slice ao n cap] 25)).alloc (.cells #[.bool s2, .slice ao2 m cap2] 25)).alloc (.cells #[.bool false, .slice none 0 0] 25)) = W := ⟨_, rfl⟩
      have q00 : W.cell? ⟨w.heap.size, 0, none⟩ = some (.bool s1) := by subst hW; go_simp
      have q01 : W.cell? ⟨w.heap.size, 1, none⟩ = some (.slice ao n cap) := by subst hW; go_simp
      have q10 : W.cell? ⟨w.heap.size + 1, 0, none⟩ = some (.bool s2) := by subst hW; go_simp
      have q11 : W.cell? ⟨w.heap.size + 1, 1, none⟩ = some (.slice ao2 m cap2) := by subst hW; go_simp
      have r00 : W.cell? ⟨w.heap.size + 1 + 1, 0, none⟩ = some (.bool false) := by subst hW; go_simp
      have r01 : W.cell? ⟨w.heap.size + 1 + 1, 1, none⟩ = some (.slice none 0 0) := by subst hW; go_simp
      have hB : Below w.heap.size w W := by subst hW; exact ((((Below.refl _ _).alloc (by (try simp only [World.size_alloc]); omega) _).alloc (by (try simp only [World.size_alloc]); omega) _).alloc (by (try simp only [World.size_alloc]); omega) _)
      have hR0 : Row W (w.heap.size + 1 + 1) := by
        have := row_new (((w.alloc (.cells #[.bool s1, .slice ao n cap] 25)).alloc (.cells #[.bool s2, .slice ao2 m cap2] 25))) #[.bool false, .slice none 0 0] 25
        try simp only [World.size_alloc] at this
        subst hW; exact this
      have hz : W.heap.size = w.heap.size + 1 + 1 + 1 := by subst hW; simp only [World.size_alloc]
      rw [hW]
      clear hW
      have hBW : Below W.heap.size W W := Below.refl _ _
      go_wp2_with fail
      refine (Sub_any ao ao2 n cap X m cap2 Y _ hc (by omega) (sb hS hB hBW) hc2 (by omega) (sb hS2 hB hBW) HL.out).mono ?_
      rintro e w1 ⟨a1, rfl, hn⟩
      have b1 := hn.below
      replace hn := hn.back hBW
      replace hBW := hBW.trans (b1.mono hBW.size)
      replace q00 := below_cell b1 q00
      replace q01 := below_cell b1 q01
      replace q10 := below_cell b1 q10
      replace q11 := below_cell b1 q11
      replace r00 := below_cell b1 r00
      replace r01 := below_cell b1 r01
      replace hR0 := below_row b1 hR0
      go_wp2_with fail
      refine (signed1 a1 (ln (X - Y)) (ln (X - Y)) t1 _ (by omega)).mono ?_
      rintro e w2 ⟨rfl, b2⟩
      replace hBW := hBW.trans (b2.mono hBW.size)
      replace q00 := below_cell b2 q00
      replace q01 := below_cell b2 q01
      replace q10 := below_cell b2 q10
      replace q11 := below_cell b2 q11
      replace r00 := below_cell b2 r00
      replace r01 := below_cell b2 r01
      replace hR0 := below_row b2 hR0
      replace hn := hn.later b2
      have fz0 := fun o => hR0.frozen o
      go_wp2
      refine bodyPost_ret (v := .agg #[.bool (t1 && decide (0 < ln (X - Y))), .slice a1 (ln (X - Y)) (ln (X - Y))]) (by rw [results_cell rfl]; go_simp) rfl ?_
      exact ⟨a1, res_eq hZ2, NewI (hn.ret hB (by omega) (by omega) _ _) hZ2⟩
    · have hlt : X < Y := Nat.lt_of_not_le hle
      have hZ2 : sg t2 (Y - X) = Z := by rw [← hZ]; exact (sg_sub' ht (Nat.le_of_lt hlt)).symm
      have HL : Hid (X < Y) := hlt
      have hl4 : ln (Y - X) ≤ 70368744177664 := by have := ln_mono (Nat.sub_le Y X); omega
      clear hle hlt
      go_enter Tryz.func95, Tryz.ntmps95
      go_wp2_with fail
      obtain ⟨W, hW⟩ : ∃ W, (((w.alloc (.cells #[.bool s1, .slice ao n cap] 25)).alloc (.cells #[.bool s2, .slice ao2 m cap2] 25)).alloc (.cells #[.bool false, .slice none 0 0] 25)) = W := ⟨_, rfl⟩
      have q00 : W.cell? ⟨w.heap.size, 0, none⟩ = some (.bool s1) := by subst hW; go_simp
      have q01 : W.cell? ⟨w.heap.size, 1, none⟩ = some (.slice ao n cap) := by subst hW; go_simp
      have q10 : W.cell? ⟨w.heap.size + 1, 0, none⟩ = some (.bool s2) := by subst hW; go_simp
      have q11 : W.cell? ⟨w.heap.size + 1, 1, none⟩ = some (.slice ao2 m cap2) := by subst hW; go_simp
      have r00 : W.cell? ⟨w.heap.size + 1 + 1, 0, none⟩ = some (.bool false) := by subst hW; go_simp
      have r01 : W.cell? ⟨w.heap.size + 1 + 1, 1, none⟩ = some (.slice none 0 0) := by subst hW; go_simp
      have hB : Below w.heap.size w W := by subst hW; exact ((((Below.refl _ _).alloc (by (try simp only [World.size_alloc]); omega) _).alloc (by (try simp only [World.size_alloc]); omega) _).alloc (by (try simp only [World.size_alloc]); omega) _)
      have hR0 : Row W (w.heap.size + 1 + 1) := by
        have := row_new (((w.alloc (.cells #[.bool s1, .slice ao n cap] 25)).alloc (.cells #[.bool s2, .slice ao2 m cap2] 25))) #[.bool false, .slice none 0 0] 25
        try simp only [World.size_alloc] at this
        subst hW; exact this
      have hz : W.heap.size = w.heap.size + 1 + 1 + 1 := by subst hW; simp only [World.size_alloc]
      rw [hW]
      clear hW
      have hBW : Below W.heap.size W W := Below.refl _ _
      refine (Sub_below ao ao2 n cap X m cap2 Y _ hc (by omega) (sb hS hB hBW) hc2 (by omega) (sb hS2 hB hBW) HL.out).mono ?_
      rintro e w1 ⟨rfl, hd1⟩
      have b1 := hd1.below W.heap.size
      replace hBW := hBW.trans (b1.mono hBW.size)
      replace q00 := below_cell b1 q00
      replace q01 := below_cell b1 q01
      replace q10 := below_cell b1 q10
      replace q11 := below_cell b1 q11
      replace r00 := below_cell b1 r00
      replace r01 := below_cell b1 r01
      replace hR0 := below_row b1 hR0
      go_wp2_with fail
      refine (Sub_any ao2 ao m cap2 Y n cap X _ hc2 (by omega) (sb hS2 hB hBW) hc (by omega) (sb hS hB hBW) (Nat.le_of_lt HL.out)).mono ?_
      rintro e w2 ⟨a2, rfl, hn⟩
      have b2 := hn.below
      replace hn := hn.back hBW
      replace hBW := hBW.trans (b2.mono hBW.size)
      replace q00 := below_cell b2 q00
      replace q01 := below_cell b2 q01
      replace q10 := below_cell b2 q10
      replace q11 := below_cell b2 q11
      replace r00 := below_cell b2 r00
      replace r01 := below_cell b2 r01
      replace hR0 := below_row b2 hR0
      go_wp2_with fail
      refine (signed1 a2 (ln (Y - X)) (ln (Y - X)) t2 _ (by omega)).mono ?_
      rintro e w3 ⟨rfl, b3⟩
      replace hBW := hBW.trans (b3.mono hBW.size)
      replace q00 := below_cell b3 q00
      replace q01 := below_cell b3 q01
      replace q10 := below_cell b3 q10
      replace q11 := below_cell b3 q11
      replace r00 := below_cell b3 r00
      replace r01 := below_cell b3 r01
      replace hR0 := below_row b3 hR0
      replace hn := hn.later b3
      have fz0 := fun o => hR0.frozen o
      go_wp2
      refine bodyPost_ret (v := .agg #[.bool (t2 && decide (0 < ln (Y - X))), .slice a2 (ln (Y - X)) (ln (Y - X))]) (by rw [results_cell rfl]; go_simp) rfl ?_
      exact ⟨a2, res_eq hZ2, NewI (hn.ret hB (by omega) (by omega) _ _) hZ2⟩

set_option maxHeartbeats 2000000 in
set_option maxRecDepth 30000 in
theorem wAdd_is (s : Bool) (ao : Option Addr) (n cap X : Nat) (t : Bool) (ao2 : Option Addr) (m cap2 Y : Nat) (Z : Int) (w : World) (hc : n ≤ cap) (hm : n ≤ 70368744177663) (hS : Seg w ao X n) (hc2 : m ≤ cap2) (hm2 : m ≤ 70368744177663) (hS2 : Seg w ao2 Y m) (hZ : sg s X + sg t Y = Z) :
    Calls Tryz.prog 67 #[.agg #[.bool s, .slice ao n cap], .agg #[.bool t, .slice ao2 m cap2]] w fun e w' => ∃ ao', e = .returned (.agg #[.bool (ng Z), .slice ao' (ln (am Z)) (ln (am Z))]) ∧ New w w' ao' (am Z) (ln (am Z)) := by
  go_enter Tryz.func67, Tryz.ntmps67
  go_wp2_with fail
  obtain ⟨W, hW⟩ : ∃ W, (((w.alloc (.cells #[.bool s, .slice ao n cap] 25)).alloc (.cells #[.bool t, .slice ao2 m cap2] 25)).alloc (.cells #[.bool false, .slice none 0 0] 25)) = W := ⟨_, rfl⟩
  have q00 : W.cell? ⟨w.heap.size, 0, none⟩ = some (.bool s) := by subst hW; go_simp
  have q01 : W.cell? ⟨w.heap.size, 1, none⟩ = some (.slice ao n cap) := by subst hW; go_simp
  have q10 : W.cell? ⟨w.heap.size + 1, 0, none⟩ = some (.bool t) := by subst hW; go_simp
  have q11 : W.cell? ⟨w.heap.size + 1, 1, none⟩ = some (.slice ao2 m cap2) := by subst hW; go_simp
  have r00 : W.cell? ⟨w.heap.size + 1 + 1, 0, none⟩ = some (.bool false) := by subst hW; go_simp
  have r01 : W.cell? ⟨w.heap.size + 1 + 1, 1, none⟩ = some (.slice none 0 0) := by subst hW; go_simp
  have hB : Below w.heap.size w W := by subst hW; exact ((((Below.refl _ _).alloc (by (try simp only [World.size_alloc]); omega) _).alloc (by (try simp only [World.size_alloc]); omega) _).alloc (by (try simp only [World.size_alloc]); omega) _)
  have hR0 : Row W (w.heap.size + 1 + 1) := by
    have := row_new (((w.alloc (.cells #[.bool s, .slice ao n cap] 25)).alloc (.cells #[.bool t, .slice ao2 m cap2] 25))) #[.bool false, .slice none 0 0] 25
    try simp only [World.size_alloc] at this
    subst hW; exact this
  have hz : W.heap.size = w.heap.size + 1 + 1 + 1 := by subst hW; simp only [World.size_alloc]
  rw [hW]
  clear hW
  have hBW : Below W.heap.size W W := Below.refl _ _
  replace hBW := hBW.drew
  first
    | go_region_held3 (fun w' => w'.cell? ⟨w.heap.size, 0, none⟩ = some (.bool s) ∧ w'.cell? ⟨w.heap.size, 1, none⟩ = some (.slice ao n cap) ∧ w'.cell? ⟨w.heap.size + 1, 0, none⟩ = some (.bool t) ∧ w'.cell? ⟨w.heap.size + 1, 1, none⟩ = some (.slice ao2 m cap2) ∧ Below w.heap.size w w')
        (first | exact ⟨q00, q01, q10, q11, hB.trans (hBW.mono hB.size)⟩ | exact kp4 b1 (by assumption) | exact kp4 b2 (by assumption) | exact kp4 b3 (by assumption) | exact kp4 (below_alloc _) (by assumption) | exact kpS4 (kpS4 (by assumption) (by omega) (by omega)  (by omega)) (by omega) (by omega)  (by omega))
        (first
          | (go_at_call 64; go_at_call_of 64 (Value.agg #[.bool s, .slice ao n cap]); refine (side_any s _ _).mono ?_; rintro e w1 ⟨rfl, b1⟩; replace hBW := hBW.trans (b1.mono hBW.size); replace q00 := below_cell b1 q00; replace q01 := below_cell b1 q01; replace q10 := below_cell b1 q10; replace q11 := below_cell b1 q11; replace r00 := below_cell b1 r00; replace r01 := below_cell b1 r01; replace hR0 := below_row b1 hR0)
          | (go_at_call 64; go_at_call_of 64 (Value.agg #[.bool t, .slice ao2 m cap2]); refine (side_any t _ _).mono ?_; rintro e w2 ⟨rfl, b2⟩; replace hBW := hBW.trans (b2.mono hBW.size); replace q00 := below_cell b2 q00; replace q01 := below_cell b2 q01; replace q10 := below_cell b2 q10; replace q11 := below_cell b2 q11; replace r00 := below_cell b2 r00; replace r01 := below_cell b2 r01; replace hR0 := below_row b2 hR0)
          | (go_at_call 95; (fail_if_success clear b3); refine (sum_is s s ao n cap X t t ao2 m cap2 Y Z _ hc hm (sb hS hB hBW) hc2 hm2 (sb hS2 hB hBW) hZ).mono ?_; rintro e w3 ⟨a3, rfl, hn⟩; have b3 := hn.below; replace hn := hn.back hBW; replace hBW := hBW.trans (b3.mono hBW.size); replace q00 := below_cell b3 q00; replace q01 := below_cell b3 q01; replace q10 := below_cell b3 q10; replace q11 := below_cell b3 q11; replace r00 := below_cell b3 r00; replace r01 := below_cell b3 r01; replace hR0 := below_row b3 hR0; have fz := fun o => hR0.frozen o))
    | fail
  go_wp2
  refine bodyPost_ret (v := .agg #[.bool (ng Z), .slice a3 (ln (am Z)) (ln (am Z))]) (by rw [results_cell rfl]; go_simp) rfl ?_
  exact ⟨a3, rfl, hn.ret hB (by omega) (by omega) _ _⟩

theorem sd_neg (s : Bool) : wrap64 (-(sd s)) = sd (!s) := by cases s <;> simp [sd, wrap64]
theorem sd_neg2 (s : Bool) : IntKind.i64.wrap (-(sd s)) = sd (!s) := by cases s <;> decide
set_option maxHeartbeats 2000000 in
set_option maxRecDepth 30000 in
theorem wSub_is (s : Bool) (ao : Option Addr) (n cap X : Nat) (t : Bool) (ao2 : Option Addr) (m cap2 Y : Nat) (Z : Int) (w : World) (hc : n ≤ cap) (hm : n ≤ 70368744177663) (hS : Seg w ao X n) (hc2 : m ≤ cap2) (hm2 : m ≤ 70368744177663) (hS2 : Seg w ao2 Y m) (hZ : sg s X - sg t Y = Z) :
    Calls Tryz.prog 68 #[.agg #[.bool s, .slice ao n cap], .agg #[.bool t, .slice ao2 m cap2]] w fun e w' => ∃ ao', e = .returned (.agg #[.bool (ng Z), .slice ao' (ln (am Z)) (ln (am Z))]) ∧ New w w' ao' (am Z) (ln (am Z)) := by
  have hZ2 : sg s X + sg (!t) Y = Z := by rw [sg_not]; omega
  have hsd := sd_range t
  go_enter Tryz.func68, Tryz.ntmps68
  go_wp2_with fail
  obtain ⟨W, hW⟩ : ∃ W, (((w.alloc (.cells #[.bool s, .slice ao n cap] 25)).alloc (.cells #[.bool t, .slice ao2 m cap2] 25)).alloc (.cells #[.bool false, .slice none 0 0] 25)) = W := ⟨_, rfl⟩
  have q00 : W.cell? ⟨w.heap.size, 0, none⟩ = some (.bool s) := by subst hW; go_simp
  have q01 : W.cell? ⟨w.heap.size, 1, none⟩ = some (.slice ao n cap) := by subst hW; go_simp
  have q10 : W.cell? ⟨w.heap.size + 1, 0, none⟩ = some (.bool t) := by subst hW; go_simp
  have q11 : W.cell? ⟨w.heap.size + 1, 1, none⟩ = some (.slice ao2 m cap2) := by subst hW; go_simp
  have r00 : W.cell? ⟨w.heap.size + 1 + 1, 0, none⟩ = some (.bool false) := by subst hW; go_simp
  have r01 : W.cell? ⟨w.heap.size + 1 + 1, 1, none⟩ = some (.slice none 0 0) := by subst hW; go_simp
  have hB : Below w.heap.size w W := by subst hW; exact ((((Below.refl _ _).alloc (by (try simp only [World.size_alloc]); omega) _).alloc (by (try simp only [World.size_alloc]); omega) _).alloc (by (try simp only [World.size_alloc]); omega) _)
  have hR0 : Row W (w.heap.size + 1 + 1) := by
    have := row_new (((w.alloc (.cells #[.bool s, .slice ao n cap] 25)).alloc (.cells #[.bool t, .slice ao2 m cap2] 25))) #[.bool false, .slice none 0 0] 25
    try simp only [World.size_alloc] at this
    subst hW; exact this
  have hz : W.heap.size = w.heap.size + 1 + 1 + 1 := by subst hW; simp only [World.size_alloc]
  rw [hW]
  clear hW
  have hBW : Below W.heap.size W W := Below.refl _ _
  replace hBW := hBW.drew
  first
    | go_region_held3 (fun w' => w'.cell? ⟨w.heap.size, 0, none⟩ = some (.bool s) ∧ w'.cell? ⟨w.heap.size, 1, none⟩ = some (.slice ao n cap) ∧ w'.cell? ⟨w.heap.size + 1, 0, none⟩ = some (.bool t) ∧ w'.cell? ⟨w.heap.size + 1, 1, none⟩ = some (.slice ao2 m cap2) ∧ Below w.heap.size w w')
        (first | exact ⟨q00, q01, q10, q11, hB.trans (hBW.mono hB.size)⟩ | exact kp4 b1 (by assumption) | exact kp4 b2 (by assumption) | exact kp4 b3 (by assumption) | exact kp4 (below_alloc _) (by assumption) | exact kpS4 (kpS4 (by assumption) (by omega) (by omega)  (by omega)) (by omega) (by omega)  (by omega))
        (first
          | (go_at_call 64; go_at_call_of 64 (Value.agg #[.bool s, .slice ao n cap]); refine (side_any s _ _).mono ?_; rintro e w1 ⟨rfl, b1⟩; replace hBW := hBW.trans (b1.mono hBW.size); replace q00 := below_cell b1 q00; replace q01 := below_cell b1 q01; replace q10 := below_cell b1 q10; replace q11 := below_cell b1 q11; replace r00 := below_cell b1 r00; replace r01 := below_cell b1 r01; replace hR0 := below_row b1 hR0)
          | (go_at_call 64; go_at_call_of 64 (Value.agg #[.bool t, .slice ao2 m cap2]); refine (side_any t _ _).mono ?_; rintro e w2 ⟨rfl, b2⟩; replace hBW := hBW.trans (b2.mono hBW.size); replace q00 := below_cell b2 q00; replace q01 := below_cell b2 q01; replace q10 := below_cell b2 q10; replace q11 := below_cell b2 q11; replace r00 := below_cell b2 r00; replace r01 := below_cell b2 r01; replace hR0 := below_row b2 hR0)
          | (go_at_call 95; (fail_if_success clear b3); (first | rw [sd_neg2 t] | rw [show wrap64 (-(sd t)) = sd (!t) from sd_neg t] | rw [show -(sd t) = sd (!t) by cases t <;> rfl]); refine (sum_is s s ao n cap X t (!t) ao2 m cap2 Y Z _ hc hm (sb hS hB hBW) hc2 hm2 (sb hS2 hB hBW) hZ2).mono ?_; rintro e w3 ⟨a3, rfl, hn⟩; have b3 := hn.below; replace hn := hn.back hBW; replace hBW := hBW.trans (b3.mono hBW.size); replace q00 := below_cell b3 q00; replace q01 := below_cell b3 q01; replace q10 := below_cell b3 q10; replace q11 := below_cell b3 q11; replace r00 := below_cell b3 r00; replace r01 := below_cell b3 r01; replace hR0 := below_row b3 hR0; have fz := fun o => hR0.frozen o))
    | fail
  go_wp2
  refine bodyPost_ret (v := .agg #[.bool (ng Z), .slice a3 (ln (am Z)) (ln (am Z))]) (by rw [results_cell rfl]; go_simp) rfl ?_
  exact ⟨a3, rfl, hn.ret hB (by omega) (by omega) _ _⟩

set_option maxHeartbeats 2000000 in
set_option maxRecDepth 30000 in
theorem wMul_is (s : Bool) (ao : Option Addr) (n cap X : Nat) (t : Bool) (ao2 : Option Addr) (m cap2 Y : Nat) (Z : Int) (w : World) (hc : n ≤ cap) (hm : n ≤ 35184372088832) (hS : Seg w ao X n) (hc2 : m ≤ cap2) (hm2 : m ≤ 35184372088832) (hS2 : Seg w ao2 Y m) (hZ : sg s X * sg t Y = Z) :
    Calls Tryz.prog 63 #[.agg #[.bool s, .slice ao n cap], .agg #[.bool t, .slice ao2 m cap2]] w fun e w' => ∃ ao', e = .returned (.agg #[.bool (ng Z), .slice ao' (ln (am Z)) (ln (am Z))]) ∧ New w w' ao' (am Z) (ln (am Z)) := by
  have hZ2 : sg (s != t) (X * Y) = Z := by rw [← sg_mul]; exact hZ
  have hl3 : ln (X * Y) ≤ 70368744177664 := by have := ln_prod hS.1 hS2.1; omega
  obtain ⟨P, hP⟩ : ∃ P, X * Y = P := ⟨_, rfl⟩
  rw [hP] at hZ2 hl3
  go_enter Tryz.func63, Tryz.ntmps63
  go_wp2_with fail
  obtain ⟨W, hW⟩ : ∃ W, (((w.alloc (.cells #[.bool s, .slice ao n cap] 25)).alloc (.cells #[.bool t, .slice ao2 m cap2] 25)).alloc (.cells #[.bool false, .slice none 0 0] 25)) = W := ⟨_, rfl⟩
  have q00 : W.cell? ⟨w.heap.size, 0, none⟩ = some (.bool s) := by subst hW; go_simp
  have q01 : W.cell? ⟨w.heap.size, 1, none⟩ = some (.slice ao n cap) := by subst hW; go_simp
  have q10 : W.cell? ⟨w.heap.size + 1, 0, none⟩ = some (.bool t) := by subst hW; go_simp
  have q11 : W.cell? ⟨w.heap.size + 1, 1, none⟩ = some (.slice ao2 m cap2) := by subst hW; go_simp
  have r00 : W.cell? ⟨w.heap.size + 1 + 1, 0, none⟩ = some (.bool false) := by subst hW; go_simp
  have r01 : W.cell? ⟨w.heap.size + 1 + 1, 1, none⟩ = some (.slice none 0 0) := by subst hW; go_simp
  have hB : Below w.heap.size w W := by subst hW; exact ((((Below.refl _ _).alloc (by (try simp only [World.size_alloc]); omega) _).alloc (by (try simp only [World.size_alloc]); omega) _).alloc (by (try simp only [World.size_alloc]); omega) _)
  have hR0 : Row W (w.heap.size + 1 + 1) := by
    have := row_new (((w.alloc (.cells #[.bool s, .slice ao n cap] 25)).alloc (.cells #[.bool t, .slice ao2 m cap2] 25))) #[.bool false, .slice none 0 0] 25
    try simp only [World.size_alloc] at this
    subst hW; exact this
  have hz : W.heap.size = w.heap.size + 1 + 1 + 1 := by subst hW; simp only [World.size_alloc]
  rw [hW]
  clear hW
  have hBW : Below W.heap.size W W := Below.refl _ _
  replace hBW := hBW.drew
  first
    | go_region_held3 (fun w' => w'.cell? ⟨w.heap.size, 0, none⟩ = some (.bool s) ∧ w'.cell? ⟨w.heap.size, 1, none⟩ = some (.slice ao n cap) ∧ w'.cell? ⟨w.heap.size + 1, 0, none⟩ = some (.bool t) ∧ w'.cell? ⟨w.heap.size + 1, 1, none⟩ = some (.slice ao2 m cap2) ∧ Below w.heap.size w w')
        (first | exact ⟨q00, q01, q10, q11, hB.trans (hBW.mono hB.size)⟩ | exact kp4 b1 (by assumption) | exact kp4 b2 (by assumption) | exact kp4 b3 (by assumption) | exact kp4 b4 (by assumption) | exact kp4 (below_alloc _) (by assumption) | exact kpS4 (kpS4 (by assumption) (by omega) (by omega)  (by omega)) (by omega) (by omega)  (by omega))
        (first
          | (go_at_call 93; (fail_if_success clear b1); refine (Mul_is ao ao2 n cap X m cap2 Y P _ hc hm (sb hS hB hBW) hc2 hm2 (sb hS2 hB hBW) hP).mono ?_; rintro e w1 ⟨a1, rfl, hn⟩; have b1 := hn.below; replace hn := hn.back hBW; replace hBW := hBW.trans (b1.mono hBW.size); replace q00 := below_cell b1 q00; replace q01 := below_cell b1 q01; replace q10 := below_cell b1 q10; replace q11 := below_cell b1 q11; replace r00 := below_cell b1 r00; replace r01 := below_cell b1 r01; replace hR0 := below_row b1 hR0)
          | (go_at_call 64; go_at_call_of 64 (Value.agg #[.bool s, .slice ao n cap]); refine (side_any s _ _).mono ?_; rintro e w2 ⟨rfl, b2⟩; replace hBW := hBW.trans (b2.mono hBW.size); replace q00 := below_cell b2 q00; replace q01 := below_cell b2 q01; replace q10 := below_cell b2 q10; replace q11 := below_cell b2 q11; replace r00 := below_cell b2 r00; replace r01 := below_cell b2 r01; replace hR0 := below_row b2 hR0; replace hn := hn.later b2)
          | (go_at_call 64; go_at_call_of 64 (Value.agg #[.bool t, .slice ao2 m cap2]); refine (side_any t _ _).mono ?_; rintro e w3 ⟨rfl, b3⟩; replace hBW := hBW.trans (b3.mono hBW.size); replace q00 := below_cell b3 q00; replace q01 := below_cell b3 q01; replace q10 := below_cell b3 q10; replace q11 := below_cell b3 q11; replace r00 := below_cell b3 r00; replace r01 := below_cell b3 r01; replace hR0 := below_row b3 hR0; replace hn := hn.later b3)
          | (go_at_call 91; refine (signed2 a1 (ln P) (ln P) s t _ (by omega)).mono ?_; rintro e w4 ⟨rfl, b4⟩; replace hBW := hBW.trans (b4.mono hBW.size); replace q00 := below_cell b4 q00; replace q01 := below_cell b4 q01; replace q10 := below_cell b4 q10; replace q11 := below_cell b4 q11; replace r00 := below_cell b4 r00; replace r01 := below_cell b4 r01; replace hR0 := below_row b4 hR0; replace hn := hn.later b4; have fz := fun o => hR0.frozen o))
    | fail
  go_wp2
  refine bodyPost_ret (v := .agg #[.bool ((s != t) && decide (0 < ln P)), .slice a1 (ln P) (ln P)]) (by rw [results_cell rfl]; go_simp) rfl ?_
  exact ⟨a1, res_eq hZ2, NewI (hn.ret hB (by omega) (by omega) _ _) hZ2⟩
end Go.Proofs.YtejlnodillnoaaaGreatDoor
