import Derived.Test.YtejlnodillnoaaaGreatDoorWI4
import Derived.Test.YtejlnodillnoaaaGreatDoorW11
import Derived.Test.YtejlnodillnoaaaGreatDoorWIm
set_option linter.unusedSimpArgs false
namespace Go.Proofs.YtejlnodillnoaaaGreatDoor
open Go.RowKit
set_option linter.unusedVariables false
set_option maxHeartbeats 2000000 in
set_option maxRecDepth 100000 in
theorem wQuo_is (s : Bool) (ao : Option Addr) (n cap X : Nat) (t : Bool) (ao2 : Option Addr) (m cap2 Y P R : Nat) (Zq Zr : Int) (w : World) (hc : n ≤ cap) (hm : n ≤ 70368744177663) (hS : Seg w ao X n) (hc2 : m ≤ cap2) (hm2 : m ≤ 70368744177663) (hS2 : Seg w ao2 Y m) (h : X = P * Y + R) (hR : R < Y) (hq : sg (s != t) P = Zq) (hr : sg s R = Zr) :
    Calls Tryz.prog 94 #[.agg #[.bool s, .slice ao n cap], .agg #[.bool t, .slice ao2 m cap2]] w fun e w' => ∃ aq ar, e = .returned (.tuple #[.agg #[.bool (ng Zq), .slice aq (ln (am Zq)) (ln (am Zq))], .agg #[.bool (ng Zr), .slice ar (ln (am Zr)) (ln (am Zr))], .int .i64 0]) ∧ New w w' aq (am Zq) (ln (am Zq)) ∧ New w w' ar (am Zr) (ln (am Zr)) := by
  have hP : P ≤ X := by
    have h1 : P * 1 ≤ P * Y := Nat.mul_le_mul_left P (by omega)
    omega
  have hlp : ln P ≤ 70368744177664 := by have := ln_le_of_lt (Nat.lt_of_le_of_lt hP hS.1); omega
  have hlr : ln R ≤ 70368744177664 := by have := ln_le_of_lt (Nat.lt_trans hR hS2.1); omega
  have HD : ∀ w', Seg w' ao X n → Seg w' ao2 Y m → _ := fun w' k1 k2 => Div_is ao ao2 n cap X m cap2 Y P R w' hc hm k1 hc2 hm2 k2 h hR
  have HDh := hide' HD
  clear h hR HD hP
  go_enter Tryz.func94, Tryz.ntmps94
  go_wp2_with fail
  obtain ⟨W, hW⟩ : ∃ W, ((((w.alloc (.cells #[.bool s, .slice ao n cap] 25)).alloc (.cells #[.bool t, .slice ao2 m cap2] 25)).alloc (.cells #[.bool false, .slice none 0 0] 25)).alloc (.cells #[.bool false, .slice none 0 0] 25)) = W := ⟨_, rfl⟩
  have q00 : W.cell? ⟨w.heap.size, 0, none⟩ = some (.bool s) := by subst hW; go_simp
  have q01 : W.cell? ⟨w.heap.size, 1, none⟩ = some (.slice ao n cap) := by subst hW; go_simp
  have q10 : W.cell? ⟨w.heap.size + 1, 0, none⟩ = some (.bool t) := by subst hW; go_simp
  have q11 : W.cell? ⟨w.heap.size + 1, 1, none⟩ = some (.slice ao2 m cap2) := by subst hW; go_simp
  have r00 : W.cell? ⟨w.heap.size + 1 + 1, 0, none⟩ = some (.bool false) := by subst hW; go_simp
  have r01 : W.cell? ⟨w.heap.size + 1 + 1, 1, none⟩ = some (.slice none 0 0) := by subst hW; go_simp
  have r10 : W.cell? ⟨w.heap.size + 1 + 1 + 1, 0, none⟩ = some (.bool false) := by subst hW; go_simp
  have r11 : W.cell? ⟨w.heap.size + 1 + 1 + 1, 1, none⟩ = some (.slice none 0 0) := by subst hW; go_simp
  have hB : Below w.heap.size w W := by subst hW; exact (((((Below.refl _ _).alloc (by (try simp only [World.size_alloc]); omega) _).alloc (by (try simp only [World.size_alloc]); omega) _).alloc (by (try simp only [World.size_alloc]); omega) _).alloc (by (try simp only [World.size_alloc]); omega) _)
  have hR0 : Row W (w.heap.size + 1 + 1) := by
    have := row_new (((w.alloc (.cells #[.bool s, .slice ao n cap] 25)).alloc (.cells #[.bool t, .slice ao2 m cap2] 25))) #[.bool false, .slice none 0 0] 25
    try simp only [World.size_alloc] at this
    subst hW; exact (this.alloc _)
  have hR1 : Row W (w.heap.size + 1 + 1 + 1) := by
    have := row_new ((((w.alloc (.cells #[.bool s, .slice ao n cap] 25)).alloc (.cells #[.bool t, .slice ao2 m cap2] 25)).alloc (.cells #[.bool false, .slice none 0 0] 25))) #[.bool false, .slice none 0 0] 25
    try simp only [World.size_alloc] at this
    subst hW; exact this
  have hz : W.heap.size = w.heap.size + 1 + 1 + 1 + 1 := by subst hW; simp only [World.size_alloc]
  rw [hW]
  clear hW
  have hBW : Below W.heap.size W W := Below.refl _ _
  refine (HDh.out _ (sb hS hB hBW) (sb hS2 hB hBW)).mono ?_
  rintro e w1 ⟨a1, c1, rfl, hn, hk⟩
  have b1 := hn.below
  replace hBW := hBW.trans (b1.mono hBW.size)
  replace q00 := below_cell b1 q00
  replace q01 := below_cell b1 q01
  replace q10 := below_cell b1 q10
  replace q11 := below_cell b1 q11
  replace r00 := below_cell b1 r00
  replace r01 := below_cell b1 r01
  replace r10 := below_cell b1 r10
  replace r11 := below_cell b1 r11
  replace hR0 := below_row b1 hR0
  replace hR1 := below_row b1 hR1
  go_wp2_with fail
  replace hBW := hBW.drew
  replace hn := hn.drew
  replace hk := hk.drew
  first
    | go_region_held3 (fun w' => w'.cell? ⟨w.heap.size, 0, none⟩ = some (.bool s) ∧ w'.cell? ⟨w.heap.size, 1, none⟩ = some (.slice ao n cap) ∧ w'.cell? ⟨w.heap.size + 1, 0, none⟩ = some (.bool t) ∧ w'.cell? ⟨w.heap.size + 1, 1, none⟩ = some (.slice ao2 m cap2) ∧ Below w.heap.size w w')
        (first | exact ⟨q00, q01, q10, q11, hB.trans (hBW.mono hB.size)⟩ | exact kp4 b2 (by assumption) | exact kp4 b3 (by assumption) | exact kp4 b4 (by assumption) | exact kp4 b5 (by assumption) | exact kp4 (below_alloc _) (by assumption) | exact kpS4 (kpS4 (by assumption) (by omega) (by omega)  (by omega)) (by omega) (by omega)  (by omega))
        (first
          | (go_at_call 64; go_at_call_of 64 (Value.agg #[.bool s, .slice ao n cap]); refine (side_any s _ _).mono ?_; rintro e w2 ⟨rfl, b2⟩; replace hBW := hBW.trans (b2.mono hBW.size); replace q00 := below_cell b2 q00; replace q01 := below_cell b2 q01; replace q10 := below_cell b2 q10; replace q11 := below_cell b2 q11; replace r00 := below_cell b2 r00; replace r01 := below_cell b2 r01; replace r10 := below_cell b2 r10; replace r11 := below_cell b2 r11; replace hR0 := below_row b2 hR0; replace hR1 := below_row b2 hR1; replace hn := hn.later b2; replace hk := hk.later b2)
          | (go_at_call 64; go_at_call_of 64 (Value.agg #[.bool t, .slice ao2 m cap2]); refine (side_any t _ _).mono ?_; rintro e w3 ⟨rfl, b3⟩; replace hBW := hBW.trans (b3.mono hBW.size); replace q00 := below_cell b3 q00; replace q01 := below_cell b3 q01; replace q10 := below_cell b3 q10; replace q11 := below_cell b3 q11; replace r00 := below_cell b3 r00; replace r01 := below_cell b3 r01; replace r10 := below_cell b3 r10; replace r11 := below_cell b3 r11; replace hR0 := below_row b3 hR0; replace hR1 := below_row b3 hR1; replace hn := hn.later b3; replace hk := hk.later b3)
          | (go_at_call 91; go_at_call_of 91 (Value.slice a1 (ln P) (ln P)); refine (signed2 a1 (ln P) (ln P) s t _ (by omega)).mono ?_; rintro e w4 ⟨rfl, b4⟩; replace hBW := hBW.trans (b4.mono hBW.size); replace q00 := below_cell b4 q00; replace q01 := below_cell b4 q01; replace q10 := below_cell b4 q10; replace q11 := below_cell b4 q11; replace r00 := below_cell b4 r00; replace r01 := below_cell b4 r01; replace r10 := below_cell b4 r10; replace r11 := below_cell b4 r11; replace hR0 := below_row b4 hR0; replace hR1 := below_row b4 hR1; replace hn := hn.later b4; replace hk := hk.later b4)
          | (go_at_call 91; go_at_call_of 91 (Value.slice c1 (ln R) (ln R)); refine (signed1 c1 (ln R) (ln R) s _ (by omega)).mono ?_; rintro e w5 ⟨rfl, b5⟩; replace hBW := hBW.trans (b5.mono hBW.size); replace q00 := below_cell b5 q00; replace q01 := below_cell b5 q01; replace q10 := below_cell b5 q10; replace q11 := below_cell b5 q11; replace r00 := below_cell b5 r00; replace r01 := below_cell b5 r01; replace r10 := below_cell b5 r10; replace r11 := below_cell b5 r11; replace hR0 := below_row b5 hR0; replace hR1 := below_row b5 hR1; replace hn := hn.later b5; replace hk := hk.later b5; have fz0 := fun o => hR0.frozen o; have fz1 := fun o => hR1.frozen o))
    | fail
  go_wp2
  refine bodyPost_ret (v := .tuple #[.agg #[.bool ((s != t) && decide (0 < ln P)), .slice a1 (ln P) (ln P)], .agg #[.bool (s && decide (0 < ln R)), .slice c1 (ln R) (ln R)], .int .i64 0]) (by rw [results_cct rfl]; go_simp) rfl ?_
  exact ⟨a1, c1, res_eq3 hq hr, NewI (hn.ret2 hB (by omega) (by omega) (by omega) (by omega) _ _ _ _) hq, NewI (hk.ret2 hB (by omega) (by omega) (by omega) (by omega) _ _ _ _) hr⟩
end Go.Proofs.YtejlnodillnoaaaGreatDoor
