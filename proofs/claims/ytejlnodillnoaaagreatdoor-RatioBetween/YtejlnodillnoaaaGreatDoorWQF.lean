import Derived.Test.YtejlnodillnoaaaGreatDoorWI4
import Derived.Test.YtejlnodillnoaaaGreatDoorWIm
import Derived.Test.YtejlnodillnoaaaGreatDoorWQ7
import Derived.Test.YtejlnodillnoaaaGreatDoorWIA
import Derived.Test.YtejlnodillnoaaaGreatDoorWQA
set_option linter.unusedSimpArgs false
namespace Go.Proofs.YtejlnodillnoaaaGreatDoor
open Go.RowKit
set_option linter.unusedVariables false
set_option maxHeartbeats 2000000 in
set_option maxRecDepth 100000 in
theorem vQuo_is (s : Bool) (ao : Option Addr) (n cap X : Nat) (t : Bool) (ao2 : Option Addr) (m cap2 Y P R : Nat) (Zq Zr : Int) (w : World) (hm : n ≤ 70368744177660) (hS : Seg w ao X n) (hm2 : m ≤ 70368744177660) (hS2 : Seg w ao2 Y m) (h : X = P * Y + R) (hR : R < Y) (hq : sg (s != t) P = Zq) (hr : sg s R = Zr) :
    Calls Tryz.prog 98 #[.agg #[.bool s, .slice ao n cap], .agg #[.bool t, .slice ao2 m cap2]] w fun e w' => ∃ aq ar, e = .returned (.tuple #[.agg #[.bool (ng Zq), .slice aq (ln (am Zq)) (ln (am Zq))], .agg #[.bool (ng Zr), .slice ar (ln (am Zr)) (ln (am Zr))], .int .i64 0]) ∧ New w w' aq (am Zq) (ln (am Zq)) ∧ New w w' ar (am Zr) (ln (am Zr)) := by
  have hP : P ≤ X := by
    have h1 : P * 1 ≤ P * Y := Nat.mul_le_mul_left P (by omega)
    omega
  have hlp : ln P ≤ 70368744177664 := by have := ln_le_of_lt (Nat.lt_of_le_of_lt hP hS.1); omega
  have hlr : ln R ≤ 70368744177664 := by have := ln_le_of_lt (Nat.lt_trans hR hS2.1); omega
  have HD : ∀ w', Seg w' ao X n → Seg w' ao2 Y m → _ := fun w' k1 k2 => rDiv_is ao ao2 n cap X m cap2 Y P R w' hm k1 hm2 k2 h hR
  have HDh := hide' HD
  obtain ⟨C, hC⟩ : ∃ C, sgn (sg t Y) = C := ⟨_, rfl⟩
  have hCn : (C == 0) = false := by rw [← hC, sgn_sg (by omega)]; cases t <;> rfl
  have KS : Hid (∀ w', Seg w' ao2 Y m → Calls Tryz.prog 71 #[.agg #[.bool t, .slice ao2 m cap2]] w' fun e w'' => e = .returned (.int .i64 C) ∧ Below w'.heap.size w' w'') :=
    fun w' h1 => by rw [← hC]; exact vSign_is t ao2 m cap2 Y _ w' (by omega) h1 rfl
  clear h hR HD hP hC
  go_enter Tryz.func98, Tryz.ntmps98
  go_wp2_with fail
  obtain ⟨W, hW⟩ : ∃ W, ((((w.alloc (.cells #[.bool s, .slice ao n cap] 25)).alloc (.cells #[.bool t, .slice ao2 m cap2] 25)).alloc (.cells #[.bool false, .slice none 0 0] 25)).alloc (.cells #[.bool false, .slice none 0 0] 25)) = W := ⟨_, rfl⟩
  have q00 : W.cell? ⟨w.heap.size, 0, none⟩ = some (.bool s) := by subst hW; go_simp
  have q01 : W.cell? ⟨w.heap.size, 1, none⟩ = some (.slice ao n cap) := by subst hW; go_simp
  have q10 : W.cell? ⟨w.heap.size + 1, 0, none⟩ = some (.bool t) := by subst hW; go_simp
  have q11 : W.cell? ⟨w.heap.size + 1, 1, none⟩ = some (.slice ao2 m cap2) := by subst hW; go_simp
  have r00 : W.cell? ⟨w.heap.size + 1 + 1, 0, none⟩ = some (.bool false) := by subst hW; go_simp
  have r01 : W.cell? ⟨w.heap.size + 1 + 1, 1, none⟩ = some (.slice none 0 0) := by subst hW; go_simp
  have r10 : W.cell? ⟨w.heap.size + 1 + 1 + 1, 0, none⟩ = some (.bool false) := by subst hW; go_simp
  have r11 : W.cell? ⟨w.heap.size + 1 + 1 + 1, 1, none⟩ = some (.slice none 0 0) := by subst hW; go_simp
  have hB : Below w.heap.size w W := by subst hW; exact (((((Below.refl _ _).alloc (by (try simp only [World.size_alloc]); omega) _).alloc (by (try simp only [World.size_alloc]); omega) _).alloc (by (try simp only [World.size_alloc]); omega) _).alloc (by (try simp only [World.size_alloc]); omega) _)
  have hR0 : Row W (w.heap.size + 1 + 1) := by
    have := row_new (((w.alloc (.cells #[.bool s, .slice ao n cap] 25)).alloc (.cells #[.bool t, .slice ao2 m cap2] 25))) #[.bool false, .slice none 0 0] 25
    try simp only [World.size_alloc] at this
    subst hW; exact (this.alloc _)
  have hR1 : Row W (w.heap.size + 1 + 1 + 1) := by
    have := row_new ((((w.alloc (.cells #[.bool s, .slice ao n cap] 25)).alloc (.cells #[.bool t, .slice ao2 m cap2] 25)).alloc (.cells #[.bool false, .slice none 0 0] 25))) #[.bool false, .slice none 0 0] 25
    try simp only [World.size_alloc] at this
    subst hW; exact this
  have hz : W.heap.size = w.heap.size + 1 + 1 + 1 + 1 := by subst hW; simp only [World.size_alloc]
  rw [hW]
  clear hW
  have hBW : Below W.heap.size W W := Below.refl _ _
  refine (KS.out _ (sb hS2 hB hBW)).mono ?_
  rintro e w1 ⟨rfl, b1⟩
  replace hBW := hBW.trans (b1.mono hBW.size)
  replace q00 := below_cell b1 q00
  replace q01 := below_cell b1 q01
  replace q10 := below_cell b1 q10
  replace q11 := below_cell b1 q11
  replace r00 := below_cell b1 r00
  replace r01 := below_cell b1 r01
  replace r10 := below_cell b1 r10
  replace r11 := below_cell b1 r11
  replace hR0 := below_row b1 hR0
  replace hR1 := below_row b1 hR1
  go_wp2_with fail
  refine (HDh.out _ (sb hS hB hBW) (sb hS2 hB hBW)).mono ?_
  rintro e w2 ⟨a2, c2, rfl, hn, hk⟩
  have b2 := hn.below
  replace hn := hn.back hBW
  replace hk := hk.back hBW
  replace hBW := hBW.trans (b2.mono hBW.size)
  replace q00 := below_cell b2 q00
  replace q01 := below_cell b2 q01
  replace q10 := below_cell b2 q10
  replace q11 := below_cell b2 q11
  replace r00 := below_cell b2 r00
  replace r01 := below_cell b2 r01
  replace r10 := below_cell b2 r10
  replace r11 := below_cell b2 r11
  replace hR0 := below_row b2 hR0
  replace hR1 := below_row b2 hR1
  go_wp2_with fail
  replace hBW := hBW.drew
  replace hn := hn.drew
  replace hk := hk.drew
  first
    | go_region_held3 (fun w' => w'.cell? ⟨w.heap.size, 0, none⟩ = some (.bool s) ∧ w'.cell? ⟨w.heap.size, 1, none⟩ = some (.slice ao n cap) ∧ w'.cell? ⟨w.heap.size + 1, 0, none⟩ = some (.bool t) ∧ w'.cell? ⟨w.heap.size + 1, 1, none⟩ = some (.slice ao2 m cap2) ∧ Below w.heap.size w w')
        (first | exact ⟨q00, q01, q10, q11, hB.trans (hBW.mono hB.size)⟩ | exact kp4 b3 (by assumption) | exact kp4 b4 (by assumption) | exact kp4 (below_alloc _) (by assumption) | exact kpS4 (kpS4 (by assumption) (by omega) (by omega)  (by omega)) (by omega) (by omega)  (by omega))
        (first
          | (go_at_call 78; go_at_call_of 78 (Value.slice a2 (ln P) (ln P)); refine (made_is (s != t) a2 _ _ P Zq _ (by omega) hn.seg hq).mono ?_; rintro e w3 ⟨a3, rfl, h3⟩; have b3 := h3.below; replace h3 := h3.back hBW; replace hBW := hBW.trans (b3.mono hBW.size); replace q00 := below_cell b3 q00; replace q01 := below_cell b3 q01; replace q10 := below_cell b3 q10; replace q11 := below_cell b3 q11; replace r00 := below_cell b3 r00; replace r01 := below_cell b3 r01; replace r10 := below_cell b3 r10; replace r11 := below_cell b3 r11; replace hR0 := below_row b3 hR0; replace hR1 := below_row b3 hR1; replace hn := hn.later b3; replace hk := hk.later b3)
          | (go_at_call 78; go_at_call_of 78 (Value.slice c2 (ln R) (ln R)); refine (made_is s c2 _ _ R Zr _ (by omega) hk.seg hr).mono ?_; rintro e w4 ⟨a4, rfl, h4⟩; have b4 := h4.below; replace h4 := h4.back hBW; replace hBW := hBW.trans (b4.mono hBW.size); replace q00 := below_cell b4 q00; replace q01 := below_cell b4 q01; replace q10 := below_cell b4 q10; replace q11 := below_cell b4 q11; replace r00 := below_cell b4 r00; replace r01 := below_cell b4 r01; replace r10 := below_cell b4 r10; replace r11 := below_cell b4 r11; replace hR0 := below_row b4 hR0; replace hR1 := below_row b4 hR1; replace hn := hn.later b4; replace hk := hk.later b4; replace h3 := h3.later b4; have fz0 := fun o => hR0.frozen o; have fz1 := fun o => hR1.frozen o))
    | fail
  go_wp2
  refine bodyPost_ret (v := .tuple #[.agg #[.bool (ng Zq), .slice a3 (ln (am Zq)) (ln (am Zq))], .agg #[.bool (ng Zr), .slice a4 (ln (am Zr)) (ln (am Zr))], .int .i64 0]) (by rw [results_cct rfl]; go_simp) rfl ?_
  exact ⟨a3, a4, rfl, h3.ret2 hB (by omega) (by omega) (by omega) (by omega) _ _ _ _, h4.ret2 hB (by omega) (by omega) (by omega) (by omega) _ _ _ _⟩
set_option maxHeartbeats 2000000 in
set_option maxRecDepth 100000 in
theorem vFloor_low (s : Bool) (ao : Option Addr) (n cap X : Nat) (t : Bool) (ao2 : Option Addr) (m cap2 Y P R : Nat) (Zq Zr Zf Zg : Int) (w : World) (hm : n ≤ 70368744177650) (hS : Seg w ao X n) (hm2 : m ≤ 70368744177650) (hS2 : Seg w ao2 Y m) (h : X = P * Y + R) (hR : R < Y) (hq : sg (s != t) P = Zq) (hr : sg s R = Zr)
    (hlow : sgn Zr * sd t < 0) (hf : Zq - 1 = Zf) (hg : Zr + sg t Y = Zg) :
    Calls Tryz.prog 70 #[.agg #[.bool s, .slice ao n cap], .agg #[.bool t, .slice ao2 m cap2]] w fun e w' => ∃ aq ar, e = .returned (.tuple #[.agg #[.bool (ng Zf), .slice aq (ln (am Zf)) (ln (am Zf))], .agg #[.bool (ng Zg), .slice ar (ln (am Zg)) (ln (am Zg))], .int .i64 0]) ∧ New w w' aq (am Zf) (ln (am Zf)) ∧ New w w' ar (am Zg) (ln (am Zg)) := by
  have hP : P ≤ X := by
    have h1 : P * 1 ≤ P * Y := Nat.mul_le_mul_left P (by omega)
    omega
  have hlp : ln (am Zq) ≤ 70368744177650 := by rw [← hq, am_sg]; have := ln_le_of_lt (Nat.lt_of_le_of_lt hP hS.1); omega
  have hlr : ln (am Zr) ≤ 70368744177650 := by rw [← hr, am_sg]; have := ln_le_of_lt (Nat.lt_trans hR hS2.1); omega
  have l1 : ln (am 1) ≤ 2 := ln_le_of_lt (by rw [BB2]; decide)
  have HD : ∀ w', Seg w' ao X n → Seg w' ao2 Y m → _ := fun w' k1 k2 => vQuo_is s ao n cap X t ao2 m cap2 Y P R Zq Zr w' (by omega) k1 (by omega) k2 h hR hq hr
  have HDh := hide' HD
  obtain ⟨C, hC⟩ : ∃ C, sgn Zr = C := ⟨_, rfl⟩
  have hD : sgn (sg t Y) = sd t := sgn_sg (by omega)
  have hCr := sgn_range Zr
  rw [hC] at hCr hlow
  have hsd := sd_range t
  have hC0 : (C != 0) = true := by
    rw [bne_iff_ne]; intro e; rw [e, Int.zero_mul] at hlow; omega
  have hCD : (C != sd t) = true := by
    rw [bne_iff_ne]; intro e; rw [e] at hlow; rcases hsd with e' | e' <;> rw [e'] at hlow <;> omega
  have KS : ∀ w' ar, Seg w' ar (am Zr) (ln (am Zr)) → Calls Tryz.prog 71 #[.agg #[.bool (ng Zr), .slice ar (ln (am Zr)) (ln (am Zr))]] w' fun e w'' => e = .returned (.int .i64 C) ∧ Below w'.heap.size w' w'' :=
    fun w' ar h1 => by rw [← hC]; exact vSign_is (ng Zr) ar (ln (am Zr)) (ln (am Zr)) (am Zr) Zr w' (by omega) h1 (sg_na Zr)
  have KT : ∀ w', Seg w' ao2 Y m → Calls Tryz.prog 71 #[.agg #[.bool t, .slice ao2 m cap2]] w' fun e w'' => e = .returned (.int .i64 (sd t)) ∧ Below w'.heap.size w' w'' :=
    fun w' h1 => by rw [← hD]; exact vSign_is t ao2 m cap2 Y _ w' (by omega) h1 rfl
  have HKS := hide' KS
  have HKT := hide' KT
  have EQ : Hid (sg (ng Zq) (am Zq) - sg (ng 1) (am 1) = Zf) := by show _ = _; rw [sg_na, sg_na]; exact hf
  have ER : Hid (sg (ng Zr) (am Zr) + sg t Y = Zg) := by show _ = _; rw [sg_na]; exact hg
  clear h hR HD hP hq hr hC hlow hf hg KS KT hCr hsd hD
  go_enter Tryz.func70, Tryz.ntmps70
  go_wp2_with fail
  obtain ⟨W, hW⟩ : ∃ W, ((((w.alloc (.cells #[.bool s, .slice ao n cap] 25)).alloc (.cells #[.bool t, .slice ao2 m cap2] 25)).alloc (.cells #[.bool false, .slice none 0 0] 25)).alloc (.cells #[.bool false, .slice none 0 0] 25)) = W := ⟨_, rfl⟩
  have q00 : W.cell? ⟨w.heap.size, 0, none⟩ = some (.bool s) := by subst hW; go_simp
  have q01 : W.cell? ⟨w.heap.size, 1, none⟩ = some (.slice ao n cap) := by subst hW; go_simp
  have q10 : W.cell? ⟨w.heap.size + 1, 0, none⟩ = some (.bool t) := by subst hW; go_simp
  have q11 : W.cell? ⟨w.heap.size + 1, 1, none⟩ = some (.slice ao2 m cap2) := by subst hW; go_simp
  have r00 : W.cell? ⟨w.heap.size + 1 + 1, 0, none⟩ = some (.bool false) := by subst hW; go_simp
  have r01 : W.cell? ⟨w.heap.size + 1 + 1, 1, none⟩ = some (.slice none 0 0) := by subst hW; go_simp
  have r10 : W.cell? ⟨w.heap.size + 1 + 1 + 1, 0, none⟩ = some (.bool false) := by subst hW; go_simp
  have r11 : W.cell? ⟨w.heap.size + 1 + 1 + 1, 1, none⟩ = some (.slice none 0 0) := by subst hW; go_simp
  have hB : Below w.heap.size w W := by subst hW; exact (((((Below.refl _ _).alloc (by (try simp only [World.size_alloc]); omega) _).alloc (by (try simp only [World.size_alloc]); omega) _).alloc (by (try simp only [World.size_alloc]); omega) _).alloc (by (try simp only [World.size_alloc]); omega) _)
  have hR0 : Row W (w.heap.size + 1 + 1) := by
    have := row_new (((w.alloc (.cells #[.bool s, .slice ao n cap] 25)).alloc (.cells #[.bool t, .slice ao2 m cap2] 25))) #[.bool false, .slice none 0 0] 25
    try simp only [World.size_alloc] at this
    subst hW; exact (this.alloc _)
  have hR1 : Row W (w.heap.size + 1 + 1 + 1) := by
    have := row_new ((((w.alloc (.cells #[.bool s, .slice ao n cap] 25)).alloc (.cells #[.bool t, .slice ao2 m cap2] 25)).alloc (.cells #[.bool false, .slice none 0 0] 25))) #[.bool false, .slice none 0 0] 25
    try simp only [World.size_alloc] at this
    subst hW; exact this
  have hz : W.heap.size = w.heap.size + 1 + 1 + 1 + 1 := by subst hW; simp only [World.size_alloc]
  rw [hW]
  clear hW
  have hBW : Below W.heap.size W W := Below.refl _ _
  refine (HDh.out _ (sb hS hB hBW) (sb hS2 hB hBW)).mono ?_
  rintro e w1 ⟨a1, c1, rfl, hn, hk⟩
  have b1 := hn.below
  replace hBW := hBW.trans (b1.mono hBW.size)
  replace q00 := below_cell b1 q00
  replace q01 := below_cell b1 q01
  replace q10 := below_cell b1 q10
  replace q11 := below_cell b1 q11
  replace r00 := below_cell b1 r00
  replace r01 := below_cell b1 r01
  replace r10 := below_cell b1 r10
  replace r11 := below_cell b1 r11
  replace hR0 := below_row b1 hR0
  replace hR1 := below_row b1 hR1
  go_wp2_with fail
  have l100 : (((w1.alloc (.cells #[.bool (ng Zq), .slice a1 (ln (am Zq)) (ln (am Zq))] 25)).alloc (.cells #[.bool (ng Zr), .slice c1 (ln (am Zr)) (ln (am Zr))] 25))).cell? ⟨w1.heap.size, 0, none⟩ = some (.bool (ng Zq)) := by go_simp
  have l101 : (((w1.alloc (.cells #[.bool (ng Zq), .slice a1 (ln (am Zq)) (ln (am Zq))] 25)).alloc (.cells #[.bool (ng Zr), .slice c1 (ln (am Zr)) (ln (am Zr))] 25))).cell? ⟨w1.heap.size, 1, none⟩ = some (.slice a1 (ln (am Zq)) (ln (am Zq))) := by go_simp
  have l110 : (((w1.alloc (.cells #[.bool (ng Zq), .slice a1 (ln (am Zq)) (ln (am Zq))] 25)).alloc (.cells #[.bool (ng Zr), .slice c1 (ln (am Zr)) (ln (am Zr))] 25))).cell? ⟨w1.heap.size + 1, 0, none⟩ = some (.bool (ng Zr)) := by go_simp
  have l111 : (((w1.alloc (.cells #[.bool (ng Zq), .slice a1 (ln (am Zq)) (ln (am Zq))] 25)).alloc (.cells #[.bool (ng Zr), .slice c1 (ln (am Zr)) (ln (am Zr))] 25))).cell? ⟨w1.heap.size + 1, 1, none⟩ = some (.slice c1 (ln (am Zr)) (ln (am Zr))) := by go_simp
  have cb1 : Below w1.heap.size w1 (((w1.alloc (.cells #[.bool (ng Zq), .slice a1 (ln (am Zq)) (ln (am Zq))] 25)).alloc (.cells #[.bool (ng Zr), .slice c1 (ln (am Zr)) (ln (am Zr))] 25))) := (((Below.refl _ _).alloc (by (try simp only [World.size_alloc]); omega) _).alloc (by (try simp only [World.size_alloc]); omega) _)
  replace hBW := hBW.trans (cb1.mono hBW.size)
  replace q00 := below_cell cb1 q00
  replace q01 := below_cell cb1 q01
  replace q10 := below_cell cb1 q10
  replace q11 := below_cell cb1 q11
  replace r00 := below_cell cb1 r00
  replace r01 := below_cell cb1 r01
  replace r10 := below_cell cb1 r10
  replace r11 := below_cell cb1 r11
  replace hR0 := below_row cb1 hR0
  replace hR1 := below_row cb1 hR1
  replace hn := hn.later cb1
  replace hk := hk.later cb1
  generalize ((w1.alloc (.cells #[.bool (ng Zq), .slice a1 (ln (am Zq)) (ln (am Zq))] 25)).alloc (.cells #[.bool (ng Zr), .slice c1 (ln (am Zr)) (ln (am Zr))] 25)) = w1x at q00 q01 q10 q11 r00 r01 r10 r11 l100 l101 l110 l111 hR0 hR1 hn hk hBW cb1 ⊢
  clear cb1
  have hzw := b1.size
  rw [hz] at hzw
  replace hBW := hBW.drew
  replace hn := hn.drew
  replace hk := hk.drew
  first
    | go_region_held3 (fun w' => w'.cell? ⟨w.heap.size, 0, none⟩ = some (.bool s) ∧ w'.cell? ⟨w.heap.size, 1, none⟩ = some (.slice ao n cap) ∧ w'.cell? ⟨w.heap.size + 1, 0, none⟩ = some (.bool t) ∧ w'.cell? ⟨w.heap.size + 1, 1, none⟩ = some (.slice ao2 m cap2) ∧ w'.cell? ⟨w1.heap.size, 0, none⟩ = some (.bool (ng Zq)) ∧ w'.cell? ⟨w1.heap.size, 1, none⟩ = some (.slice a1 (ln (am Zq)) (ln (am Zq))) ∧ w'.cell? ⟨w1.heap.size + 1, 0, none⟩ = some (.bool (ng Zr)) ∧ w'.cell? ⟨w1.heap.size + 1, 1, none⟩ = some (.slice c1 (ln (am Zr)) (ln (am Zr))) ∧ Below w.heap.size w w')
        (first | exact ⟨q00, q01, q10, q11, l100, l101, l110, l111, hB.trans (hBW.mono hB.size)⟩ | exact kp8 b2 (by assumption) | exact kp8 b3 (by assumption) | exact kp8 (below_alloc _) (by assumption))
        (first
          | (go_at_call 71; go_at_call_of 71 (Value.agg #[Value.bool (ng Zr), Value.slice c1 (ln (am Zr)) (ln (am Zr))]); refine (HKS.out _ c1 hk.seg).mono ?_; rintro e w2 ⟨rfl, b2⟩; replace hBW := hBW.trans (b2.mono hBW.size); replace q00 := below_cell b2 q00; replace q01 := below_cell b2 q01; replace q10 := below_cell b2 q10; replace q11 := below_cell b2 q11; replace r00 := below_cell b2 r00; replace r01 := below_cell b2 r01; replace r10 := below_cell b2 r10; replace r11 := below_cell b2 r11; replace l100 := below_cell b2 l100; replace l101 := below_cell b2 l101; replace l110 := below_cell b2 l110; replace l111 := below_cell b2 l111; replace hR0 := below_row b2 hR0; replace hR1 := below_row b2 hR1; replace hn := hn.later b2; replace hk := hk.later b2)
          | (go_at_call 71; go_at_call_of 71 (Value.agg #[Value.bool t, Value.slice ao2 m cap2]); refine (HKT.out _ (sb hS2 hB hBW)).mono ?_; rintro e w3 ⟨rfl, b3⟩; replace hBW := hBW.trans (b3.mono hBW.size); replace q00 := below_cell b3 q00; replace q01 := below_cell b3 q01; replace q10 := below_cell b3 q10; replace q11 := below_cell b3 q11; replace r00 := below_cell b3 r00; replace r01 := below_cell b3 r01; replace r10 := below_cell b3 r10; replace r11 := below_cell b3 r11; replace l100 := below_cell b3 l100; replace l101 := below_cell b3 l101; replace l110 := below_cell b3 l110; replace l111 := below_cell b3 l111; replace hR0 := below_row b3 hR0; replace hR1 := below_row b3 hR1; replace hn := hn.later b3; replace hk := hk.later b3))
    | fail
  go_wp2_with fail
  replace hBW := hBW.drew
  replace hn := hn.drew
  replace hk := hk.drew
  first
    | go_region_held3 (fun w' => w'.cell? ⟨w.heap.size, 0, none⟩ = some (.bool s) ∧ w'.cell? ⟨w.heap.size, 1, none⟩ = some (.slice ao n cap) ∧ w'.cell? ⟨w.heap.size + 1, 0, none⟩ = some (.bool t) ∧ w'.cell? ⟨w.heap.size + 1, 1, none⟩ = some (.slice ao2 m cap2) ∧ w'.cell? ⟨w1.heap.size, 0, none⟩ = some (.bool (ng Zq)) ∧ w'.cell? ⟨w1.heap.size, 1, none⟩ = some (.slice a1 (ln (am Zq)) (ln (am Zq))) ∧ w'.cell? ⟨w1.heap.size + 1, 0, none⟩ = some (.bool (ng Zr)) ∧ w'.cell? ⟨w1.heap.size + 1, 1, none⟩ = some (.slice c1 (ln (am Zr)) (ln (am Zr))) ∧ Below w.heap.size w w')
        (first | exact ⟨q00, q01, q10, q11, l100, l101, l110, l111, hB.trans (hBW.mono hB.size)⟩ | exact kp8 b4 (by assumption) | exact kp8 b5 (by assumption) | exact kp8 b6 (by assumption) | exact kp8 (below_alloc _) (by assumption) | exact kpS8 (kpS8 (by assumption) (by omega) (by omega) (by omega) (by omega)  (by omega)) (by omega) (by omega) (by omega) (by omega)  (by omega))
        (first
          | (go_at_call 54; (fail_if_success clear b4); refine (vOf_is 1 _ (by omega) (by omega)).mono ?_; rintro e w4 ⟨a4, rfl, h1⟩; have b4 := h1.below; replace h1 := h1.back hBW; replace hBW := hBW.trans (b4.mono hBW.size); replace q00 := below_cell b4 q00; replace q01 := below_cell b4 q01; replace q10 := below_cell b4 q10; replace q11 := below_cell b4 q11; replace r00 := below_cell b4 r00; replace r01 := below_cell b4 r01; replace r10 := below_cell b4 r10; replace r11 := below_cell b4 r11; replace l100 := below_cell b4 l100; replace l101 := below_cell b4 l101; replace l110 := below_cell b4 l110; replace l111 := below_cell b4 l111; replace hR0 := below_row b4 hR0; replace hR1 := below_row b4 hR1; replace hn := hn.later b4; replace hk := hk.later b4)
          | (go_at_call 99; (fail_if_success clear b5); refine (vSub_is (ng Zq) a1 _ _ (am Zq) (ng 1) a4 _ _ (am 1) Zf _ (by omega) hn.seg (by omega) h1.seg EQ.out).mono ?_; rintro e w5 ⟨a5, rfl, h2⟩; have b5 := h2.below; replace h2 := h2.back hBW; replace hBW := hBW.trans (b5.mono hBW.size); replace q00 := below_cell b5 q00; replace q01 := below_cell b5 q01; replace q10 := below_cell b5 q10; replace q11 := below_cell b5 q11; replace r00 := below_cell b5 r00; replace r01 := below_cell b5 r01; replace r10 := below_cell b5 r10; replace r11 := below_cell b5 r11; replace l100 := below_cell b5 l100; replace l101 := below_cell b5 l101; replace l110 := below_cell b5 l110; replace l111 := below_cell b5 l111; replace hR0 := below_row b5 hR0; replace hR1 := below_row b5 hR1; replace hn := hn.later b5; replace hk := hk.later b5; replace h1 := h1.later b5)
          | (go_at_call 57; (fail_if_success clear b6); refine (vAdd_is (ng Zr) c1 _ _ (am Zr) t ao2 m cap2 Y Zg _ (by omega) hk.seg (by omega) (sb hS2 hB hBW) ER.out).mono ?_; rintro e w6 ⟨a6, rfl, h3⟩; have b6 := h3.below; replace h3 := h3.back hBW; replace hBW := hBW.trans (b6.mono hBW.size); replace q00 := below_cell b6 q00; replace q01 := below_cell b6 q01; replace q10 := below_cell b6 q10; replace q11 := below_cell b6 q11; replace r00 := below_cell b6 r00; replace r01 := below_cell b6 r01; replace r10 := below_cell b6 r10; replace r11 := below_cell b6 r11; replace l100 := below_cell b6 l100; replace l101 := below_cell b6 l101; replace l110 := below_cell b6 l110; replace l111 := below_cell b6 l111; replace hR0 := below_row b6 hR0; replace hR1 := below_row b6 hR1; replace hn := hn.later b6; replace hk := hk.later b6; replace h1 := h1.later b6; replace h2 := h2.later b6; have fz0 := fun o => hR0.frozen o; have fz1 := fun o => hR1.frozen o))
    | fail
  go_wp2
  refine bodyPost_ret (v := .tuple #[.agg #[.bool (ng Zf), .slice a5 (ln (am Zf)) (ln (am Zf))], .agg #[.bool (ng Zg), .slice a6 (ln (am Zg)) (ln (am Zg))], .int .i64 0]) (by rw [results_cct rfl]; go_simp) rfl ?_
  exact ⟨a5, a6, rfl, h2.ret2 hB (by omega) (by omega) (by omega) (by omega) _ _ _ _, h3.ret2 hB (by omega) (by omega) (by omega) (by omega) _ _ _ _⟩
set_option maxHeartbeats 2000000 in
set_option maxRecDepth 100000 in
theorem vFloor_high (s : Bool) (ao : Option Addr) (n cap X : Nat) (t : Bool) (ao2 : Option Addr) (m cap2 Y P R : Nat) (Zq Zr : Int) (w : World) (hm : n ≤ 70368744177650) (hS : Seg w ao X n) (hm2 : m ≤ 70368744177650) (hS2 : Seg w ao2 Y m) (h : X = P * Y + R) (hR : R < Y) (hq : sg (s != t) P = Zq) (hr : sg s R = Zr)
    (hlow : ¬ sgn Zr * sd t < 0) :
    Calls Tryz.prog 70 #[.agg #[.bool s, .slice ao n cap], .agg #[.bool t, .slice ao2 m cap2]] w fun e w' => ∃ aq ar, e = .returned (.tuple #[.agg #[.bool (ng Zq), .slice aq (ln (am Zq)) (ln (am Zq))], .agg #[.bool (ng Zr), .slice ar (ln (am Zr)) (ln (am Zr))], .int .i64 0]) ∧ New w w' aq (am Zq) (ln (am Zq)) ∧ New w w' ar (am Zr) (ln (am Zr)) := by
  have hP : P ≤ X := by
    have h1 : P * 1 ≤ P * Y := Nat.mul_le_mul_left P (by omega)
    omega
  have hlp : ln (am Zq) ≤ 70368744177650 := by rw [← hq, am_sg]; have := ln_le_of_lt (Nat.lt_of_le_of_lt hP hS.1); omega
  have hlr : ln (am Zr) ≤ 70368744177650 := by rw [← hr, am_sg]; have := ln_le_of_lt (Nat.lt_trans hR hS2.1); omega
  have HD : ∀ w', Seg w' ao X n → Seg w' ao2 Y m → _ := fun w' k1 k2 => vQuo_is s ao n cap X t ao2 m cap2 Y P R Zq Zr w' (by omega) k1 (by omega) k2 h hR hq hr
  have HDh := hide' HD
  obtain ⟨C, hC⟩ : ∃ C, sgn Zr = C := ⟨_, rfl⟩
  have hD : sgn (sg t Y) = sd t := sgn_sg (by omega)
  have hCr := sgn_range Zr
  rw [hC] at hCr hlow
  have hsd := sd_range t
  have KS : ∀ w' ar, Seg w' ar (am Zr) (ln (am Zr)) → Calls Tryz.prog 71 #[.agg #[.bool (ng Zr), .slice ar (ln (am Zr)) (ln (am Zr))]] w' fun e w'' => e = .returned (.int .i64 C) ∧ Below w'.heap.size w' w'' :=
    fun w' ar h1 => by rw [← hC]; exact vSign_is (ng Zr) ar (ln (am Zr)) (ln (am Zr)) (am Zr) Zr w' (by omega) h1 (sg_na Zr)
  have KT : ∀ w', Seg w' ao2 Y m → Calls Tryz.prog 71 #[.agg #[.bool t, .slice ao2 m cap2]] w' fun e w'' => e = .returned (.int .i64 (sd t)) ∧ Below w'.heap.size w' w'' :=
    fun w' h1 => by rw [← hD]; exact vSign_is t ao2 m cap2 Y _ w' (by omega) h1 rfl
  have HKS := hide' KS
  have HKT := hide' KT
  by_cases h0 : C = 0
  · subst h0
    clear h hR HD hP hq hr hC hlow KS KT hCr hsd hD
    go_enter Tryz.func70, Tryz.ntmps70
    go_wp2_with fail
    obtain ⟨W, hW⟩ : ∃ W, ((((w.alloc (.cells #[.bool s, .slice ao n cap] 25)).alloc (.cells #[.bool t, .slice ao2 m cap2] 25)).alloc (.cells #[.bool false, .slice none 0 0] 25)).alloc (.cells #[.bool false, .slice none 0 0] 25)) = W := ⟨_, rfl⟩
    have q00 : W.cell? ⟨w.heap.size, 0, none⟩ = some (.bool s) := by subst hW; go_simp
    have q01 : W.cell? ⟨w.heap.size, 1, none⟩ = some (.slice ao n cap) := by subst hW; go_simp
    have q10 : W.cell? ⟨w.heap.size + 1, 0, none⟩ = some (.bool t) := by subst hW; go_simp
    have q11 : W.cell? ⟨w.heap.size + 1, 1, none⟩ = some (.slice ao2 m cap2) := by subst hW; go_simp
    have r00 : W.cell? ⟨w.heap.size + 1 + 1, 0, none⟩ = some (.bool false) := by subst hW; go_simp
    have r01 : W.cell? ⟨w.heap.size + 1 + 1, 1, none⟩ = some (.slice none 0 0) := by subst hW; go_simp
    have r10 : W.cell? ⟨w.heap.size + 1 + 1 + 1, 0, none⟩ = some (.bool false) := by subst hW; go_simp
    have r11 : W.cell? ⟨w.heap.size + 1 + 1 + 1, 1, none⟩ = some (.slice none 0 0) := by subst hW; go_simp
    have hB : Below w.heap.size w W := by subst hW; exact (((((Below.refl _ _).alloc (by (try simp only [World.size_alloc]); omega) _).alloc (by (try simp only [World.size_alloc]); omega) _).alloc (by (try simp only [World.size_alloc]); omega) _).alloc (by (try simp only [World.size_alloc]); omega) _)
    have hR0 : Row W (w.heap.size + 1 + 1) := by
      have := row_new (((w.alloc (.cells #[.bool s, .slice ao n cap] 25)).alloc (.cells #[.bool t, .slice ao2 m cap2] 25))) #[.bool false, .slice none 0 0] 25
      try simp only [World.size_alloc] at this
      subst hW; exact (this.alloc _)
    have hR1 : Row W (w.heap.size + 1 + 1 + 1) := by
      have := row_new ((((w.alloc (.cells #[.bool s, .slice ao n cap] 25)).alloc (.cells #[.bool t, .slice ao2 m cap2] 25)).alloc (.cells #[.bool false, .slice none 0 0] 25))) #[.bool false, .slice none 0 0] 25
      try simp only [World.size_alloc] at this
      subst hW; exact this
    have hz : W.heap.size = w.heap.size + 1 + 1 + 1 + 1 := by subst hW; simp only [World.size_alloc]
    rw [hW]
    clear hW
    have hBW : Below W.heap.size W W := Below.refl _ _
    refine (HDh.out _ (sb hS hB hBW) (sb hS2 hB hBW)).mono ?_
    rintro e w1 ⟨a1, c1, rfl, hn, hk⟩
    have b1 := hn.below
    replace hBW := hBW.trans (b1.mono hBW.size)
    replace q00 := below_cell b1 q00
    replace q01 := below_cell b1 q01
    replace q10 := below_cell b1 q10
    replace q11 := below_cell b1 q11
    replace r00 := below_cell b1 r00
    replace r01 := below_cell b1 r01
    replace r10 := below_cell b1 r10
    replace r11 := below_cell b1 r11
    replace hR0 := below_row b1 hR0
    replace hR1 := below_row b1 hR1
    go_wp2_with fail
    have l100 : (((w1.alloc (.cells #[.bool (ng Zq), .slice a1 (ln (am Zq)) (ln (am Zq))] 25)).alloc (.cells #[.bool (ng Zr), .slice c1 (ln (am Zr)) (ln (am Zr))] 25))).cell? ⟨w1.heap.size, 0, none⟩ = some (.bool (ng Zq)) := by go_simp
    have l101 : (((w1.alloc (.cells #[.bool (ng Zq), .slice a1 (ln (am Zq)) (ln (am Zq))] 25)).alloc (.cells #[.bool (ng Zr), .slice c1 (ln (am Zr)) (ln (am Zr))] 25))).cell? ⟨w1.heap.size, 1, none⟩ = some (.slice a1 (ln (am Zq)) (ln (am Zq))) := by go_simp
    have l110 : (((w1.alloc (.cells #[.bool (ng Zq), .slice a1 (ln (am Zq)) (ln (am Zq))] 25)).alloc (.cells #[.bool (ng Zr), .slice c1 (ln (am Zr)) (ln (am Zr))] 25))).cell? ⟨w1.heap.size + 1, 0, none⟩ = some (.bool (ng Zr)) := by go_simp
    have l111 : (((w1.alloc (.cells #[.bool (ng Zq), .slice a1 (ln (am Zq)) (ln (am Zq))] 25)).alloc (.cells #[.bool (ng Zr), .slice c1 (ln (am Zr)) (ln (am Zr))] 25))).cell? ⟨w1.heap.size + 1, 1, none⟩ = some (.slice c1 (ln (am Zr)) (ln (am Zr))) := by go_simp
    have cb1 : Below w1.heap.size w1 (((w1.alloc (.cells #[.bool (ng Zq), .slice a1 (ln (am Zq)) (ln (am Zq))] 25)).alloc (.cells #[.bool (ng Zr), .slice c1 (ln (am Zr)) (ln (am Zr))] 25))) := (((Below.refl _ _).alloc (by (try simp only [World.size_alloc]); omega) _).alloc (by (try simp only [World.size_alloc]); omega) _)
    replace hBW := hBW.trans (cb1.mono hBW.size)
    replace q00 := below_cell cb1 q00
    replace q01 := below_cell cb1 q01
    replace q10 := below_cell cb1 q10
    replace q11 := below_cell cb1 q11
    replace r00 := below_cell cb1 r00
    replace r01 := below_cell cb1 r01
    replace r10 := below_cell cb1 r10
    replace r11 := below_cell cb1 r11
    replace hR0 := below_row cb1 hR0
    replace hR1 := below_row cb1 hR1
    replace hn := hn.later cb1
    replace hk := hk.later cb1
    generalize ((w1.alloc (.cells #[.bool (ng Zq), .slice a1 (ln (am Zq)) (ln (am Zq))] 25)).alloc (.cells #[.bool (ng Zr), .slice c1 (ln (am Zr)) (ln (am Zr))] 25)) = w1x at q00 q01 q10 q11 r00 r01 r10 r11 l100 l101 l110 l111 hR0 hR1 hn hk hBW cb1 ⊢
    clear cb1
    have hzw := b1.size
    rw [hz] at hzw
    replace hBW := hBW.drew
    replace hn := hn.drew
    replace hk := hk.drew
    refine wp_region_held_drew (S := (fun w' => w'.cell? ⟨w.heap.size, 0, none⟩ = some (.bool s) ∧ w'.cell? ⟨w.heap.size, 1, none⟩ = some (.slice ao n cap) ∧ w'.cell? ⟨w.heap.size + 1, 0, none⟩ = some (.bool t) ∧ w'.cell? ⟨w.heap.size + 1, 1, none⟩ = some (.slice ao2 m cap2) ∧ w'.cell? ⟨w1.heap.size, 0, none⟩ = some (.bool (ng Zq)) ∧ w'.cell? ⟨w1.heap.size, 1, none⟩ = some (.slice a1 (ln (am Zq)) (ln (am Zq))) ∧ w'.cell? ⟨w1.heap.size + 1, 0, none⟩ = some (.bool (ng Zr)) ∧ w'.cell? ⟨w1.heap.size + 1, 1, none⟩ = some (.slice c1 (ln (am Zr)) (ln (am Zr))) ∧ Below w.heap.size w w')) (by kernel_rfl) ⟨q00, q01, q10, q11, l100, l101, l110, l111, hB.trans (hBW.mono hB.size)⟩ (fun hHeld => ?_)
    refine tk 0 (v := ?_) rfl (Or.inl ⟨by rfl, ?_⟩) ?_
    rotate_left
    · intro w9 hSw
      go_simp
      first | done | with_reducible rfl
    simp only [pP, pN, pS, pZ, pC]
    refine tk 1 (v := ?_) rfl (Or.inl ⟨by rfl, ?_⟩) ?_
    rotate_left
    · intro w9 hSw
      go_simp
      first | done | with_reducible rfl
    simp only [pP, pN, pS, pZ, pC]
    refine tk 2 (v := ?_) rfl (Or.inl ⟨by rfl, ?_⟩) ?_
    rotate_left
    · intro w9 hSw
      go_simp
      first | done | with_reducible rfl
    simp only [pP, pN, pS, pZ, pC]
    refine tk 3 (v := ?_) rfl (Or.inl ⟨by rfl, ?_⟩) ?_
    rotate_left
    · intro w9 hSw
      go_simp
      first | done | with_reducible rfl
    simp only [pP, pN, pS, pZ, pC]
    refine wpAnyH_ready (rs := [4]) (by kernel_rfl) (by simp) ?_
    refine cons' rfl (fun K hK => ?_)
    go_simp
    refine (HKS.out _ c1 hk.seg).mono ?_
    rintro e w2 ⟨rfl, b2⟩
    go_wp2_with fail
    refine hK.out _ _ (kp8 b2 hHeld) ?_
    clear hHeld
    intro hHeld
    clear hK K
    replace hBW := hBW.trans (b2.mono hBW.size)
    replace q00 := below_cell b2 q00
    replace q01 := below_cell b2 q01
    replace q10 := below_cell b2 q10
    replace q11 := below_cell b2 q11
    replace r00 := below_cell b2 r00
    replace r01 := below_cell b2 r01
    replace r10 := below_cell b2 r10
    replace r11 := below_cell b2 r11
    replace l100 := below_cell b2 l100
    replace l101 := below_cell b2 l101
    replace l110 := below_cell b2 l110
    replace l111 := below_cell b2 l111
    replace hR0 := below_row b2 hR0
    replace hR1 := below_row b2 hR1
    replace hn := hn.later b2
    replace hk := hk.later b2
    refine tk 5 (v := ?_) rfl (Or.inl ⟨by rfl, ?_⟩) ?_
    rotate_left
    · intro w9 hSw
      go_simp
      first | done | with_reducible rfl
    simp only [pP, pN, pS, pZ, pC]
    refine tk 6 (v := ?_) rfl (Or.inl ⟨by rfl, ?_⟩) ?_
    rotate_left
    · intro w9 hSw
      go_simp
      first | done | with_reducible rfl
    simp only [pP, pN, pS, pZ, pC]
    refine tk 7 (v := ?_) rfl (Or.inl ⟨by rfl, ?_⟩) ?_
    rotate_left
    · intro w9 hSw
      go_simp
      first | done | with_reducible rfl
    simp only [pP, pN, pS, pZ, pC]
    refine tk 8 (v := undef) rfl (Or.inr ⟨by rfl, rfl⟩) ?_
    simp only [pP, pN, pS, pZ, pC]
    refine tk 9 (v := undef) rfl (Or.inr ⟨by rfl, rfl⟩) ?_
    simp only [pP, pN, pS, pZ, pC]
    refine tk 10 (v := undef) rfl (Or.inr ⟨by rfl, rfl⟩) ?_
    simp only [pP, pN, pS, pZ, pC]
    refine tk 11 (v := undef) rfl (Or.inr ⟨by rfl, rfl⟩) ?_
    simp only [pP, pN, pS, pZ, pC]
    refine tk 12 (v := undef) rfl (Or.inr ⟨by rfl, rfl⟩) ?_
    simp only [pP, pN, pS, pZ, pC]
    refine tk 13 (v := ?_) rfl (Or.inl ⟨by rfl, ?_⟩) ?_
    rotate_left
    · intro w9 hSw
      go_simp
      first | done | with_reducible rfl
    simp only [pP, pN, pS, pZ, pC]
    refine wpAnyH_done (by kernel_rfl) ?_ _
    go_wp2_with fail
    have hM := Mid.refl w.heap.size W.heap.size w2
    have hBz := hB.trans (hBW.mono hB.size)
    have fz0 := fun o => hR0.frozen o
    have fz1 := fun o => hR1.frozen o
    go_region_held3 (fun w' => w'.cell? ⟨w1.heap.size, 0, none⟩ = some (.bool (ng Zq)) ∧ w'.cell? ⟨w1.heap.size, 1, none⟩ = some (.slice a1 (ln (am Zq)) (ln (am Zq))) ∧ w'.cell? ⟨w1.heap.size + 1, 0, none⟩ = some (.bool (ng Zr)) ∧ w'.cell? ⟨w1.heap.size + 1, 1, none⟩ = some (.slice c1 (ln (am Zr)) (ln (am Zr))) ∧ Below w.heap.size w w')
        (first | exact ⟨l100, l101, l110, l111, hBz.drew⟩ | exact kpT4 (by assumption) (by omega) (by omega) (by omega))
        (fail)
    all_goals go_wp2
    all_goals refine bodyPost_ret (v := .tuple #[.agg #[.bool (ng Zq), .slice a1 (ln (am Zq)) (ln (am Zq))], .agg #[.bool (ng Zr), .slice c1 (ln (am Zr)) (ln (am Zr))], .int .i64 0]) (by rw [results_cct rfl]; go_simp) rfl ?_
    all_goals have hM2 := ((((hM.set (w.heap.size + 1 + 1) 0 (by omega) (by omega) (.bool (ng Zq))).set (w.heap.size + 1 + 1) 1 (by omega) (by omega) (.slice a1 (ln (am Zq)) (ln (am Zq)))).set (w.heap.size + 1 + 1 + 1) 0 (by omega) (by omega) (.bool (ng Zr))).set (w.heap.size + 1 + 1 + 1) 1 (by omega) (by omega) (.slice c1 (ln (am Zr)) (ln (am Zr)))).drew
    all_goals exact ⟨a1, c1, rfl, hn.mid hB hM2, hk.mid hB hM2⟩
  · have hC0 : (C != 0) = true := by rw [bne_iff_ne]; exact h0
    have hCD : (C != sd t) = false := by
      rw [bne_eq_false_iff_eq]
      rcases hCr with e | e | e <;> rcases hsd with e' | e' <;> rw [e, e'] at hlow <;> first | (exact absurd e h0) | omega
    clear h hR HD hP hq hr hC hlow KS KT hCr hsd hD h0
    go_enter Tryz.func70, Tryz.ntmps70
    go_wp2_with fail
    obtain ⟨W, hW⟩ : ∃ W, ((((w.alloc (.cells #[.bool s, .slice ao n cap] 25)).alloc (.cells #[.bool t, .slice ao2 m cap2] 25)).alloc (.cells #[.bool false, .slice none 0 0] 25)).alloc (.cells #[.bool false, .slice none 0 0] 25)) = W := ⟨_, rfl⟩
    have q00 : W.cell? ⟨w.heap.size, 0, none⟩ = some (.bool s) := by subst hW; go_simp
    have q01 : W.cell? ⟨w.heap.size, 1, none⟩ = some (.slice ao n cap) := by subst hW; go_simp
    have q10 : W.cell? ⟨w.heap.size + 1, 0, none⟩ = some (.bool t) := by subst hW; go_simp
    have q11 : W.cell? ⟨w.heap.size + 1, 1, none⟩ = some (.slice ao2 m cap2) := by subst hW; go_simp
    have r00 : W.cell? ⟨w.heap.size + 1 + 1, 0, none⟩ = some (.bool false) := by subst hW; go_simp
    have r01 : W.cell? ⟨w.heap.size + 1 + 1, 1, none⟩ = some (.slice none 0 0) := by subst hW; go_simp
    have r10 : W.cell? ⟨w.heap.size + 1 + 1 + 1, 0, none⟩ = some (.bool false) := by subst hW; go_simp
    have r11 : W.cell? ⟨w.heap.size + 1 + 1 + 1, 1, none⟩ = some (.slice none 0 0) := by subst hW; go_simp
    have hB : Below w.heap.size w W := by subst hW; exact (((((Below.refl _ _).alloc (by (try simp only [World.size_alloc]); omega) _).alloc (by (try simp only [World.size_alloc]); omega) _).alloc (by (try simp only [World.size_alloc]); omega) _).alloc (by (try simp only [World.size_alloc]); omega) _)
    have hR0 : Row W (w.heap.size + 1 + 1) := by
      have := row_new (((w.alloc (.cells #[.bool s, .slice ao n cap] 25)).alloc (.cells #[.bool t, .slice ao2 m cap2] 25))) #[.bool false, .slice none 0 0] 25
      try simp only [World.size_alloc] at this
      subst hW; exact (this.alloc _)
    have hR1 : Row W (w.heap.size + 1 + 1 + 1) := by
      have := row_new ((((w.alloc (.cells #[.bool s, .slice ao n cap] 25)).alloc (.cells #[.bool t, .slice ao2 m cap2] 25)).alloc (.cells #[.bool false, .slice none 0 0] 25))) #[.bool false, .slice none 0 0] 25
      try simp only [World.size_alloc] at this
      subst hW; exact this
    have hz : W.heap.size = w.heap.size + 1 + 1 + 1 + 1 := by subst hW; simp only [World.size_alloc]
    rw [hW]
    clear hW
    have hBW : Below W.heap.size W W := Below.refl _ _
    refine (HDh.out _ (sb hS hB hBW) (sb hS2 hB hBW)).mono ?_
    rintro e w1 ⟨a1, c1, rfl, hn, hk⟩
    have b1 := hn.below
    replace hBW := hBW.trans (b1.mono hBW.size)
    replace q00 := below_cell b1 q00
    replace q01 := below_cell b1 q01
    replace q10 := below_cell b1 q10
    replace q11 := below_cell b1 q11
    replace r00 := below_cell b1 r00
    replace r01 := below_cell b1 r01
    replace r10 := below_cell b1 r10
    replace r11 := below_cell b1 r11
    replace hR0 := below_row b1 hR0
    replace hR1 := below_row b1 hR1
    go_wp2_with fail
    have l100 : (((w1.alloc (.cells #[.bool (ng Zq), .slice a1 (ln (am Zq)) (ln (am Zq))] 25)).alloc (.cells #[.bool (ng Zr), .slice c1 (ln (am Zr)) (ln (am Zr))] 25))).cell? ⟨w1.heap.size, 0, none⟩ = some (.bool (ng Zq)) := by go_simp
    have l101 : (((w1.alloc (.cells #[.bool (ng Zq), .slice a1 (ln (am Zq)) (ln (am Zq))] 25)).alloc (.cells #[.bool (ng Zr), .slice c1 (ln (am Zr)) (ln (am Zr))] 25))).cell? ⟨w1.heap.size, 1, none⟩ = some (.slice a1 (ln (am Zq)) (ln (am Zq))) := by go_simp
    have l110 : (((w1.alloc (.cells #[.bool (ng Zq), .slice a1 (ln (am Zq)) (ln (am Zq))] 25)).alloc (.cells #[.bool (ng Zr), .slice c1 (ln (am Zr)) (ln (am Zr))] 25))).cell? ⟨w1.heap.size + 1, 0, none⟩ = some (.bool (ng Zr)) := by go_simp
    have l111 : (((w1.alloc (.cells #[.bool (ng Zq), .slice a1 (ln (am Zq)) (ln (am Zq))] 25)).alloc (.cells #[.bool (ng Zr), .slice c1 (ln (am Zr)) (ln (am Zr))] 25))).cell? ⟨w1.heap.size + 1, 1, none⟩ = some (.slice c1 (ln (am Zr)) (ln (am Zr))) := by go_simp
    have cb1 : Below w1.heap.size w1 (((w1.alloc (.cells #[.bool (ng Zq), .slice a1 (ln (am Zq)) (ln (am Zq))] 25)).alloc (.cells #[.bool (ng Zr), .slice c1 (ln (am Zr)) (ln (am Zr))] 25))) := (((Below.refl _ _).alloc (by (try simp only [World.size_alloc]); omega) _).alloc (by (try simp only [World.size_alloc]); omega) _)
    replace hBW := hBW.trans (cb1.mono hBW.size)
    replace q00 := below_cell cb1 q00
    replace q01 := below_cell cb1 q01
    replace q10 := below_cell cb1 q10
    replace q11 := below_cell cb1 q11
    replace r00 := below_cell cb1 r00
    replace r01 := below_cell cb1 r01
    replace r10 := below_cell cb1 r10
    replace r11 := below_cell cb1 r11
    replace hR0 := below_row cb1 hR0
    replace hR1 := below_row cb1 hR1
    replace hn := hn.later cb1
    replace hk := hk.later cb1
    generalize ((w1.alloc (.cells #[.bool (ng Zq), .slice a1 (ln (am Zq)) (ln (am Zq))] 25)).alloc (.cells #[.bool (ng Zr), .slice c1 (ln (am Zr)) (ln (am Zr))] 25)) = w1x at q00 q01 q10 q11 r00 r01 r10 r11 l100 l101 l110 l111 hR0 hR1 hn hk hBW cb1 ⊢
    clear cb1
    have hzw := b1.size
    rw [hz] at hzw
    replace hBW := hBW.drew
    replace hn := hn.drew
    replace hk := hk.drew
    first
      | go_region_held3 (fun w' => w'.cell? ⟨w.heap.size, 0, none⟩ = some (.bool s) ∧ w'.cell? ⟨w.heap.size, 1, none⟩ = some (.slice ao n cap) ∧ w'.cell? ⟨w.heap.size + 1, 0, none⟩ = some (.bool t) ∧ w'.cell? ⟨w.heap.size + 1, 1, none⟩ = some (.slice ao2 m cap2) ∧ w'.cell? ⟨w1.heap.size, 0, none⟩ = some (.bool (ng Zq)) ∧ w'.cell? ⟨w1.heap.size, 1, none⟩ = some (.slice a1 (ln (am Zq)) (ln (am Zq))) ∧ w'.cell? ⟨w1.heap.size + 1, 0, none⟩ = some (.bool (ng Zr)) ∧ w'.cell? ⟨w1.heap.size + 1, 1, none⟩ = some (.slice c1 (ln (am Zr)) (ln (am Zr))) ∧ Below w.heap.size w w')
          (first | exact ⟨q00, q01, q10, q11, l100, l101, l110, l111, hB.trans (hBW.mono hB.size)⟩ | exact kp8 b2 (by assumption) | exact kp8 b3 (by assumption) | exact kp8 (below_alloc _) (by assumption))
          (first
            | (go_at_call 71; go_at_call_of 71 (Value.agg #[Value.bool (ng Zr), Value.slice c1 (ln (am Zr)) (ln (am Zr))]); refine (HKS.out _ c1 hk.seg).mono ?_; rintro e w2 ⟨rfl, b2⟩; replace hBW := hBW.trans (b2.mono hBW.size); replace q00 := below_cell b2 q00; replace q01 := below_cell b2 q01; replace q10 := below_cell b2 q10; replace q11 := below_cell b2 q11; replace r00 := below_cell b2 r00; replace r01 := below_cell b2 r01; replace r10 := below_cell b2 r10; replace r11 := below_cell b2 r11; replace l100 := below_cell b2 l100; replace l101 := below_cell b2 l101; replace l110 := below_cell b2 l110; replace l111 := below_cell b2 l111; replace hR0 := below_row b2 hR0; replace hR1 := below_row b2 hR1; replace hn := hn.later b2; replace hk := hk.later b2)
            | (go_at_call 71; go_at_call_of 71 (Value.agg #[Value.bool t, Value.slice ao2 m cap2]); refine (HKT.out _ (sb hS2 hB hBW)).mono ?_; rintro e w3 ⟨rfl, b3⟩; replace hBW := hBW.trans (b3.mono hBW.size); replace q00 := below_cell b3 q00; replace q01 := below_cell b3 q01; replace q10 := below_cell b3 q10; replace q11 := below_cell b3 q11; replace r00 := below_cell b3 r00; replace r01 := below_cell b3 r01; replace r10 := below_cell b3 r10; replace r11 := below_cell b3 r11; replace l100 := below_cell b3 l100; replace l101 := below_cell b3 l101; replace l110 := below_cell b3 l110; replace l111 := below_cell b3 l111; replace hR0 := below_row b3 hR0; replace hR1 := below_row b3 hR1; replace hn := hn.later b3; replace hk := hk.later b3))
      | fail
    go_wp2_with fail
    have hM := Mid.refl w.heap.size W.heap.size w3
    have hBz := hB.trans (hBW.mono hB.size)
    have fz0 := fun o => hR0.frozen o
    have fz1 := fun o => hR1.frozen o
    go_region_held3 (fun w' => w'.cell? ⟨w1.heap.size, 0, none⟩ = some (.bool (ng Zq)) ∧ w'.cell? ⟨w1.heap.size, 1, none⟩ = some (.slice a1 (ln (am Zq)) (ln (am Zq))) ∧ w'.cell? ⟨w1.heap.size + 1, 0, none⟩ = some (.bool (ng Zr)) ∧ w'.cell? ⟨w1.heap.size + 1, 1, none⟩ = some (.slice c1 (ln (am Zr)) (ln (am Zr))) ∧ Below w.heap.size w w')
        (first | exact ⟨l100, l101, l110, l111, hBz.drew⟩ | exact kpT4 (by assumption) (by omega) (by omega) (by omega))
        (fail)
    all_goals go_wp2
    all_goals refine bodyPost_ret (v := .tuple #[.agg #[.bool (ng Zq), .slice a1 (ln (am Zq)) (ln (am Zq))], .agg #[.bool (ng Zr), .slice c1 (ln (am Zr)) (ln (am Zr))], .int .i64 0]) (by rw [results_cct rfl]; go_simp) rfl ?_
    all_goals have hM2 := ((((hM.set (w.heap.size + 1 + 1) 0 (by omega) (by omega) (.bool (ng Zq))).set (w.heap.size + 1 + 1) 1 (by omega) (by omega) (.slice a1 (ln (am Zq)) (ln (am Zq)))).set (w.heap.size + 1 + 1 + 1) 0 (by omega) (by omega) (.bool (ng Zr))).set (w.heap.size + 1 + 1 + 1) 1 (by omega) (by omega) (.slice c1 (ln (am Zr)) (ln (am Zr)))).drew
    all_goals exact ⟨a1, c1, rfl, hn.mid hB hM2, hk.mid hB hM2⟩
theorem uniqF {t : Bool} {Y : Nat} {u v u' v' : Int} (hY : Y ≠ 0) (h : u * sg t Y + v = u' * sg t Y + v') (h0 : 0 ≤ v) (h1 : am v < Y) (h0' : 0 ≤ v') (h1' : am v' < Y) : u = u' ∧ v = v' := by
  have hd : (u - u') * sg t Y = v' - v := by rw [Int.sub_mul]; omega
  have habs : (u - u').natAbs * Y = (v' - v).natAbs := by rw [← hd, Int.natAbs_mul, sg_abs]
  have hlt : (v' - v).natAbs < Y := by unfold am at h1 h1'; omega
  have hz : (u - u').natAbs = 0 := by
    rcases Nat.eq_zero_or_pos (u - u').natAbs with h' | h'
    · exact h'
    · have : 1 * Y ≤ (u - u').natAbs * Y := Nat.mul_le_mul_right _ h'
      omega
  have e : u = u' := by omega
  subst e
  exact ⟨rfl, by omega⟩
structure Fl (A D Z G : Int) : Prop where
  eq : Z * D + G = A
  ge : 0 ≤ G
  lt : G < D
theorem fl_ex (A : Int) {D : Int} (h : 0 < D) : ∃ Z G, Fl A D Z G := ⟨A / D, A % D, by have := Int.mul_ediv_add_emod A D; rw [Int.mul_comm]; exact this, Int.emod_nonneg _ (by omega), Int.emod_lt_of_pos _ h⟩
theorem Fl.am {A D Z G : Int} (h : Fl A D Z G) (hD : 0 < D) : am Z ≤ am A + 1 := by
  have h1 := h.eq
  have h2 := h.ge
  have h3 := h.lt
  unfold Proofs.YtejlnodillnoaaaGreatDoor.am
  rcases Int.lt_or_le Z 0 with k | k
  · have e1 : Z * D ≤ Z * 1 := Int.mul_le_mul_of_nonpos_left (by omega) (by omega)
    have e2 : (Z + 1) * D ≤ (Z + 1) * 1 := Int.mul_le_mul_of_nonpos_left (by omega) (by omega)
    rw [Int.add_mul] at e2
    omega
  · have e1 : Z * 1 ≤ Z * D := Int.mul_le_mul_of_nonneg_left (by omega) k
    omega
theorem Fl.same {A D Z G A' D' Z' G' : Int} (h : Fl A D Z G) (hD : 0 < D) (h' : Fl A' D' Z' G') (hD' : 0 < D') (e : A' * D = A * D') : Z' = Z := by
  have h1 := h.eq
  have h2 := h'.eq
  have a1 := h.ge
  have a2 := h.lt
  have b1 := h'.ge
  have b2 := h'.lt
  -- both are within 1 of the same number
  have e2 : (Z' - Z) * (D * D') = G * D' - G' * D := by
    rw [← h1, ← h2] at e
    grind
  have c1 : 0 ≤ G * D' := Int.mul_nonneg a1 (by omega)
  have c2 : 0 ≤ G' * D := Int.mul_nonneg b1 (by omega)
  have c3 : G * D' < D * D' := Int.mul_lt_mul_of_pos_right a2 hD'
  have c4 : G' * D < D' * D := Int.mul_lt_mul_of_pos_right b2 hD
  have c5 : D' * D = D * D' := Int.mul_comm _ _
  have hp : 0 < D * D' := Int.mul_pos hD hD'
  rcases Int.lt_trichotomy (Z' - Z) 0 with k | k | k
  · have : (Z' - Z) * (D * D') ≤ (-1) * (D * D') := Int.mul_le_mul_of_nonneg_right (by omega) (by omega)
    omega
  · omega
  · have : 1 * (D * D') ≤ (Z' - Z) * (D * D') := Int.mul_le_mul_of_nonneg_right (by omega) (by omega)
    omega
theorem vfloor_pos (s : Bool) (ao : Option Addr) (n cap X : Nat) (ao2 : Option Addr) (m cap2 Y : Nat) (Z G : Int) (w : World) (hc : n ≤ cap) (hm : n ≤ 70368744177640) (hS : Seg w ao X n) (hc2 : m ≤ cap2) (hm2 : m ≤ 70368744177640) (hS2 : Seg w ao2 Y m) (h : Fl (sg s X) (Y : Int) Z G) :
    Calls Tryz.prog 70 #[.agg #[.bool s, .slice ao n cap], .agg #[.bool false, .slice ao2 m cap2]] w fun e w' => ∃ aq ar, e = .returned (.tuple #[.agg #[.bool (ng Z), .slice aq (ln (am Z)) (ln (am Z))], .agg #[.bool (ng G), .slice ar (ln (am G)) (ln (am G))], .int .i64 0]) ∧ New w w' aq (am Z) (ln (am Z)) ∧ New w w' ar (am G) (ln (am G)) := by
  have hY : Y ≠ 0 := by have := h.ge; have := h.lt; omega
  obtain ⟨P, R, Zq, Zr, hX, hR, hq, hr, hsum, hlr, hlq, _⟩ := quo_of s ao n cap X false ao2 m cap2 Y hc (by omega) hc2 (by omega) hY
  have hG : am G < Y := by have := h.lt; have := h.ge; unfold am; omega
  by_cases hlow : sgn Zr * sd false < 0
  · have hneg : Zr < 0 := by
      rcases Int.lt_or_le Zr 0 with k | k
      · exact k
      · have h2 : 0 ≤ sgn Zr := by unfold sgn; rw [if_neg (by omega)]; split <;> omega
        simp only [sd, Bool.false_eq_true, if_false] at hlow; omega
    have e : Z * sg false Y + G = (Zq - 1) * sg false Y + (Zr + sg false Y) := by
      rw [Int.sub_mul]; have := h.eq; have h3 : sg false Y = (Y : Int) := rfl; rw [h3] at hsum ⊢; omega
    obtain ⟨rfl, rfl⟩ := uniqF (t := false) hY e h.ge hG (by unfold am at hlr; simp only [sg, Bool.false_eq_true, if_false]; omega) (by unfold am at hlr ⊢; simp only [sg, Bool.false_eq_true, if_false]; omega)
    exact vFloor_low s ao n cap X false ao2 m cap2 Y P R Zq Zr _ _ w (by omega) hS (by omega) hS2 hX hR hq hr hlow rfl rfl
  · have hpos : 0 ≤ Zr := by
      rcases Int.lt_or_le Zr 0 with k | k
      · rw [sgn_neg k] at hlow; simp [sd] at hlow
      · exact k
    obtain ⟨rfl, rfl⟩ := uniqF (t := false) hY (h.eq.trans hsum.symm) h.ge hG hpos hlr
    exact vFloor_high s ao n cap X false ao2 m cap2 Y P R Z G w (by omega) hS (by omega) hS2 hX hR hq hr hlow
end Go.Proofs.YtejlnodillnoaaaGreatDoor
