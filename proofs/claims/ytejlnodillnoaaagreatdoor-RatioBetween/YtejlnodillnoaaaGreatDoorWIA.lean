import Derived.Test.YtejlnodillnoaaaGreatDoorWI5
import Derived.Test.YtejlnodillnoaaaGreatDoorWI7
import Derived.Test.YtejlnodillnoaaaGreatDoorRegZ
set_option linter.unusedSimpArgs false
namespace Go.Proofs.YtejlnodillnoaaaGreatDoor
open Go.RowKit
set_option linter.unusedVariables false
set_option maxHeartbeats 2000000 in
set_option maxRecDepth 100000 in
theorem wFloor_low (s : Bool) (ao : Option Addr) (n cap X : Nat) (t : Bool) (ao2 : Option Addr) (m cap2 Y P R : Nat) (Zq Zr Zf Zg : Int) (w : World) (hc : n ≤ cap) (hm : n ≤ 70368744177660) (hS : Seg w ao X n) (hc2 : m ≤ cap2) (hm2 : m ≤ 70368744177660) (hS2 : Seg w ao2 Y m) (h : X = P * Y + R) (hR : R < Y) (hq : sg (s != t) P = Zq) (hr : sg s R = Zr)
    (hlow : sgn Zr * sd t < 0) (hf : Zq - 1 = Zf) (hg : Zr + sg t Y = Zg) :
    Calls Tryz.prog 66 #[.agg #[.bool s, .slice ao n cap], .agg #[.bool t, .slice ao2 m cap2]] w fun e w' => ∃ aq ar, e = .returned (.tuple #[.agg #[.bool (ng Zf), .slice aq (ln (am Zf)) (ln (am Zf))], .agg #[.bool (ng Zg), .slice ar (ln (am Zg)) (ln (am Zg))], .int .i64 0]) ∧ New w w' aq (am Zf) (ln (am Zf)) ∧ New w w' ar (am Zg) (ln (am Zg)) := by
  have hP : P ≤ X := by
    have h1 : P * 1 ≤ P * Y := Nat.mul_le_mul_left P (by omega)
    omega
  have hlp : ln (am Zq) ≤ 70368744177660 := by rw [← hq, am_sg]; have := ln_le_of_lt (Nat.lt_of_le_of_lt hP hS.1); omega
  have hlr : ln (am Zr) ≤ 70368744177660 := by rw [← hr, am_sg]; have := ln_le_of_lt (Nat.lt_trans hR hS2.1); omega
  have l1 : ln (am 1) ≤ 2 := ln_le_of_lt (by rw [BB2]; decide)
  have HD : ∀ w', Seg w' ao X n → Seg w' ao2 Y m → _ := fun w' k1 k2 => wQuo_is s ao n cap X t ao2 m cap2 Y P R Zq Zr w' hc (by omega) k1 hc2 (by omega) k2 h hR hq hr
  have HDh := hide' HD
  obtain ⟨C, hC⟩ : ∃ C, sgn Zr = C := ⟨_, rfl⟩
  have hCr := sgn_range Zr
  rw [hC] at hCr hlow
  have hsd := sd_range t
  have hlow3 : IntKind.i64.wrap (C * sd t) < 0 := by
    have : IntKind.i64.wrap (C * sd t) = C * sd t := by
      rw [IntKind.wrap_i64]
      rcases hCr with e | e | e <;> rcases hsd with e' | e' <;> rw [e, e'] <;> omega
    omega
  have KS : ∀ w' ar, Seg w' ar (am Zr) (ln (am Zr)) → Calls Tryz.prog 24 #[.agg #[.bool (ng Zr), .slice ar (ln (am Zr)) (ln (am Zr))]] w' fun e w'' => e = .returned (.int .i64 C) ∧ Below w'.heap.size w' w'' :=
    fun w' ar h1 => by have := wSign_is (ng Zr) ar _ _ (am Zr) Zr w' (Nat.le_refl _) (by omega) h1 (sg_na Zr); rwa [hC] at this
  have HKS := hide' KS
  have EQ : Hid (sg (ng Zq) (am Zq) - sg (ng 1) (am 1) = Zf) := by show _ = _; rw [sg_na, sg_na]; exact hf
  have ER : Hid (sg (ng Zr) (am Zr) + sg t Y = Zg) := by show _ = _; rw [sg_na]; exact hg
  clear h hR HD hP hq hr hC hlow hf hg KS hCr hsd
  go_enter Tryz.func66, Tryz.ntmps66
  go_wp2_with fail
  obtain ⟨W, hW⟩ : ∃ W, ((((w.alloc (.cells #[.bool s, .slice ao n cap] 25)).alloc (.cells #[.bool t, .slice ao2 m cap2] 25)).alloc (.cells #[.bool false, .slice none 0 0] 25)).alloc (.cells #[.bool false, .slice none 0 0] 25)) = W := ⟨_, rfl⟩
  have q00 : W.cell? ⟨w.heap.size, 0, none⟩ = some (.bool s) := by subst hW; go_simp
  have q01 : W.cell? ⟨w.heap.size, 1, none⟩ = some (.slice ao n cap) := by subst hW; go_simp
  have q10 : W.cell? ⟨w.heap.size + 1, 0, none⟩ = some (.bool t) := by subst hW; go_simp
  have q11 : W.cell? ⟨w.heap.size + 1, 1, none⟩ = some (.slice ao2 m cap2) := by subst hW; go_simp
  have r00 : W.cell? ⟨w.heap.size + 1 + 1, 0, none⟩ = some (.bool false) := by subst hW; go_simp
  have r01 : W.cell? ⟨w.heap.size + 1 + 1, 1, none⟩ = some (.slice none 0 0) := by subst hW; go_simp
  have r10 : W.cell? ⟨w.heap.size + 1 + 1 + 1, 0, none⟩ = some (.bool false) := by subst hW; go_simp
  have r11 : W.cell? ⟨w.heap.size + 1 + 1 + 1, 1, none⟩ = some (.slice none 0 0) := by subst hW; go_simp
  have hB : Below w.heap.size w W := by subst hW; exact (((((Below.refl _ _).alloc (by (try simp only [World.size_alloc]); omega) _).alloc (by (try simp only [World.size_alloc]); omega) _).alloc (by (try simp only [World.size_alloc]); omega) _).alloc (by (try simp only [World.size_alloc]); omega) _)
  have hR0 : Row W (w.heap.size + 1 + 1) := by
    have := row_new (((w.alloc (.cells #[.bool s, .slice ao n cap] 25)).alloc (.cells #[.bool t, .slice ao2 m cap2] 25))) #[.bool false, .slice none 0 0] 25
    try simp only [World.size_alloc] at this
    subst hW; exact (this.alloc _)
  have hR1 : Row W (w.heap.size + 1 + 1 + 1) := by
    have := row_new ((((w.alloc (.cells #[.bool s, .slice ao n cap] 25)).alloc (.cells #[.bool t, .slice ao2 m cap2] 25)).alloc (.cells #[.bool false, .slice none 0 0] 25))) #[.bool false, .slice none 0 0] 25
    try simp only [World.size_alloc] at this
    subst hW; exact this
  have hz : W.heap.size = w.heap.size + 1 + 1 + 1 + 1 := by subst hW; simp only [World.size_alloc]
  rw [hW]
  clear hW
  have hBW : Below W.heap.size W W := Below.refl _ _
  refine (HDh.out _ (sb hS hB hBW) (sb hS2 hB hBW)).mono ?_
  rintro e w1 ⟨a1, c1, rfl, hn, hk⟩
  have b1 := hn.below
  replace hBW := hBW.trans (b1.mono hBW.size)
  replace q00 := below_cell b1 q00
  replace q01 := below_cell b1 q01
  replace q10 := below_cell b1 q10
  replace q11 := below_cell b1 q11
  replace r00 := below_cell b1 r00
  replace r01 := below_cell b1 r01
  replace r10 := below_cell b1 r10
  replace r11 := below_cell b1 r11
  replace hR0 := below_row b1 hR0
  replace hR1 := below_row b1 hR1
  go_wp2_with fail
  have l100 : (((w1.alloc (.cells #[.bool (ng Zq), .slice a1 (ln (am Zq)) (ln (am Zq))] 25)).alloc (.cells #[.bool (ng Zr), .slice c1 (ln (am Zr)) (ln (am Zr))] 25))).cell? ⟨w1.heap.size, 0, none⟩ = some (.bool (ng Zq)) := by go_simp
  have l101 : (((w1.alloc (.cells #[.bool (ng Zq), .slice a1 (ln (am Zq)) (ln (am Zq))] 25)).alloc (.cells #[.bool (ng Zr), .slice c1 (ln (am Zr)) (ln (am Zr))] 25))).cell? ⟨w1.heap.size, 1, none⟩ = some (.slice a1 (ln (am Zq)) (ln (am Zq))) := by go_simp
  have l110 : (((w1.alloc (.cells #[.bool (ng Zq), .slice a1 (ln (am Zq)) (ln (am Zq))] 25)).alloc (.cells #[.bool (ng Zr), .slice c1 (ln (am Zr)) (ln (am Zr))] 25))).cell? ⟨w1.heap.size + 1, 0, none⟩ = some (.bool (ng Zr)) := by go_simp
  have l111 : (((w1.alloc (.cells #[.bool (ng Zq), .slice a1 (ln (am Zq)) (ln (am Zq))] 25)).alloc (.cells #[.bool (ng Zr), .slice c1 (ln (am Zr)) (ln (am Zr))] 25))).cell? ⟨w1.heap.size + 1, 1, none⟩ = some (.slice c1 (ln (am Zr)) (ln (am Zr))) := by go_simp
  have cb1 : Below w1.heap.size w1 (((w1.alloc (.cells #[.bool (ng Zq), .slice a1 (ln (am Zq)) (ln (am Zq))] 25)).alloc (.cells #[.bool (ng Zr), .slice c1 (ln (am Zr)) (ln (am Zr))] 25))) := (((Below.refl _ _).alloc (by (try simp only [World.size_alloc]); omega) _).alloc (by (try simp only [World.size_alloc]); omega) _)
  replace hBW := hBW.trans (cb1.mono hBW.size)
  replace q00 := below_cell cb1 q00
  replace q01 := below_cell cb1 q01
  replace q10 := below_cell cb1 q10
  replace q11 := below_cell cb1 q11
  replace r00 := below_cell cb1 r00
  replace r01 := below_cell cb1 r01
  replace r10 := below_cell cb1 r10
  replace r11 := below_cell cb1 r11
  replace hR0 := below_row cb1 hR0
  replace hR1 := below_row cb1 hR1
  replace hn := hn.later cb1
  replace hk := hk.later cb1
  have hL10 : Row (((w1.alloc (.cells #[.bool (ng Zq), .slice a1 (ln (am Zq)) (ln (am Zq))] 25)).alloc (.cells #[.bool (ng Zr), .slice c1 (ln (am Zr)) (ln (am Zr))] 25))) (w1.heap.size) := by
    have := row_new (w1) #[.bool (ng Zq), .slice a1 (ln (am Zq)) (ln (am Zq))] 25
    try simp only [World.size_alloc] at this
    exact (this.alloc _)
  have hL11 : Row (((w1.alloc (.cells #[.bool (ng Zq), .slice a1 (ln (am Zq)) (ln (am Zq))] 25)).alloc (.cells #[.bool (ng Zr), .slice c1 (ln (am Zr)) (ln (am Zr))] 25))) (w1.heap.size + 1) := by
    have := row_new ((w1.alloc (.cells #[.bool (ng Zq), .slice a1 (ln (am Zq)) (ln (am Zq))] 25))) #[.bool (ng Zr), .slice c1 (ln (am Zr)) (ln (am Zr))] 25
    try simp only [World.size_alloc] at this
    exact this
  generalize ((w1.alloc (.cells #[.bool (ng Zq), .slice a1 (ln (am Zq)) (ln (am Zq))] 25)).alloc (.cells #[.bool (ng Zr), .slice c1 (ln (am Zr)) (ln (am Zr))] 25)) = w1x at q00 q01 q10 q11 r00 r01 r10 r11 l100 l101 l110 l111 hR0 hR1 hL10 hL11 hn hk hBW cb1 ⊢
  clear cb1
  have hzw := b1.size
  rw [hz] at hzw
  have hzl : w1.heap.size + 1 < w1x.heap.size := hL11.lt
  have hBL : Below w1x.heap.size w1x w1x := Below.refl _ _
  have hBx := hB.trans (hBW.mono hB.size)
  replace hBW := hBW.drew; replace hBL := hBL.drew
  replace hn := hn.drew
  replace hk := hk.drew
  first
    | go_region_held3 (fun w' => w'.cell? ⟨w.heap.size, 0, none⟩ = some (.bool s) ∧ w'.cell? ⟨w.heap.size, 1, none⟩ = some (.slice ao n cap) ∧ w'.cell? ⟨w.heap.size + 1, 0, none⟩ = some (.bool t) ∧ w'.cell? ⟨w.heap.size + 1, 1, none⟩ = some (.slice ao2 m cap2) ∧ w'.cell? ⟨w1.heap.size, 0, none⟩ = some (.bool (ng Zq)) ∧ w'.cell? ⟨w1.heap.size, 1, none⟩ = some (.slice a1 (ln (am Zq)) (ln (am Zq))) ∧ w'.cell? ⟨w1.heap.size + 1, 0, none⟩ = some (.bool (ng Zr)) ∧ w'.cell? ⟨w1.heap.size + 1, 1, none⟩ = some (.slice c1 (ln (am Zr)) (ln (am Zr))) ∧ Below w.heap.size w w')
        (first | exact ⟨q00, q01, q10, q11, l100, l101, l110, l111, hB.trans (hBW.mono hB.size)⟩ | exact kp8 b2 (by assumption) | exact kp8 b3 (by assumption) | exact kp8 (below_alloc _) (by assumption))
        (first
          | (go_at_call 24; refine (HKS.out _ c1 hk.seg).mono ?_; rintro e w2 ⟨rfl, b2⟩; replace hBW := hBW.trans (b2.mono hBW.size); replace hBL := hBL.trans (b2.mono hBL.size); replace q00 := below_cell b2 q00; replace q01 := below_cell b2 q01; replace q10 := below_cell b2 q10; replace q11 := below_cell b2 q11; replace r00 := below_cell b2 r00; replace r01 := below_cell b2 r01; replace r10 := below_cell b2 r10; replace r11 := below_cell b2 r11; replace l100 := below_cell b2 l100; replace l101 := below_cell b2 l101; replace l110 := below_cell b2 l110; replace l111 := below_cell b2 l111; replace hR0 := below_row b2 hR0; replace hR1 := below_row b2 hR1; replace hL10 := below_row b2 hL10; replace hL11 := below_row b2 hL11; replace hn := hn.later b2; replace hk := hk.later b2)
          | (go_at_call 64; refine (side_any t _ _).mono ?_; rintro e w3 ⟨rfl, b3⟩; replace hBW := hBW.trans (b3.mono hBW.size); replace hBL := hBL.trans (b3.mono hBL.size); replace q00 := below_cell b3 q00; replace q01 := below_cell b3 q01; replace q10 := below_cell b3 q10; replace q11 := below_cell b3 q11; replace r00 := below_cell b3 r00; replace r01 := below_cell b3 r01; replace r10 := below_cell b3 r10; replace r11 := below_cell b3 r11; replace l100 := below_cell b3 l100; replace l101 := below_cell b3 l101; replace l110 := below_cell b3 l110; replace l111 := below_cell b3 l111; replace hR0 := below_row b3 hR0; replace hR1 := below_row b3 hR1; replace hL10 := below_row b3 hL10; replace hL11 := below_row b3 hL11; replace hn := hn.later b3; replace hk := hk.later b3))
    | fail
  go_wp2_with fail
  replace hBW := hBW.drew; replace hBL := hBL.drew
  replace hn := hn.drew
  replace hk := hk.drew
  refine AnyZ.begin (S := (fun k w' => if k = true then w'.cell? ⟨w1.heap.size + 1, 0, none⟩ = some (.bool (ng Zr)) ∧ w'.cell? ⟨w1.heap.size + 1, 1, none⟩ = some (.slice c1 (ln (am Zr)) (ln (am Zr))) ∧ w'.cell? ⟨w.heap.size + 1, 0, none⟩ = some (.bool t) ∧ w'.cell? ⟨w.heap.size + 1, 1, none⟩ = some (.slice ao2 m cap2) else w'.cell? ⟨w1.heap.size, 0, none⟩ = some (.bool (ng Zq)) ∧ w'.cell? ⟨w1.heap.size, 1, none⟩ = some (.slice a1 (ln (am Zq)) (ln (am Zq))))) (z := fun k i => if k = true then (i == 7) else (i == 6 || i == 7)) 8 rfl (by kernel_rfl) ?_
  refine AnyZ.take (i := 0) (v := ?_) false rfl (by kernel_rfl) (by kernel_rfl) (by kernel_rfl) (by kernel_rfl) (fun _ _ _ h => h) ?_ (by simp only [Bool.false_eq_true, if_false]; exact ⟨l100, l101⟩) ?_
  rotate_left
  · intro w9 hSw
    simp only [Bool.false_eq_true, if_false] at hSw
    go_simp
    first | done | with_reducible rfl
  simp only [pP, pN, pS, pZ, pC]
  refine AnyZ.take (i := 3) (v := ?_) true rfl (by kernel_rfl) (by kernel_rfl) (by kernel_rfl) (by kernel_rfl) (fun _ _ _ h => h) ?_ (by simp only [if_true]; exact ⟨l110, l111, q10, q11⟩) ?_
  rotate_left
  · intro w9 hSw
    simp only [if_true] at hSw
    go_simp
    first | done | with_reducible rfl
  simp only [pP, pN, pS, pZ, pC]
  refine AnyZ.take (i := 4) (v := ?_) true rfl (by kernel_rfl) (by kernel_rfl) (by kernel_rfl) (by kernel_rfl) (fun _ _ _ h => h) ?_ (by simp only [if_true]; exact ⟨l110, l111, q10, q11⟩) ?_
  rotate_left
  · intro w9 hSw
    simp only [if_true] at hSw
    go_simp
    first | done | with_reducible rfl
  simp only [pP, pN, pS, pZ, pC]
  refine AnyZ.next (i := 1) rfl (by kernel_rfl) (fun K hK => ?_)
  go_simp
  refine (wOf_is 1 _ (by omega) (by omega)).mono ?_
  rintro e w4 ⟨a4, rfl, h1⟩
  have b4 := h1.below
  replace h1 := h1.back hBL
  go_wp2_with fail
  refine hK.out _ _ ?_ ?_
  · intro k hz hS
    cases k
    · simp only [Bool.false_eq_true, if_false] at hS ⊢
      exact ⟨below_cell b4 hS.1, below_cell b4 hS.2⟩
    · simp only [if_true] at hS ⊢
      exact ⟨below_cell b4 hS.1, below_cell b4 hS.2.1, below_cell b4 hS.2.2.1, below_cell b4 hS.2.2.2⟩
  clear hK K
  replace hBW := hBW.trans (b4.mono hBW.size)
  replace hBL := hBL.trans (b4.mono hBL.size)
  replace q00 := below_cell b4 q00
  replace q01 := below_cell b4 q01
  replace q10 := below_cell b4 q10
  replace q11 := below_cell b4 q11
  replace r00 := below_cell b4 r00
  replace r01 := below_cell b4 r01
  replace r10 := below_cell b4 r10
  replace r11 := below_cell b4 r11
  replace l100 := below_cell b4 l100
  replace l101 := below_cell b4 l101
  replace l110 := below_cell b4 l110
  replace l111 := below_cell b4 l111
  replace hR0 := below_row b4 hR0
  replace hR1 := below_row b4 hR1
  replace hL10 := below_row b4 hL10
  replace hL11 := below_row b4 hL11
  replace hn := hn.later b4
  replace hk := hk.later b4
  refine AnyZ.next (i := 2) rfl (by kernel_rfl) (fun K hK => ?_)
  go_simp
  refine (wSub_is (ng Zq) a1 _ _ (am Zq) (ng 1) a4 _ _ (am 1) Zf _ (by omega) (by omega) hn.seg (by omega) (by omega) h1.seg EQ.out).mono ?_
  rintro e w5 ⟨a5, rfl, h2⟩
  have b5 := h2.below
  replace h2 := h2.back hBL
  go_wp2_with fail
  refine hK.out _ _ ?_ ?_
  · intro k hz hS
    cases k
    · simp only [Bool.false_eq_true, if_false] at hS ⊢
      exact ⟨below_cell b5 hS.1, below_cell b5 hS.2⟩
    · simp only [if_true] at hS ⊢
      exact ⟨below_cell b5 hS.1, below_cell b5 hS.2.1, below_cell b5 hS.2.2.1, below_cell b5 hS.2.2.2⟩
  clear hK K
  replace hBW := hBW.trans (b5.mono hBW.size)
  replace hBL := hBL.trans (b5.mono hBL.size)
  replace q00 := below_cell b5 q00
  replace q01 := below_cell b5 q01
  replace q10 := below_cell b5 q10
  replace q11 := below_cell b5 q11
  replace r00 := below_cell b5 r00
  replace r01 := below_cell b5 r01
  replace r10 := below_cell b5 r10
  replace r11 := below_cell b5 r11
  replace l100 := below_cell b5 l100
  replace l101 := below_cell b5 l101
  replace l110 := below_cell b5 l110
  replace l111 := below_cell b5 l111
  replace hR0 := below_row b5 hR0
  replace hR1 := below_row b5 hR1
  replace hL10 := below_row b5 hL10
  replace hL11 := below_row b5 hL11
  replace hn := hn.later b5
  replace hk := hk.later b5
  replace h1 := h1.later b5
  refine AnyZ.next (i := 5) rfl (by kernel_rfl) (fun K hK => ?_)
  go_simp
  refine (wAdd_is (ng Zr) c1 _ _ (am Zr) t ao2 m cap2 Y Zg _ (by omega) (by omega) hk.seg (by omega) (by omega) (sb hS2 hB hBW) ER.out).mono ?_
  rintro e w6 ⟨a6, rfl, h3⟩
  have b6 := h3.below
  replace h3 := h3.back hBL
  go_wp2_with fail
  refine hK.out _ _ ?_ ?_
  · intro k hz hS
    cases k
    · simp only [Bool.false_eq_true, if_false] at hS ⊢
      exact ⟨below_cell b6 hS.1, below_cell b6 hS.2⟩
    · simp only [if_true] at hS ⊢
      exact ⟨below_cell b6 hS.1, below_cell b6 hS.2.1, below_cell b6 hS.2.2.1, below_cell b6 hS.2.2.2⟩
  clear hK K
  replace hBW := hBW.trans (b6.mono hBW.size)
  replace hBL := hBL.trans (b6.mono hBL.size)
  replace q00 := below_cell b6 q00
  replace q01 := below_cell b6 q01
  replace q10 := below_cell b6 q10
  replace q11 := below_cell b6 q11
  replace r00 := below_cell b6 r00
  replace r01 := below_cell b6 r01
  replace r10 := below_cell b6 r10
  replace r11 := below_cell b6 r11
  replace l100 := below_cell b6 l100
  replace l101 := below_cell b6 l101
  replace l110 := below_cell b6 l110
  replace l111 := below_cell b6 l111
  replace hR0 := below_row b6 hR0
  replace hR1 := below_row b6 hR1
  replace hL10 := below_row b6 hL10
  replace hL11 := below_row b6 hL11
  replace hn := hn.later b6
  replace hk := hk.later b6
  replace h1 := h1.later b6
  replace h2 := h2.later b6
  have fzhR0 := fun o => hR0.frozen o
  have fzhR1 := fun o => hR1.frozen o
  have fzhL10 := fun o => hL10.frozen o
  have fzhL11 := fun o => hL11.frozen o
  refine AnyZ.next (i := 6) rfl (by kernel_rfl) (fun K hK => ?_)
  go_simp
  refine hK.out _ _ ?_ ?_
  · intro k hzz hS
    cases k
    · exact absurd hzz (by decide)
    · simp only [if_true] at hS ⊢
      exact ⟨by rw [set2_far (by omega)]; exact hS.1, by rw [set2_far (by omega)]; exact hS.2.1, by rw [set2_far (by omega)]; exact hS.2.2.1, by rw [set2_far (by omega)]; exact hS.2.2.2⟩
  clear hK K
  refine AnyZ.next (i := 7) rfl (by kernel_rfl) (fun K hK => ?_)
  go_simp
  refine hK.out _ _ ?_ ?_
  · intro k hzz hS
    cases k
    · exact absurd hzz (by decide)
    · exact absurd hzz (by decide)
  clear hK K
  refine AnyZ.done (by kernel_rfl) ?_
  go_wp2_with fail
  have hM : Mid w.heap.size w1x.heap.size w6 ((((w6.setCell ⟨w1.heap.size, 0, none⟩ (.bool (ng Zf))).setCell ⟨w1.heap.size, 1, none⟩ (.slice a5 (ln (am Zf)) (ln (am Zf)))).setCell ⟨w1.heap.size + 1, 0, none⟩ (.bool (ng Zg))).setCell ⟨w1.heap.size + 1, 1, none⟩ (.slice a6 (ln (am Zg)) (ln (am Zg)))) := ((((Mid.refl _ _ _).set _ _ (by omega) (by omega) _).set _ _ (by omega) (by omega) _).set _ _ (by omega) (by omega) _).set _ _ (by omega) (by omega) _
  have hBz : Below w.heap.size w ((((w6.setCell ⟨w1.heap.size, 0, none⟩ (.bool (ng Zf))).setCell ⟨w1.heap.size, 1, none⟩ (.slice a5 (ln (am Zf)) (ln (am Zf)))).setCell ⟨w1.heap.size + 1, 0, none⟩ (.bool (ng Zg))).setCell ⟨w1.heap.size + 1, 1, none⟩ (.slice a6 (ln (am Zg)) (ln (am Zg)))) := (hBx.trans (hBL.mono hBx.size)).trans (hM.below (Nat.le_trans hBx.size hBL.size))
  obtain ⟨e0, e1⟩ := set2_same (u := .bool (ng Zf)) (v := .slice a5 (ln (am Zf)) (ln (am Zf))) l100 l101
  obtain ⟨e2, e3⟩ := set2_same (u := .bool (ng Zg)) (v := .slice a6 (ln (am Zg)) (ln (am Zg))) ((set2_far (u := .bool (ng Zf)) (v := .slice a5 (ln (am Zf)) (ln (am Zf))) (b := w1.heap.size + 1) (c := w1.heap.size) (by omega)).trans l110) ((set2_far (by omega)).trans l111)
  have d0 : (((((w6.setCell ⟨w1.heap.size, 0, none⟩ (.bool (ng Zf))).setCell ⟨w1.heap.size, 1, none⟩ (.slice a5 (ln (am Zf)) (ln (am Zf)))).setCell ⟨w1.heap.size + 1, 0, none⟩ (.bool (ng Zg))).setCell ⟨w1.heap.size + 1, 1, none⟩ (.slice a6 (ln (am Zg)) (ln (am Zg))))).cell? ⟨w1.heap.size, 0, none⟩ = some (.bool (ng Zf)) := (set2_far (by omega)).trans e0
  have d1 : (((((w6.setCell ⟨w1.heap.size, 0, none⟩ (.bool (ng Zf))).setCell ⟨w1.heap.size, 1, none⟩ (.slice a5 (ln (am Zf)) (ln (am Zf)))).setCell ⟨w1.heap.size + 1, 0, none⟩ (.bool (ng Zg))).setCell ⟨w1.heap.size + 1, 1, none⟩ (.slice a6 (ln (am Zg)) (ln (am Zg))))).cell? ⟨w1.heap.size, 1, none⟩ = some (.slice a5 (ln (am Zf)) (ln (am Zf))) := (set2_far (by omega)).trans e1
  replace r00 : (((((w6.setCell ⟨w1.heap.size, 0, none⟩ (.bool (ng Zf))).setCell ⟨w1.heap.size, 1, none⟩ (.slice a5 (ln (am Zf)) (ln (am Zf)))).setCell ⟨w1.heap.size + 1, 0, none⟩ (.bool (ng Zg))).setCell ⟨w1.heap.size + 1, 1, none⟩ (.slice a6 (ln (am Zg)) (ln (am Zg))))).cell? ⟨w.heap.size + 1 + 1, 0, none⟩ = some (.bool false) := (set2_far (by omega)).trans ((set2_far (by omega)).trans r00)
  replace r01 : (((((w6.setCell ⟨w1.heap.size, 0, none⟩ (.bool (ng Zf))).setCell ⟨w1.heap.size, 1, none⟩ (.slice a5 (ln (am Zf)) (ln (am Zf)))).setCell ⟨w1.heap.size + 1, 0, none⟩ (.bool (ng Zg))).setCell ⟨w1.heap.size + 1, 1, none⟩ (.slice a6 (ln (am Zg)) (ln (am Zg))))).cell? ⟨w.heap.size + 1 + 1, 1, none⟩ = some (.slice none 0 0) := (set2_far (by omega)).trans ((set2_far (by omega)).trans r01)
  replace r10 : (((((w6.setCell ⟨w1.heap.size, 0, none⟩ (.bool (ng Zf))).setCell ⟨w1.heap.size, 1, none⟩ (.slice a5 (ln (am Zf)) (ln (am Zf)))).setCell ⟨w1.heap.size + 1, 0, none⟩ (.bool (ng Zg))).setCell ⟨w1.heap.size + 1, 1, none⟩ (.slice a6 (ln (am Zg)) (ln (am Zg))))).cell? ⟨w.heap.size + 1 + 1 + 1, 0, none⟩ = some (.bool false) := (set2_far (by omega)).trans ((set2_far (by omega)).trans r10)
  replace r11 : (((((w6.setCell ⟨w1.heap.size, 0, none⟩ (.bool (ng Zf))).setCell ⟨w1.heap.size, 1, none⟩ (.slice a5 (ln (am Zf)) (ln (am Zf)))).setCell ⟨w1.heap.size + 1, 0, none⟩ (.bool (ng Zg))).setCell ⟨w1.heap.size + 1, 1, none⟩ (.slice a6 (ln (am Zg)) (ln (am Zg))))).cell? ⟨w.heap.size + 1 + 1 + 1, 1, none⟩ = some (.slice none 0 0) := (set2_far (by omega)).trans ((set2_far (by omega)).trans r11)
  replace hR0 : Row (((((w6.setCell ⟨w1.heap.size, 0, none⟩ (.bool (ng Zf))).setCell ⟨w1.heap.size, 1, none⟩ (.slice a5 (ln (am Zf)) (ln (am Zf)))).setCell ⟨w1.heap.size + 1, 0, none⟩ (.bool (ng Zg))).setCell ⟨w1.heap.size + 1, 1, none⟩ (.slice a6 (ln (am Zg)) (ln (am Zg))))) (w.heap.size + 1 + 1) := (((hR0.setCell _ _).setCell _ _).setCell _ _).setCell _ _
  replace hR1 : Row (((((w6.setCell ⟨w1.heap.size, 0, none⟩ (.bool (ng Zf))).setCell ⟨w1.heap.size, 1, none⟩ (.slice a5 (ln (am Zf)) (ln (am Zf)))).setCell ⟨w1.heap.size + 1, 0, none⟩ (.bool (ng Zg))).setCell ⟨w1.heap.size + 1, 1, none⟩ (.slice a6 (ln (am Zg)) (ln (am Zg))))) (w.heap.size + 1 + 1 + 1) := (((hR1.setCell _ _).setCell _ _).setCell _ _).setCell _ _
  generalize ((((w6.setCell ⟨w1.heap.size, 0, none⟩ (.bool (ng Zf))).setCell ⟨w1.heap.size, 1, none⟩ (.slice a5 (ln (am Zf)) (ln (am Zf)))).setCell ⟨w1.heap.size + 1, 0, none⟩ (.bool (ng Zg))).setCell ⟨w1.heap.size + 1, 1, none⟩ (.slice a6 (ln (am Zg)) (ln (am Zg)))) = w9 at hM hBz d0 d1 e2 e3 r00 r01 r10 r11 hR0 hR1 ⊢
  have fz0 := fun o => hR0.frozen o
  have fz1 := fun o => hR1.frozen o
  go_region_held3 (fun w' => w'.cell? ⟨w1.heap.size, 0, none⟩ = some (.bool (ng Zf)) ∧ w'.cell? ⟨w1.heap.size, 1, none⟩ = some (.slice a5 (ln (am Zf)) (ln (am Zf))) ∧ w'.cell? ⟨w1.heap.size + 1, 0, none⟩ = some (.bool (ng Zg)) ∧ w'.cell? ⟨w1.heap.size + 1, 1, none⟩ = some (.slice a6 (ln (am Zg)) (ln (am Zg))) ∧ Below w.heap.size w w')
      (first | exact ⟨d0, d1, e2, e3, hBz.drew⟩ | exact kpT4 (by assumption) (by omega) (by omega) (by omega))
      (fail)
  all_goals go_wp2
  all_goals refine bodyPost_ret (v := .tuple #[.agg #[.bool (ng Zf), .slice a5 (ln (am Zf)) (ln (am Zf))], .agg #[.bool (ng Zg), .slice a6 (ln (am Zg)) (ln (am Zg))], .int .i64 0]) (by rw [results_cct rfl]; go_simp) rfl ?_
  all_goals have hM2 := ((((hM.set (w.heap.size + 1 + 1) 0 (by omega) (by omega) (.bool (ng Zf))).set (w.heap.size + 1 + 1) 1 (by omega) (by omega) (.slice a5 (ln (am Zf)) (ln (am Zf)))).set (w.heap.size + 1 + 1 + 1) 0 (by omega) (by omega) (.bool (ng Zg))).set (w.heap.size + 1 + 1 + 1) 1 (by omega) (by omega) (.slice a6 (ln (am Zg)) (ln (am Zg)))).drew
  all_goals exact ⟨a5, a6, rfl, h2.mid hBx hM2, h3.mid hBx hM2⟩
set_option maxHeartbeats 2000000 in
set_option maxRecDepth 100000 in
theorem wFloor_high (s : Bool) (ao : Option Addr) (n cap X : Nat) (t : Bool) (ao2 : Option Addr) (m cap2 Y P R : Nat) (Zq Zr : Int) (w : World) (hc : n ≤ cap) (hm : n ≤ 70368744177660) (hS : Seg w ao X n) (hc2 : m ≤ cap2) (hm2 : m ≤ 70368744177660) (hS2 : Seg w ao2 Y m) (h : X = P * Y + R) (hR : R < Y) (hq : sg (s != t) P = Zq) (hr : sg s R = Zr)
    (hlow : ¬ sgn Zr * sd t < 0) :
    Calls Tryz.prog 66 #[.agg #[.bool s, .slice ao n cap], .agg #[.bool t, .slice ao2 m cap2]] w fun e w' => ∃ aq ar, e = .returned (.tuple #[.agg #[.bool (ng Zq), .slice aq (ln (am Zq)) (ln (am Zq))], .agg #[.bool (ng Zr), .slice ar (ln (am Zr)) (ln (am Zr))], .int .i64 0]) ∧ New w w' aq (am Zq) (ln (am Zq)) ∧ New w w' ar (am Zr) (ln (am Zr)) := by
  have hP : P ≤ X := by
    have h1 : P * 1 ≤ P * Y := Nat.mul_le_mul_left P (by omega)
    omega
  have hlp : ln (am Zq) ≤ 70368744177660 := by rw [← hq, am_sg]; have := ln_le_of_lt (Nat.lt_of_le_of_lt hP hS.1); omega
  have hlr : ln (am Zr) ≤ 70368744177660 := by rw [← hr, am_sg]; have := ln_le_of_lt (Nat.lt_trans hR hS2.1); omega
  have HD : ∀ w', Seg w' ao X n → Seg w' ao2 Y m → _ := fun w' k1 k2 => wQuo_is s ao n cap X t ao2 m cap2 Y P R Zq Zr w' hc (by omega) k1 hc2 (by omega) k2 h hR hq hr
  have HDh := hide' HD
  obtain ⟨C, hC⟩ : ∃ C, sgn Zr = C := ⟨_, rfl⟩
  have hCr := sgn_range Zr
  rw [hC] at hCr hlow
  have hsd := sd_range t
  have hlow3 : (IntKind.i64.wrap (C * sd t) < 0) = False := by
    have : IntKind.i64.wrap (C * sd t) = C * sd t := by
      rw [IntKind.wrap_i64]
      rcases hCr with e | e | e <;> rcases hsd with e' | e' <;> rw [e, e'] <;> omega
    rw [this]; exact eq_false hlow
  have KS : ∀ w' ar, Seg w' ar (am Zr) (ln (am Zr)) → Calls Tryz.prog 24 #[.agg #[.bool (ng Zr), .slice ar (ln (am Zr)) (ln (am Zr))]] w' fun e w'' => e = .returned (.int .i64 C) ∧ Below w'.heap.size w' w'' :=
    fun w' ar h1 => by have := wSign_is (ng Zr) ar _ _ (am Zr) Zr w' (Nat.le_refl _) (by omega) h1 (sg_na Zr); rwa [hC] at this
  have HKS := hide' KS
  clear h hR HD hP hq hr hC hlow KS hCr hsd
  go_enter Tryz.func66, Tryz.ntmps66
  go_wp2_with fail
  obtain ⟨W, hW⟩ : ∃ W, ((((w.alloc (.cells #[.bool s, .slice ao n cap] 25)).alloc (.cells #[.bool t, .slice ao2 m cap2] 25)).alloc (.cells #[.bool false, .slice none 0 0] 25)).alloc (.cells #[.bool false, .slice none 0 0] 25)) = W := ⟨_, rfl⟩
  have q00 : W.cell? ⟨w.heap.size, 0, none⟩ = some (.bool s) := by subst hW; go_simp
  have q01 : W.cell? ⟨w.heap.size, 1, none⟩ = some (.slice ao n cap) := by subst hW; go_simp
  have q10 : W.cell? ⟨w.heap.size + 1, 0, none⟩ = some (.bool t) := by subst hW; go_simp
  have q11 : W.cell? ⟨w.heap.size + 1, 1, none⟩ = some (.slice ao2 m cap2) := by subst hW; go_simp
  have r00 : W.cell? ⟨w.heap.size + 1 + 1, 0, none⟩ = some (.bool false) := by subst hW; go_simp
  have r01 : W.cell? ⟨w.heap.size + 1 + 1, 1, none⟩ = some (.slice none 0 0) := by subst hW; go_simp
  have r10 : W.cell? ⟨w.heap.size + 1 + 1 + 1, 0, none⟩ = some (.bool false) := by subst hW; go_simp
  have r11 : W.cell? ⟨w.heap.size + 1 + 1 + 1, 1, none⟩ = some (.slice none 0 0) := by subst hW; go_simp
  have hB : Below w.heap.size w W := by subst hW; exact (((((Below.refl _ _).alloc (by (try simp only [World.size_alloc]); omega) _).alloc (by (try simp only [World.size_alloc]); omega) _).alloc (by (try simp only [World.size_alloc]); omega) _).alloc (by (try simp only [World.size_alloc]); omega) _)
  have hR0 : Row W (w.heap.size + 1 + 1) := by
    have := row_new (((w.alloc (.cells #[.bool s, .slice ao n cap] 25)).alloc (.cells #[.bool t, .slice ao2 m cap2] 25))) #[.bool false, .slice none 0 0] 25
    try simp only [World.size_alloc] at this
    subst hW; exact (this.alloc _)
  have hR1 : Row W (w.heap.size + 1 + 1 + 1) := by
    have := row_new ((((w.alloc (.cells #[.bool s, .slice ao n cap] 25)).alloc (.cells #[.bool t, .slice ao2 m cap2] 25)).alloc (.cells #[.bool false, .slice none 0 0] 25))) #[.bool false, .slice none 0 0] 25
    try simp only [World.size_alloc] at this
    subst hW; exact this
  have hz : W.heap.size = w.heap.size + 1 + 1 + 1 + 1 := by subst hW; simp only [World.size_alloc]
  rw [hW]
  clear hW
  have hBW : Below W.heap.size W W := Below.refl _ _
  refine (HDh.out _ (sb hS hB hBW) (sb hS2 hB hBW)).mono ?_
  rintro e w1 ⟨a1, c1, rfl, hn, hk⟩
  have b1 := hn.below
  replace hBW := hBW.trans (b1.mono hBW.size)
  replace q00 := below_cell b1 q00
  replace q01 := below_cell b1 q01
  replace q10 := below_cell b1 q10
  replace q11 := below_cell b1 q11
  replace r00 := below_cell b1 r00
  replace r01 := below_cell b1 r01
  replace r10 := below_cell b1 r10
  replace r11 := below_cell b1 r11
  replace hR0 := below_row b1 hR0
  replace hR1 := below_row b1 hR1
  go_wp2_with fail
  have l100 : (((w1.alloc (.cells #[.bool (ng Zq), .slice a1 (ln (am Zq)) (ln (am Zq))] 25)).alloc (.cells #[.bool (ng Zr), .slice c1 (ln (am Zr)) (ln (am Zr))] 25))).cell? ⟨w1.heap.size, 0, none⟩ = some (.bool (ng Zq)) := by go_simp
  have l101 : (((w1.alloc (.cells #[.bool (ng Zq), .slice a1 (ln (am Zq)) (ln (am Zq))] 25)).alloc (.cells #[.bool (ng Zr), .slice c1 (ln (am Zr)) (ln (am Zr))] 25))).cell? ⟨w1.heap.size, 1, none⟩ = some (.slice a1 (ln (am Zq)) (ln (am Zq))) := by go_simp
  have l110 : (((w1.alloc (.cells #[.bool (ng Zq), .slice a1 (ln (am Zq)) (ln (am Zq))] 25)).alloc (.cells #[.bool (ng Zr), .slice c1 (ln (am Zr)) (ln (am Zr))] 25))).cell? ⟨w1.heap.size + 1, 0, none⟩ = some (.bool (ng Zr)) := by go_simp
  have l111 : (((w1.alloc (.cells #[.bool (ng Zq), .slice a1 (ln (am Zq)) (ln (am Zq))] 25)).alloc (.cells #[.bool (ng Zr), .slice c1 (ln (am Zr)) (ln (am Zr))] 25))).cell? ⟨w1.heap.size + 1, 1, none⟩ = some (.slice c1 (ln (am Zr)) (ln (am Zr))) := by go_simp
  have cb1 : Below w1.heap.size w1 (((w1.alloc (.cells #[.bool (ng Zq), .slice a1 (ln (am Zq)) (ln (am Zq))] 25)).alloc (.cells #[.bool (ng Zr), .slice c1 (ln (am Zr)) (ln (am Zr))] 25))) := (((Below.refl _ _).alloc (by (try simp only [World.size_alloc]); omega) _).alloc (by (try simp only [World.size_alloc]); omega) _)
  replace hBW := hBW.trans (cb1.mono hBW.size)
  replace q00 := below_cell cb1 q00
  replace q01 := below_cell cb1 q01
  replace q10 := below_cell cb1 q10
  replace q11 := below_cell cb1 q11
  replace r00 := below_cell cb1 r00
  replace r01 := below_cell cb1 r01
  replace r10 := below_cell cb1 r10
  replace r11 := below_cell cb1 r11
  replace hR0 := below_row cb1 hR0
  replace hR1 := below_row cb1 hR1
  replace hn := hn.later cb1
  replace hk := hk.later cb1
  have hL10 : Row (((w1.alloc (.cells #[.bool (ng Zq), .slice a1 (ln (am Zq)) (ln (am Zq))] 25)).alloc (.cells #[.bool (ng Zr), .slice c1 (ln (am Zr)) (ln (am Zr))] 25))) (w1.heap.size) := by
    have := row_new (w1) #[.bool (ng Zq), .slice a1 (ln (am Zq)) (ln (am Zq))] 25
    try simp only [World.size_alloc] at this
    exact (this.alloc _)
  have hL11 : Row (((w1.alloc (.cells #[.bool (ng Zq), .slice a1 (ln (am Zq)) (ln (am Zq))] 25)).alloc (.cells #[.bool (ng Zr), .slice c1 (ln (am Zr)) (ln (am Zr))] 25))) (w1.heap.size + 1) := by
    have := row_new ((w1.alloc (.cells #[.bool (ng Zq), .slice a1 (ln (am Zq)) (ln (am Zq))] 25))) #[.bool (ng Zr), .slice c1 (ln (am Zr)) (ln (am Zr))] 25
    try simp only [World.size_alloc] at this
    exact this
  generalize ((w1.alloc (.cells #[.bool (ng Zq), .slice a1 (ln (am Zq)) (ln (am Zq))] 25)).alloc (.cells #[.bool (ng Zr), .slice c1 (ln (am Zr)) (ln (am Zr))] 25)) = w1x at q00 q01 q10 q11 r00 r01 r10 r11 l100 l101 l110 l111 hR0 hR1 hL10 hL11 hn hk hBW cb1 ⊢
  clear cb1
  have hzw := b1.size
  rw [hz] at hzw
  replace hBW := hBW.drew
  replace hn := hn.drew
  replace hk := hk.drew
  first
    | go_region_held3 (fun w' => w'.cell? ⟨w.heap.size, 0, none⟩ = some (.bool s) ∧ w'.cell? ⟨w.heap.size, 1, none⟩ = some (.slice ao n cap) ∧ w'.cell? ⟨w.heap.size + 1, 0, none⟩ = some (.bool t) ∧ w'.cell? ⟨w.heap.size + 1, 1, none⟩ = some (.slice ao2 m cap2) ∧ w'.cell? ⟨w1.heap.size, 0, none⟩ = some (.bool (ng Zq)) ∧ w'.cell? ⟨w1.heap.size, 1, none⟩ = some (.slice a1 (ln (am Zq)) (ln (am Zq))) ∧ w'.cell? ⟨w1.heap.size + 1, 0, none⟩ = some (.bool (ng Zr)) ∧ w'.cell? ⟨w1.heap.size + 1, 1, none⟩ = some (.slice c1 (ln (am Zr)) (ln (am Zr))) ∧ Below w.heap.size w w')
        (first | exact ⟨q00, q01, q10, q11, l100, l101, l110, l111, hB.trans (hBW.mono hB.size)⟩ | exact kp8 b2 (by assumption) | exact kp8 b3 (by assumption) | exact kp8 (below_alloc _) (by assumption))
        (first
          | (go_at_call 24; refine (HKS.out _ c1 hk.seg).mono ?_; rintro e w2 ⟨rfl, b2⟩; replace hBW := hBW.trans (b2.mono hBW.size); replace q00 := below_cell b2 q00; replace q01 := below_cell b2 q01; replace q10 := below_cell b2 q10; replace q11 := below_cell b2 q11; replace r00 := below_cell b2 r00; replace r01 := below_cell b2 r01; replace r10 := below_cell b2 r10; replace r11 := below_cell b2 r11; replace l100 := below_cell b2 l100; replace l101 := below_cell b2 l101; replace l110 := below_cell b2 l110; replace l111 := below_cell b2 l111; replace hR0 := below_row b2 hR0; replace hR1 := below_row b2 hR1; replace hL10 := below_row b2 hL10; replace hL11 := below_row b2 hL11; replace hn := hn.later b2; replace hk := hk.later b2)
          | (go_at_call 64; refine (side_any t _ _).mono ?_; rintro e w3 ⟨rfl, b3⟩; replace hBW := hBW.trans (b3.mono hBW.size); replace q00 := below_cell b3 q00; replace q01 := below_cell b3 q01; replace q10 := below_cell b3 q10; replace q11 := below_cell b3 q11; replace r00 := below_cell b3 r00; replace r01 := below_cell b3 r01; replace r10 := below_cell b3 r10; replace r11 := below_cell b3 r11; replace l100 := below_cell b3 l100; replace l101 := below_cell b3 l101; replace l110 := below_cell b3 l110; replace l111 := below_cell b3 l111; replace hR0 := below_row b3 hR0; replace hR1 := below_row b3 hR1; replace hL10 := below_row b3 hL10; replace hL11 := below_row b3 hL11; replace hn := hn.later b3; replace hk := hk.later b3))
    | fail
  go_wp2_with fail
  have hM := Mid.refl w.heap.size W.heap.size w3
  have hBz := hB.trans (hBW.mono hB.size)
  have fz0 := fun o => hR0.frozen o
  have fz1 := fun o => hR1.frozen o
  go_region_held3 (fun w' => w'.cell? ⟨w1.heap.size, 0, none⟩ = some (.bool (ng Zq)) ∧ w'.cell? ⟨w1.heap.size, 1, none⟩ = some (.slice a1 (ln (am Zq)) (ln (am Zq))) ∧ w'.cell? ⟨w1.heap.size + 1, 0, none⟩ = some (.bool (ng Zr)) ∧ w'.cell? ⟨w1.heap.size + 1, 1, none⟩ = some (.slice c1 (ln (am Zr)) (ln (am Zr))) ∧ Below w.heap.size w w')
      (first | exact ⟨l100, l101, l110, l111, hBz.drew⟩ | exact kpT4 (by assumption) (by omega) (by omega) (by omega))
      (fail)
  all_goals go_wp2
  all_goals refine bodyPost_ret (v := .tuple #[.agg #[.bool (ng Zq), .slice a1 (ln (am Zq)) (ln (am Zq))], .agg #[.bool (ng Zr), .slice c1 (ln (am Zr)) (ln (am Zr))], .int .i64 0]) (by rw [results_cct rfl]; go_simp) rfl ?_
  all_goals have hM2 := ((((hM.set (w.heap.size + 1 + 1) 0 (by omega) (by omega) (.bool (ng Zq))).set (w.heap.size + 1 + 1) 1 (by omega) (by omega) (.slice a1 (ln (am Zq)) (ln (am Zq)))).set (w.heap.size + 1 + 1 + 1) 0 (by omega) (by omega) (.bool (ng Zr))).set (w.heap.size + 1 + 1 + 1) 1 (by omega) (by omega) (.slice c1 (ln (am Zr)) (ln (am Zr)))).drew
  all_goals exact ⟨a1, c1, rfl, hn.mid hB hM2, hk.mid hB hM2⟩
theorem sg_abs (s : Bool) (X : Nat) : (sg s X).natAbs = X := am_sg s X
theorem sg_bounds (s : Bool) (X : Nat) : -(X : Int) ≤ sg s X ∧ sg s X ≤ X := by cases s <;> simp [sg] <;> omega
theorem quo_of (s : Bool) (ao : Option Addr) (n cap X : Nat) (t : Bool) (ao2 : Option Addr) (m cap2 Y : Nat) (hc : n ≤ cap) (hm : n ≤ 70368744177650) (hc2 : m ≤ cap2) (hm2 : m ≤ 70368744177650) (hY : Y ≠ 0) :
    ∃ (P R : Nat) (Zq Zr : Int), X = P * Y + R ∧ R < Y ∧ sg (s != t) P = Zq ∧ sg s R = Zr ∧ Zq * sg t Y + Zr = sg s X ∧ am Zr < Y ∧ am Zq ≤ X ∧
      (∀ w', Seg w' ao X n → Seg w' ao2 Y m → Calls Tryz.prog 94 #[.agg #[.bool s, .slice ao n cap], .agg #[.bool t, .slice ao2 m cap2]] w' fun e w'' => ∃ aq ar, e = .returned (.tuple #[.agg #[.bool (ng Zq), .slice aq (ln (am Zq)) (ln (am Zq))], .agg #[.bool (ng Zr), .slice ar (ln (am Zr)) (ln (am Zr))], .int .i64 0]) ∧ New w' w'' aq (am Zq) (ln (am Zq)) ∧ New w' w'' ar (am Zr) (ln (am Zr))) := by
  have h : X = X / Y * Y + X % Y := by have := Nat.div_add_mod X Y; rw [Nat.mul_comm]; omega
  have hR : X % Y < Y := Nat.mod_lt _ (by omega)
  refine ⟨X / Y, X % Y, _, _, h, hR, rfl, rfl, ?_, ?_, ?_, ?_⟩
  · rw [sg_mul, show ((s != t) != t) = s by cases s <;> cases t <;> rfl, sg_add, ← h]
  · rw [am_sg]; exact hR
  · rw [am_sg]; exact Nat.div_le_self _ _
  · intro w' k1 k2
    exact wQuo_is s ao n cap X t ao2 m cap2 Y _ _ _ _ w' hc (by omega) k1 hc2 (by omega) k2 h hR rfl rfl
theorem floor_of (s : Bool) (ao : Option Addr) (n cap X : Nat) (t : Bool) (ao2 : Option Addr) (m cap2 Y : Nat) (hc : n ≤ cap) (hm : n ≤ 70368744177650) (hc2 : m ≤ cap2) (hm2 : m ≤ 70368744177650) (hY : Y ≠ 0) :
    ∃ (Zf Zg : Int), Zf * sg t Y + Zg = sg s X ∧ (sgn Zg = 0 ∨ sgn Zg = sgn (sg t Y)) ∧ am Zg < Y ∧ am Zf ≤ X + 1 ∧
      (∀ w', Seg w' ao X n → Seg w' ao2 Y m → Calls Tryz.prog 66 #[.agg #[.bool s, .slice ao n cap], .agg #[.bool t, .slice ao2 m cap2]] w' fun e w'' => ∃ aq ar, e = .returned (.tuple #[.agg #[.bool (ng Zf), .slice aq (ln (am Zf)) (ln (am Zf))], .agg #[.bool (ng Zg), .slice ar (ln (am Zg)) (ln (am Zg))], .int .i64 0]) ∧ New w' w'' aq (am Zf) (ln (am Zf)) ∧ New w' w'' ar (am Zg) (ln (am Zg))) := by
  obtain ⟨P, R, Zq, Zr, h, hR, hq, hr, hsum, hlr, hlq, _⟩ := quo_of s ao n cap X t ao2 m cap2 Y hc hm hc2 hm2 hY
  have hsB : sgn (sg t Y) = sd t := sgn_sg hY
  by_cases hlow : sgn Zr * sd t < 0
  · refine ⟨Zq - 1, Zr + sg t Y, ?_, ?_, ?_, ?_, fun w' k1 k2 => wFloor_low s ao n cap X t ao2 m cap2 Y P R Zq Zr _ _ w' hc (by omega) k1 hc2 (by omega) k2 h hR hq hr hlow rfl rfl⟩
    · rw [Int.sub_mul]; omega
    · right
      rw [hsB]
      unfold am at hlr
      cases t
      · have h1 : Zr < 0 := by
          rcases Int.lt_or_le Zr 0 with h' | h'
          · exact h'
          · have := sgn_range Zr
            have h2 : 0 ≤ sgn Zr := by unfold sgn; rw [if_neg (by omega)]; split <;> omega
            simp only [sd, Bool.false_eq_true, if_false] at hlow; omega
        rw [sgn_pos (by simp only [sg, Bool.false_eq_true, if_false]; omega)]; rfl
      · have h1 : 0 < Zr := by
          rcases Int.lt_or_le 0 Zr with h' | h'
          · exact h'
          · have h2 : sgn Zr ≤ 0 := by unfold sgn; split; omega; split <;> omega
            simp only [sd, if_true] at hlow; omega
        rw [sgn_neg (by simp only [sg, if_true]; omega)]; rfl
    · unfold am at hlr ⊢
      cases t
      · have h1 : Zr < 0 := by
          rcases Int.lt_or_le Zr 0 with h' | h'
          · exact h'
          · have h2 : 0 ≤ sgn Zr := by unfold sgn; rw [if_neg (by omega)]; split <;> omega
            simp only [sd, Bool.false_eq_true, if_false] at hlow; omega
        simp only [sg, Bool.false_eq_true, if_false]; omega
      · have h1 : 0 < Zr := by
          rcases Int.lt_or_le 0 Zr with h' | h'
          · exact h'
          · have h2 : sgn Zr ≤ 0 := by unfold sgn; split; omega; split <;> omega
            simp only [sd, if_true] at hlow; omega
        simp only [sg, if_true]; omega
    · unfold am at hlq ⊢; omega
  · refine ⟨Zq, Zr, hsum, ?_, hlr, by omega, fun w' k1 k2 => wFloor_high s ao n cap X t ao2 m cap2 Y P R Zq Zr w' hc (by omega) k1 hc2 (by omega) k2 h hR hq hr hlow⟩
    rw [hsB]
    have h1 := sgn_range Zr
    cases t
    · simp only [sd, Bool.false_eq_true, if_false] at hlow ⊢; omega
    · simp only [sd, if_true] at hlow ⊢; omega
end Go.Proofs.YtejlnodillnoaaaGreatDoor
