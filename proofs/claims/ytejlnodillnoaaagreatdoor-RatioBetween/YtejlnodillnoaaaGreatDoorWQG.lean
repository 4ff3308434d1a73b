import Derived.Test.YtejlnodillnoaaaGreatDoorWQF
import Derived.Test.YtejlnodillnoaaaGreatDoorWQ5
import Derived.Deep.CutRange
set_option linter.unusedSimpArgs false
namespace Go.Proofs.YtejlnodillnoaaaGreatDoor
open Go.RowKit
set_option linter.unusedVariables false
theorem Seg.setTwo {w : World} {p : Option Addr} {X n c : Nat} {u0 u1 : Value} {z0 : Bool} {a1 : Option Addr} {n1 k1 : Nat} (h : Seg w p X n) (h0 : w.cell? ⟨c, 0, none⟩ = some (.bool z0)) (h1 : w.cell? ⟨c, 1, none⟩ = some (.slice a1 n1 k1)) :
    Seg ((w.setCell ⟨c, 0, none⟩ u0).setCell ⟨c, 1, none⟩ u1) p X n := by
  refine (h.setB h0 (by simp)).setB (z := .slice a1 n1 k1) ?_ (by simp)
  rw [World.cell?_setCell_other _ _ _ _ (fun e => by simp at e)]; exact h1
theorem New.set2 {L w : World} {p : Option Addr} {X n c : Nat} {u0 u1 : Value} {z0 : Bool} {a1 : Option Addr} {n1 k1 : Nat} (h : New L w p X n) (ge : L.heap.size ≤ c) (h0 : w.cell? ⟨c, 0, none⟩ = some (.bool z0)) (h1 : w.cell? ⟨c, 1, none⟩ = some (.slice a1 n1 k1)) :
    New L ((w.setCell ⟨c, 0, none⟩ u0).setCell ⟨c, 1, none⟩ u1) p X n :=
  ⟨h.seg.setTwo h0 h1, bsetW (bsetW h.below ge) ge, fun hn => by obtain ⟨b, off, e, hb, hr⟩ := h.fresh hn; exact ⟨b, off, e, hb, (hr.setCell _ _).setCell _ _⟩⟩
theorem stored2 {w W : World} {c d r : Nat} {u0 u1 v0 v1 : Value} {z0 : Bool} {a1 : Option Addr} {n1 k1 : Nat} {p1 : Option Addr} {X1 l1 : Nat}
    (h0 : w.cell? ⟨c, 0, none⟩ = some (.bool z0)) (h1 : w.cell? ⟨c, 1, none⟩ = some (.slice a1 n1 k1)) (g0 : w.cell? ⟨d, 0, none⟩ = some v0) (g1 : w.cell? ⟨d, 1, none⟩ = some v1) (gR : Row w r)
    (hBW : Below W.heap.size W w) (ge : W.heap.size ≤ c) (ne : c ≠ d) (s1 : New W w p1 X1 l1) :
    ((w.setCell ⟨c, 0, none⟩ u0).setCell ⟨c, 1, none⟩ u1).cell? ⟨c, 0, none⟩ = some u0 ∧ ((w.setCell ⟨c, 0, none⟩ u0).setCell ⟨c, 1, none⟩ u1).cell? ⟨c, 1, none⟩ = some u1 ∧
    ((w.setCell ⟨c, 0, none⟩ u0).setCell ⟨c, 1, none⟩ u1).cell? ⟨d, 0, none⟩ = some v0 ∧ ((w.setCell ⟨c, 0, none⟩ u0).setCell ⟨c, 1, none⟩ u1).cell? ⟨d, 1, none⟩ = some v1 ∧
    Row ((w.setCell ⟨c, 0, none⟩ u0).setCell ⟨c, 1, none⟩ u1) r ∧ Below W.heap.size W ((w.setCell ⟨c, 0, none⟩ u0).setCell ⟨c, 1, none⟩ u1) ∧ New W ((w.setCell ⟨c, 0, none⟩ u0).setCell ⟨c, 1, none⟩ u1) p1 X1 l1 := by
  have e := set2_same (u := u0) (v := u1) h0 h1
  exact ⟨e.1, e.2, (set2_far ne).trans g0, (set2_far ne).trans g1, (gR.setCell _ _).setCell _ _, bsetW (bsetW hBW ge) ge, s1.set2 ge h0 h1⟩
set_option maxHeartbeats 4000000 in
set_option maxRecDepth 100000 in
theorem vqFloor_is (s0 : Bool) (a0 : Option Addr) (n0 c0 X0 : Nat) (b0 : Option Addr) (m0 d0 Y0 : Nat) (Z G0 : Int) (w : World) (hc0 : n0 ≤ c0) (hm0 : n0 ≤ 35184372087808) (hS0 : Seg w a0 X0 n0) (hd0 : m0 ≤ d0) (hk0 : m0 ≤ 35184372087808) (hT0 : Seg w b0 Y0 m0) (h : Fl (rn s0 X0 Y0) (rd Y0 : Nat) Z G0) :
    Calls Tryz.prog 32 #[Value.agg #[Value.bool s0, Value.slice a0 n0 c0, Value.slice b0 m0 d0]] w fun e w' => ∃ p, e = .returned (.agg #[.bool (ng Z), .slice p (ln (am Z)) (ln (am Z))]) ∧ New w w' p (am Z) (ln (am Z)) := by
  obtain ⟨Z1, V1, h1⟩ := low_ex (rn s0 X0 Y0) (rd Y0 : Nat) (rd_ne Y0)
  obtain ⟨lZ1, lV1⟩ := low_ln hS0.1 hT0.1 h1
  obtain ⟨Z', G, h3⟩ := fl_ex Z1 (D := (V1 : Int)) (by have := h1.pos; omega)
  obtain rfl : Z' = Z := h.same (by have := rd_pos Y0; omega) h3 (by have := h1.pos; omega) (by have := h1.eq; omega)
  have G1 := hide' h1
  have HF := hide' (fun w' p q k1 k2 => vfloor_pos (ng Z1) p (ln (am Z1)) (ln (am Z1)) (am Z1) q (ln V1) (ln V1) V1 Z' G w' (Nat.le_refl _) (by omega) k1 (Nat.le_refl _) (by omega) k2 (by rw [sg_na]; exact h3))
  obtain ⟨Z, hZ⟩ : ∃ Z, Z' = Z := ⟨_, rfl⟩
  rw [hZ] at HF ⊢
  clear h h1 h3 hZ
  go_enter Tryz.func32, Tryz.ntmps32
  go_wp2_with fail
  obtain ⟨W, hW⟩ : ∃ W, ((w.alloc (.cells #[.bool s0, .slice a0 n0 c0, .slice b0 m0 d0] 27)).alloc (.cells #[.bool false, .slice none 0 0] 25)) = W := ⟨_, rfl⟩
  have q00 : W.cell? ⟨w.heap.size, 0, none⟩ = some (.bool s0) := by subst hW; go_simp
  have q01 : W.cell? ⟨w.heap.size, 1, none⟩ = some (.slice a0 n0 c0) := by subst hW; go_simp
  have q02 : W.cell? ⟨w.heap.size, 2, none⟩ = some (.slice b0 m0 d0) := by subst hW; go_simp
  have r00 : W.cell? ⟨w.heap.size + 1, 0, none⟩ = some (.bool false) := by subst hW; go_simp
  have r01 : W.cell? ⟨w.heap.size + 1, 1, none⟩ = some (.slice none 0 0) := by subst hW; go_simp
  have hB : Below w.heap.size w W := by subst hW; exact (((Below.refl _ _).alloc (by (try simp only [World.size_alloc]); omega) _).alloc (by (try simp only [World.size_alloc]); omega) _)
  have hR0 : Row W (w.heap.size + 1) := by
    have := row_new ((w.alloc (.cells #[.bool s0, .slice a0 n0 c0, .slice b0 m0 d0] 27))) #[.bool false, .slice none 0 0] 25
    try simp only [World.size_alloc] at this
    subst hW; exact this
  have hP0 : Row W (w.heap.size) := by
    have := row_new (w) #[.bool s0, .slice a0 n0 c0, .slice b0 m0 d0] 27
    try simp only [World.size_alloc] at this
    subst hW; exact (this.alloc _)
  have hz : W.heap.size = w.heap.size + 1 + 1 := by subst hW; simp only [World.size_alloc]
  rw [hW]
  clear hW
  have hBW : Below W.heap.size W W := Below.refl _ _
  refine (vqNorm_is s0 a0 n0 c0 X0 b0 m0 d0 Y0 V1 Z1 _ (by omega) (sb hS0 hB hBW) (by omega) (sb hT0 hB hBW) G1.out).mono ?_
  rintro e w41 ⟨p41, q41, rfl, hp41, hq41⟩
  have b41 := hp41.below
  replace hp41 := hp41.back hBW
  replace hq41 := hq41.back hBW
  replace hBW := hBW.trans (b41.mono hBW.size)
  replace q00 := below_cell b41 q00
  replace q01 := below_cell b41 q01
  replace q02 := below_cell b41 q02
  replace r00 := below_cell b41 r00
  replace r01 := below_cell b41 r01
  replace hR0 := below_row b41 hR0
  replace hP0 := below_row b41 hP0
  have hsB := hBW.size
  have hM : Mid w.heap.size W.heap.size w41 (((w41.setCell ⟨w.heap.size, 0, none⟩ (.bool (ng Z1))).setCell ⟨w.heap.size, 1, none⟩ (.slice p41 (ln (am Z1)) (ln (am Z1)))).setCell ⟨w.heap.size, 2, none⟩ (.slice q41 (ln V1) (ln V1))) := ((((Mid.refl _ _ _).set _ _ (by omega) (by omega) _).set _ _ (by omega) (by omega) _).set _ _ (by omega) (by omega) _)
  have eM := set3_same (w := w41) (c := w.heap.size) (u0 := .bool (ng Z1)) (u1 := .slice p41 (ln (am Z1)) (ln (am Z1))) (u2 := .slice q41 (ln V1) (ln V1)) q00 q01 q02
  have q00_ : ((((w41.setCell ⟨w.heap.size, 0, none⟩ (.bool (ng Z1))).setCell ⟨w.heap.size, 1, none⟩ (.slice p41 (ln (am Z1)) (ln (am Z1)))).setCell ⟨w.heap.size, 2, none⟩ (.slice q41 (ln V1) (ln V1)))).cell? ⟨w.heap.size, 0, none⟩ = some (.bool (ng Z1)) := eM.1
  have q01_ : ((((w41.setCell ⟨w.heap.size, 0, none⟩ (.bool (ng Z1))).setCell ⟨w.heap.size, 1, none⟩ (.slice p41 (ln (am Z1)) (ln (am Z1)))).setCell ⟨w.heap.size, 2, none⟩ (.slice q41 (ln V1) (ln V1)))).cell? ⟨w.heap.size, 1, none⟩ = some (.slice p41 (ln (am Z1)) (ln (am Z1))) := eM.2.1
  have q02_ : ((((w41.setCell ⟨w.heap.size, 0, none⟩ (.bool (ng Z1))).setCell ⟨w.heap.size, 1, none⟩ (.slice p41 (ln (am Z1)) (ln (am Z1)))).setCell ⟨w.heap.size, 2, none⟩ (.slice q41 (ln V1) (ln V1)))).cell? ⟨w.heap.size, 2, none⟩ = some (.slice q41 (ln V1) (ln V1)) := eM.2.2
  have r00_ : ((((w41.setCell ⟨w.heap.size, 0, none⟩ (.bool (ng Z1))).setCell ⟨w.heap.size, 1, none⟩ (.slice p41 (ln (am Z1)) (ln (am Z1)))).setCell ⟨w.heap.size, 2, none⟩ (.slice q41 (ln V1) (ln V1)))).cell? ⟨w.heap.size + 1, 0, none⟩ = some (.bool false) := (set3_far (by omega)).trans r00
  have r01_ : ((((w41.setCell ⟨w.heap.size, 0, none⟩ (.bool (ng Z1))).setCell ⟨w.heap.size, 1, none⟩ (.slice p41 (ln (am Z1)) (ln (am Z1)))).setCell ⟨w.heap.size, 2, none⟩ (.slice q41 (ln V1) (ln V1)))).cell? ⟨w.heap.size + 1, 1, none⟩ = some (.slice none 0 0) := (set3_far (by omega)).trans r01
  have hR0_ := (((hR0.setCell ⟨w.heap.size, 0, none⟩ (.bool (ng Z1))).setCell ⟨w.heap.size, 1, none⟩ (.slice p41 (ln (am Z1)) (ln (am Z1)))).setCell ⟨w.heap.size, 2, none⟩ (.slice q41 (ln V1) (ln V1)))
  have fzhR0 := fun o => hR0.frozen o
  have hP0_ := (((hP0.setCell ⟨w.heap.size, 0, none⟩ (.bool (ng Z1))).setCell ⟨w.heap.size, 1, none⟩ (.slice p41 (ln (am Z1)) (ln (am Z1)))).setCell ⟨w.heap.size, 2, none⟩ (.slice q41 (ln V1) (ln V1)))
  have fzhP0 := fun o => hP0.frozen o
  have khp41 := (hp41.mid hB hM).seg
  clear hp41
  have khq41 := (hq41.mid hB hM).seg
  clear hq41
  have hBn := (hB.trans (hBW.mono hB.size)).trans (hM.below (Nat.le_trans hB.size hBW.size))
  have hsM := hM.size
  clear hM eM
  go_wp2_with fail
  clear q00 q01 q02 r00 r01 hR0 hP0 fzhR0 fzhP0 hB hBW
  generalize (((w41.setCell ⟨w.heap.size, 0, none⟩ (.bool (ng Z1))).setCell ⟨w.heap.size, 1, none⟩ (.slice p41 (ln (am Z1)) (ln (am Z1)))).setCell ⟨w.heap.size, 2, none⟩ (.slice q41 (ln V1) (ln V1))) = w41y at q00_ q01_ q02_ r00_ r01_ hR0_ hP0_ khp41 khq41 hBn hsM ⊢
  have q00 := q00_
  clear q00_
  have q01 := q01_
  clear q01_
  have q02 := q02_
  clear q02_
  have r00 := r00_
  clear r00_
  have r01 := r01_
  clear r01_
  have hR0 := hR0_
  clear hR0_
  have hP0 := hP0_
  clear hP0_
  have hB := hBn
  clear hBn
  have hBW : Below w41y.heap.size w41y w41y := Below.refl _ _
  have hzz : w.heap.size + 1 + 1 ≤ w41y.heap.size := by omega
  clear hz
  go_cut [3, 4, 5] from 8 to 17 (fun s3 s4 s5 wx => ∃ c aq, s3 = .pointer (some ⟨c, 0, none⟩) ∧ w41y.heap.size ≤ c ∧ wx.cell? ⟨c, 0, none⟩ = some (.bool (ng Z)) ∧ wx.cell? ⟨c, 1, none⟩ = some (.slice aq (ln (am Z)) (ln (am Z))) ∧ New w41y wx aq (am Z) (ln (am Z)) ∧ Below w41y.heap.size w41y wx)
  case first =>
    have Qq00 := q00
    have Qq01 := q01
    have Qq02 := q02
    clear q00 q01 q02 r00 r01 hR0 hP0
    replace hBW := hBW.drew
    refine wp_region_held_drew (S := (fun w' => w'.cell? ⟨w.heap.size, 0, none⟩ = some (.bool (ng Z1)) ∧ w'.cell? ⟨w.heap.size, 1, none⟩ = some (.slice p41 (ln (am Z1)) (ln (am Z1))) ∧ w'.cell? ⟨w.heap.size, 2, none⟩ = some (.slice q41 (ln V1) (ln V1)) ∧ Below w.heap.size w w')) (by kernel_rfl) (kp3 (W := w41y) hBW ⟨Qq00, Qq01, Qq02, hB⟩) (fun hHeld => ?_)
    replace khp41 := khp41.drew
    replace khq41 := khq41.drew
    generalize w41y.drew = w0 at hBW khp41 khq41 hHeld ⊢
    refine tk 0 (v := ?_) rfl (Or.inl ⟨by rfl, ?_⟩) ?_
    rotate_left
    · intro w9 hSw
      go_simp
      first | done | with_reducible rfl
    simp only [pP, pN, pS, pZ, pC]
    refine tk 1 (v := ?_) rfl (Or.inl ⟨by rfl, ?_⟩) ?_
    rotate_left
    · intro w9 hSw
      go_simp
      first | done | with_reducible rfl
    simp only [pP, pN, pS, pZ, pC]
    refine tk 2 (v := ?_) rfl (Or.inl ⟨by rfl, ?_⟩) ?_
    rotate_left
    · intro w9 hSw
      go_simp
      first | done | with_reducible rfl
    simp only [pP, pN, pS, pZ, pC]
    refine tk 3 (v := ?_) rfl (Or.inl ⟨by rfl, ?_⟩) ?_
    rotate_left
    · intro w9 hSw
      go_simp
      first | done | with_reducible rfl
    simp only [pP, pN, pS, pZ, pC]
    refine wpAnyH_ready (rs := [4, 10, 11]) (by kernel_rfl) (by simp) ?_
    refine consT rfl (fun K hK => ?_) ?_
    · skip
      go_simp
      refine Calls.mono (positive_is q41 (ln V1) (ln V1) _) ?_
      rintro e w4 ⟨rfl, bb⟩
      replace hBW := hBW.trans (bb.mono hBW.size)
      replace khp41 := khp41.later bb
      replace khq41 := khq41.later bb
      clear bb
      go_wp2_with fail
      refine hK.out _ _ (kp3 (W := w41y) hBW ⟨Qq00, Qq01, Qq02, hB⟩) ?_
      clear hHeld
      intro hHeld
      clear hK K
      try simp only [pP, pN, pS, pZ, pC]
      refine wpAnyH_ready (rs := [5, 10, 11]) (by kernel_rfl) (by simp) ?_
      refine consT rfl (fun K hK => ?_) ?_
      · skip
        go_simp
        refine Calls.mono (HF.out _ p41 q41 khp41 khq41) ?_
        rintro e w4_5 ⟨aq, ar, rfl, hF, hG⟩
        have bb := hF.below
        replace hF := hF.back hBW
        replace hG := hG.back hBW
        replace hBW := hBW.trans (bb.mono hBW.size)
        replace khp41 := khp41.later bb
        replace khq41 := khq41.later bb
        clear bb
        go_wp2_with fail
        refine hK.out _ _ (kp3 (W := w41y) hBW ⟨Qq00, Qq01, Qq02, hB⟩) ?_
        clear hHeld
        intro hHeld
        clear hK K
        try simp only [pP, pN, pS, pZ, pC]
        refine tk 6 (v := ?_) rfl (Or.inl ⟨by rfl, ?_⟩) ?_
        rotate_left
        · intro w9 hSw
          go_simp
          first | done | with_reducible rfl
        simp only [pP, pN, pS, pZ, pC]
        refine tk 7 (v := ?_) rfl (Or.inl ⟨by rfl, ?_⟩) ?_
        rotate_left
        · intro w9 hSw
          go_simp
          first | done | with_reducible rfl
        simp only [pP, pN, pS, pZ, pC]
        refine tk 8 (v := ?_) rfl (Or.inl ⟨by rfl, ?_⟩) ?_
        rotate_left
        · intro w9 hSw
          go_simp
          first | done | with_reducible rfl
        simp only [pP, pN, pS, pZ, pC]
        refine tk 9 (v := ?_) rfl (Or.inl ⟨by rfl, ?_⟩) ?_
        rotate_left
        · intro w9 hSw
          go_simp
          first | done | with_reducible rfl
        simp only [pP, pN, pS, pZ, pC]
        refine wpAnyH_ready (rs := [10, 11]) (by kernel_rfl) (by simp) ?_
        refine consT rfl (fun K hK => ?_) ?_
        · skip
          go_simp
          have bb := below_alloc (w := w4_5) (.cells #[.bool false, .slice none 0 0] 25)
          have lcge := hBW.size
          replace hBW := hBW.trans (bb.mono hBW.size)
          replace khp41 := khp41.later bb
          replace khq41 := khq41.later bb
          replace hF := hF.later bb
          replace hG := hG.later bb
          clear bb
          have lc0 : (w4_5.alloc (.cells #[.bool false, .slice none 0 0] 25)).cell? ⟨w4_5.heap.size, 0, none⟩ = some (.bool false) := by go_simp
          have lc1 : (w4_5.alloc (.cells #[.bool false, .slice none 0 0] 25)).cell? ⟨w4_5.heap.size, 1, none⟩ = some (.slice none 0 0) := by go_simp
          have lcR : Row (w4_5.alloc (.cells #[.bool false, .slice none 0 0] 25)) w4_5.heap.size := row_new w4_5 _ 25
          clear hHeld
          generalize (w4_5.alloc (.cells #[.bool false, .slice none 0 0] 25)) = w4_5_10 at hBW lc0 lc1 lcR khp41 khq41 hF hG ⊢
          generalize w4_5.heap.size = c at lcge lc0 lc1 lcR ⊢
          refine hK.out _ _ (kp3 (W := w41y) hBW ⟨Qq00, Qq01, Qq02, hB⟩) ?_
          intro hHeld
          clear hK K
          try simp only [pP, pN, pS, pZ, pC]
          refine wpAnyH_ready (rs := [11]) (by kernel_rfl) (by simp) ?_
          refine consT rfl (fun K hK => ?_) ?_
          · skip
            go_simp
            have bb := below_alloc (w := w4_5_10) (.cells #[.bool false, .slice none 0 0] 25)
            have ldge := hBW.size
            have lab := lcR.lt
            replace hBW := hBW.trans (bb.mono hBW.size)
            replace khp41 := khp41.later bb
            replace khq41 := khq41.later bb
            replace hF := hF.later bb
            replace hG := hG.later bb
            replace lc0 := below_cell bb lc0
            replace lc1 := below_cell bb lc1
            replace lcR := below_row bb lcR
            clear bb
            have ld0 : (w4_5_10.alloc (.cells #[.bool false, .slice none 0 0] 25)).cell? ⟨w4_5_10.heap.size, 0, none⟩ = some (.bool false) := by go_simp
            have ld1 : (w4_5_10.alloc (.cells #[.bool false, .slice none 0 0] 25)).cell? ⟨w4_5_10.heap.size, 1, none⟩ = some (.slice none 0 0) := by go_simp
            have ldR : Row (w4_5_10.alloc (.cells #[.bool false, .slice none 0 0] 25)) w4_5_10.heap.size := row_new w4_5_10 _ 25
            clear hHeld
            generalize (w4_5_10.alloc (.cells #[.bool false, .slice none 0 0] 25)) = w4_5_10_11 at hBW ld0 ld1 ldR lc0 lc1 lcR khp41 khq41 hF hG ⊢
            generalize w4_5_10.heap.size = d at ldge ld0 ld1 ldR lab ⊢
            refine hK.out _ _ (kp3 (W := w41y) hBW ⟨Qq00, Qq01, Qq02, hB⟩) ?_
            intro hHeld
            clear hK K
            try simp only [pP, pN, pS, pZ, pC]
            have lcd : c ≠ d := by omega
            clear lab
            refine wpAnyH_ready (rs := [12]) (by kernel_rfl) (by simp) ?_
            refine cons' rfl (fun K hK => ?_)
            have lf := fun o => lcR.frozen o
            have X := stored2 (u0 := .bool (ng Z)) (u1 := .slice aq (ln (am Z)) (ln (am Z))) lc0 lc1 ld0 ld1 ldR hBW lcge lcd hF
            go_simp
            clear lc0 lc1 ld0 ld1 lf lcR ldR hHeld hBW hF
            generalize ((w4_5_10_11.setCell ⟨c, 0, none⟩ (.bool (ng Z))).setCell ⟨c, 1, none⟩ (.slice aq (ln (am Z)) (ln (am Z)))) = wl1 at X ⊢
            obtain ⟨lc0, lc1, ld0, ld1, ldR, hBW, hF⟩ := X
            have lcR := ldR
            refine hK.out _ _ (kp3 (W := w41y) hBW ⟨Qq00, Qq01, Qq02, hB⟩) ?_
            intro hHeld
            clear hK K
            try simp only [pP, pN, pS, pZ, pC]
            refine wpAnyH_ready (rs := [13]) (by kernel_rfl) (by simp) ?_
            refine cons' rfl (fun K hK => ?_)
            have lf := fun o => ldR.frozen o
            have X := stored2 (u0 := .bool (ng G)) (u1 := .slice ar (ln (am G)) (ln (am G))) ld0 ld1 lc0 lc1 lcR hBW ldge lcd.symm hF
            go_simp
            clear ld0 ld1 lc0 lc1 lf ldR lcR hHeld hBW hF
            generalize ((wl1.setCell ⟨d, 0, none⟩ (.bool (ng G))).setCell ⟨d, 1, none⟩ (.slice ar (ln (am G)) (ln (am G)))) = wl2 at X ⊢
            obtain ⟨ld0, ld1, lc0, lc1, lcR, hBW, hF⟩ := X
            have ldR := lcR
            refine hK.out _ _ (kp3 (W := w41y) hBW ⟨Qq00, Qq01, Qq02, hB⟩) ?_
            intro hHeld
            clear hK K
            try simp only [pP, pN, pS, pZ, pC]
            refine tk 14 (v := ?_) rfl (Or.inl ⟨by rfl, ?_⟩) ?_
            rotate_left
            · intro w9 hSw
              go_simp
              first | done | with_reducible rfl
            simp only [pP, pN, pS, pZ, pC]
            refine wpAnyH_done (by kernel_rfl) ?_ _
            go_wp2_with fail
            go_meet
            exact ⟨c, aq, rfl, lcge, lc0, lc1, hF, hBW⟩
          exact AllReadyH.nil
        refine consT rfl (fun K hK => ?_) ?_
        · skip
          go_simp
          have bb := below_alloc (w := w4_5) (.cells #[.bool false, .slice none 0 0] 25)
          have ldge := hBW.size
          replace hBW := hBW.trans (bb.mono hBW.size)
          replace khp41 := khp41.later bb
          replace khq41 := khq41.later bb
          replace hF := hF.later bb
          replace hG := hG.later bb
          clear bb
          have ld0 : (w4_5.alloc (.cells #[.bool false, .slice none 0 0] 25)).cell? ⟨w4_5.heap.size, 0, none⟩ = some (.bool false) := by go_simp
          have ld1 : (w4_5.alloc (.cells #[.bool false, .slice none 0 0] 25)).cell? ⟨w4_5.heap.size, 1, none⟩ = some (.slice none 0 0) := by go_simp
          have ldR : Row (w4_5.alloc (.cells #[.bool false, .slice none 0 0] 25)) w4_5.heap.size := row_new w4_5 _ 25
          clear hHeld
          generalize (w4_5.alloc (.cells #[.bool false, .slice none 0 0] 25)) = w4_5_11 at hBW ld0 ld1 ldR khp41 khq41 hF hG ⊢
          generalize w4_5.heap.size = d at ldge ld0 ld1 ldR ⊢
          refine hK.out _ _ (kp3 (W := w41y) hBW ⟨Qq00, Qq01, Qq02, hB⟩) ?_
          intro hHeld
          clear hK K
          try simp only [pP, pN, pS, pZ, pC]
          refine wpAnyH_ready (rs := [10]) (by kernel_rfl) (by simp) ?_
          refine consT rfl (fun K hK => ?_) ?_
          · skip
            go_simp
            have bb := below_alloc (w := w4_5_11) (.cells #[.bool false, .slice none 0 0] 25)
            have lcge := hBW.size
            have lab := ldR.lt
            replace hBW := hBW.trans (bb.mono hBW.size)
            replace khp41 := khp41.later bb
            replace khq41 := khq41.later bb
            replace hF := hF.later bb
            replace hG := hG.later bb
            replace ld0 := below_cell bb ld0
            replace ld1 := below_cell bb ld1
            replace ldR := below_row bb ldR
            clear bb
            have lc0 : (w4_5_11.alloc (.cells #[.bool false, .slice none 0 0] 25)).cell? ⟨w4_5_11.heap.size, 0, none⟩ = some (.bool false) := by go_simp
            have lc1 : (w4_5_11.alloc (.cells #[.bool false, .slice none 0 0] 25)).cell? ⟨w4_5_11.heap.size, 1, none⟩ = some (.slice none 0 0) := by go_simp
            have lcR : Row (w4_5_11.alloc (.cells #[.bool false, .slice none 0 0] 25)) w4_5_11.heap.size := row_new w4_5_11 _ 25
            clear hHeld
            generalize (w4_5_11.alloc (.cells #[.bool false, .slice none 0 0] 25)) = w4_5_11_10 at hBW lc0 lc1 lcR ld0 ld1 ldR khp41 khq41 hF hG ⊢
            generalize w4_5_11.heap.size = c at lcge lc0 lc1 lcR lab ⊢
            refine hK.out _ _ (kp3 (W := w41y) hBW ⟨Qq00, Qq01, Qq02, hB⟩) ?_
            intro hHeld
            clear hK K
            try simp only [pP, pN, pS, pZ, pC]
            have lcd : c ≠ d := by omega
            clear lab
            refine wpAnyH_ready (rs := [12]) (by kernel_rfl) (by simp) ?_
            refine cons' rfl (fun K hK => ?_)
            have lf := fun o => lcR.frozen o
            have X := stored2 (u0 := .bool (ng Z)) (u1 := .slice aq (ln (am Z)) (ln (am Z))) lc0 lc1 ld0 ld1 ldR hBW lcge lcd hF
            go_simp
            clear lc0 lc1 ld0 ld1 lf lcR ldR hHeld hBW hF
            generalize ((w4_5_11_10.setCell ⟨c, 0, none⟩ (.bool (ng Z))).setCell ⟨c, 1, none⟩ (.slice aq (ln (am Z)) (ln (am Z)))) = wl1 at X ⊢
            obtain ⟨lc0, lc1, ld0, ld1, ldR, hBW, hF⟩ := X
            have lcR := ldR
            refine hK.out _ _ (kp3 (W := w41y) hBW ⟨Qq00, Qq01, Qq02, hB⟩) ?_
            intro hHeld
            clear hK K
            try simp only [pP, pN, pS, pZ, pC]
            refine wpAnyH_ready (rs := [13]) (by kernel_rfl) (by simp) ?_
            refine cons' rfl (fun K hK => ?_)
            have lf := fun o => ldR.frozen o
            have X := stored2 (u0 := .bool (ng G)) (u1 := .slice ar (ln (am G)) (ln (am G))) ld0 ld1 lc0 lc1 lcR hBW ldge lcd.symm hF
            go_simp
            clear ld0 ld1 lc0 lc1 lf ldR lcR hHeld hBW hF
            generalize ((wl1.setCell ⟨d, 0, none⟩ (.bool (ng G))).setCell ⟨d, 1, none⟩ (.slice ar (ln (am G)) (ln (am G)))) = wl2 at X ⊢
            obtain ⟨ld0, ld1, lc0, lc1, lcR, hBW, hF⟩ := X
            have ldR := lcR
            refine hK.out _ _ (kp3 (W := w41y) hBW ⟨Qq00, Qq01, Qq02, hB⟩) ?_
            intro hHeld
            clear hK K
            try simp only [pP, pN, pS, pZ, pC]
            refine tk 14 (v := ?_) rfl (Or.inl ⟨by rfl, ?_⟩) ?_
            rotate_left
            · intro w9 hSw
              go_simp
              first | done | with_reducible rfl
            simp only [pP, pN, pS, pZ, pC]
            refine wpAnyH_done (by kernel_rfl) ?_ _
            go_wp2_with fail
            go_meet
            exact ⟨c, aq, rfl, lcge, lc0, lc1, hF, hBW⟩
          exact AllReadyH.nil
        exact AllReadyH.nil
      refine consT rfl (fun K hK => ?_) ?_
      · skip
        go_simp
        have bb := below_alloc (w := w4) (.cells #[.bool false, .slice none 0 0] 25)
        have lcge := hBW.size
        replace hBW := hBW.trans (bb.mono hBW.size)
        replace khp41 := khp41.later bb
        replace khq41 := khq41.later bb
        clear bb
        have lc0 : (w4.alloc (.cells #[.bool false, .slice none 0 0] 25)).cell? ⟨w4.heap.size, 0, none⟩ = some (.bool false) := by go_simp
        have lc1 : (w4.alloc (.cells #[.bool false, .slice none 0 0] 25)).cell? ⟨w4.heap.size, 1, none⟩ = some (.slice none 0 0) := by go_simp
        have lcR : Row (w4.alloc (.cells #[.bool false, .slice none 0 0] 25)) w4.heap.size := row_new w4 _ 25
        clear hHeld
        generalize (w4.alloc (.cells #[.bool false, .slice none 0 0] 25)) = w4_10 at hBW lc0 lc1 lcR khp41 khq41 ⊢
        generalize w4.heap.size = c at lcge lc0 lc1 lcR ⊢
        refine hK.out _ _ (kp3 (W := w41y) hBW ⟨Qq00, Qq01, Qq02, hB⟩) ?_
        intro hHeld
        clear hK K
        try simp only [pP, pN, pS, pZ, pC]
        refine wpAnyH_ready (rs := [5, 11]) (by kernel_rfl) (by simp) ?_
        refine consT rfl (fun K hK => ?_) ?_
        · skip
          go_simp
          refine Calls.mono (HF.out _ p41 q41 khp41 khq41) ?_
          rintro e w4_10_5 ⟨aq, ar, rfl, hF, hG⟩
          have bb := hF.below
          replace hF := hF.back hBW
          replace hG := hG.back hBW
          replace hBW := hBW.trans (bb.mono hBW.size)
          replace khp41 := khp41.later bb
          replace khq41 := khq41.later bb
          replace lc0 := below_cell bb lc0
          replace lc1 := below_cell bb lc1
          replace lcR := below_row bb lcR
          clear bb
          go_wp2_with fail
          refine hK.out _ _ (kp3 (W := w41y) hBW ⟨Qq00, Qq01, Qq02, hB⟩) ?_
          clear hHeld
          intro hHeld
          clear hK K
          try simp only [pP, pN, pS, pZ, pC]
          refine tk 6 (v := ?_) rfl (Or.inl ⟨by rfl, ?_⟩) ?_
          rotate_left
          · intro w9 hSw
            go_simp
            first | done | with_reducible rfl
          simp only [pP, pN, pS, pZ, pC]
          refine tk 7 (v := ?_) rfl (Or.inl ⟨by rfl, ?_⟩) ?_
          rotate_left
          · intro w9 hSw
            go_simp
            first | done | with_reducible rfl
          simp only [pP, pN, pS, pZ, pC]
          refine tk 8 (v := ?_) rfl (Or.inl ⟨by rfl, ?_⟩) ?_
          rotate_left
          · intro w9 hSw
            go_simp
            first | done | with_reducible rfl
          simp only [pP, pN, pS, pZ, pC]
          refine tk 9 (v := ?_) rfl (Or.inl ⟨by rfl, ?_⟩) ?_
          rotate_left
          · intro w9 hSw
            go_simp
            first | done | with_reducible rfl
          simp only [pP, pN, pS, pZ, pC]
          refine wpAnyH_ready (rs := [11]) (by kernel_rfl) (by simp) ?_
          refine consT rfl (fun K hK => ?_) ?_
          · skip
            go_simp
            have bb := below_alloc (w := w4_10_5) (.cells #[.bool false, .slice none 0 0] 25)
            have ldge := hBW.size
            have lab := lcR.lt
            replace hBW := hBW.trans (bb.mono hBW.size)
            replace khp41 := khp41.later bb
            replace khq41 := khq41.later bb
            replace hF := hF.later bb
            replace hG := hG.later bb
            replace lc0 := below_cell bb lc0
            replace lc1 := below_cell bb lc1
            replace lcR := below_row bb lcR
            clear bb
            have ld0 : (w4_10_5.alloc (.cells #[.bool false, .slice none 0 0] 25)).cell? ⟨w4_10_5.heap.size, 0, none⟩ = some (.bool false) := by go_simp
            have ld1 : (w4_10_5.alloc (.cells #[.bool false, .slice none 0 0] 25)).cell? ⟨w4_10_5.heap.size, 1, none⟩ = some (.slice none 0 0) := by go_simp
            have ldR : Row (w4_10_5.alloc (.cells #[.bool false, .slice none 0 0] 25)) w4_10_5.heap.size := row_new w4_10_5 _ 25
            clear hHeld
            generalize (w4_10_5.alloc (.cells #[.bool false, .slice none 0 0] 25)) = w4_10_5_11 at hBW ld0 ld1 ldR lc0 lc1 lcR khp41 khq41 hF hG ⊢
            generalize w4_10_5.heap.size = d at ldge ld0 ld1 ldR lab ⊢
            refine hK.out _ _ (kp3 (W := w41y) hBW ⟨Qq00, Qq01, Qq02, hB⟩) ?_
            intro hHeld
            clear hK K
            try simp only [pP, pN, pS, pZ, pC]
            have lcd : c ≠ d := by omega
            clear lab
            refine wpAnyH_ready (rs := [12]) (by kernel_rfl) (by simp) ?_
            refine cons' rfl (fun K hK => ?_)
            have lf := fun o => lcR.frozen o
            have X := stored2 (u0 := .bool (ng Z)) (u1 := .slice aq (ln (am Z)) (ln (am Z))) lc0 lc1 ld0 ld1 ldR hBW lcge lcd hF
            go_simp
            clear lc0 lc1 ld0 ld1 lf lcR ldR hHeld hBW hF
            generalize ((w4_10_5_11.setCell ⟨c, 0, none⟩ (.bool (ng Z))).setCell ⟨c, 1, none⟩ (.slice aq (ln (am Z)) (ln (am Z)))) = wl1 at X ⊢
            obtain ⟨lc0, lc1, ld0, ld1, ldR, hBW, hF⟩ := X
            have lcR := ldR
            refine hK.out _ _ (kp3 (W := w41y) hBW ⟨Qq00, Qq01, Qq02, hB⟩) ?_
            intro hHeld
            clear hK K
            try simp only [pP, pN, pS, pZ, pC]
            refine wpAnyH_ready (rs := [13]) (by kernel_rfl) (by simp) ?_
            refine cons' rfl (fun K hK => ?_)
            have lf := fun o => ldR.frozen o
            have X := stored2 (u0 := .bool (ng G)) (u1 := .slice ar (ln (am G)) (ln (am G))) ld0 ld1 lc0 lc1 lcR hBW ldge lcd.symm hF
            go_simp
            clear ld0 ld1 lc0 lc1 lf ldR lcR hHeld hBW hF
            generalize ((wl1.setCell ⟨d, 0, none⟩ (.bool (ng G))).setCell ⟨d, 1, none⟩ (.slice ar (ln (am G)) (ln (am G)))) = wl2 at X ⊢
            obtain ⟨ld0, ld1, lc0, lc1, lcR, hBW, hF⟩ := X
            have ldR := lcR
            refine hK.out _ _ (kp3 (W := w41y) hBW ⟨Qq00, Qq01, Qq02, hB⟩) ?_
            intro hHeld
            clear hK K
            try simp only [pP, pN, pS, pZ, pC]
            refine tk 14 (v := ?_) rfl (Or.inl ⟨by rfl, ?_⟩) ?_
            rotate_left
            · intro w9 hSw
              go_simp
              first | done | with_reducible rfl
            simp only [pP, pN, pS, pZ, pC]
            refine wpAnyH_done (by kernel_rfl) ?_ _
            go_wp2_with fail
            go_meet
            exact ⟨c, aq, rfl, lcge, lc0, lc1, hF, hBW⟩
          exact AllReadyH.nil
        refine consT rfl (fun K hK => ?_) ?_
        · skip
          go_simp
          have bb := below_alloc (w := w4_10) (.cells #[.bool false, .slice none 0 0] 25)
          have ldge := hBW.size
          have lab := lcR.lt
          replace hBW := hBW.trans (bb.mono hBW.size)
          replace khp41 := khp41.later bb
          replace khq41 := khq41.later bb
          replace lc0 := below_cell bb lc0
          replace lc1 := below_cell bb lc1
          replace lcR := below_row bb lcR
          clear bb
          have ld0 : (w4_10.alloc (.cells #[.bool false, .slice none 0 0] 25)).cell? ⟨w4_10.heap.size, 0, none⟩ = some (.bool false) := by go_simp
          have ld1 : (w4_10.alloc (.cells #[.bool false, .slice none 0 0] 25)).cell? ⟨w4_10.heap.size, 1, none⟩ = some (.slice none 0 0) := by go_simp
          have ldR : Row (w4_10.alloc (.cells #[.bool false, .slice none 0 0] 25)) w4_10.heap.size := row_new w4_10 _ 25
          clear hHeld
          generalize (w4_10.alloc (.cells #[.bool false, .slice none 0 0] 25)) = w4_10_11 at hBW ld0 ld1 ldR lc0 lc1 lcR khp41 khq41 ⊢
          generalize w4_10.heap.size = d at ldge ld0 ld1 ldR lab ⊢
          refine hK.out _ _ (kp3 (W := w41y) hBW ⟨Qq00, Qq01, Qq02, hB⟩) ?_
          intro hHeld
          clear hK K
          try simp only [pP, pN, pS, pZ, pC]
          refine wpAnyH_ready (rs := [5]) (by kernel_rfl) (by simp) ?_
          refine consT rfl (fun K hK => ?_) ?_
          · skip
            go_simp
            refine Calls.mono (HF.out _ p41 q41 khp41 khq41) ?_
            rintro e w4_10_11_5 ⟨aq, ar, rfl, hF, hG⟩
            have bb := hF.below
            replace hF := hF.back hBW
            replace hG := hG.back hBW
            replace hBW := hBW.trans (bb.mono hBW.size)
            replace khp41 := khp41.later bb
            replace khq41 := khq41.later bb
            replace lc0 := below_cell bb lc0
            replace lc1 := below_cell bb lc1
            replace lcR := below_row bb lcR
            replace ld0 := below_cell bb ld0
            replace ld1 := below_cell bb ld1
            replace ldR := below_row bb ldR
            clear bb
            go_wp2_with fail
            refine hK.out _ _ (kp3 (W := w41y) hBW ⟨Qq00, Qq01, Qq02, hB⟩) ?_
            clear hHeld
            intro hHeld
            clear hK K
            try simp only [pP, pN, pS, pZ, pC]
            refine tk 6 (v := ?_) rfl (Or.inl ⟨by rfl, ?_⟩) ?_
            rotate_left
            · intro w9 hSw
              go_simp
              first | done | with_reducible rfl
            simp only [pP, pN, pS, pZ, pC]
            refine tk 7 (v := ?_) rfl (Or.inl ⟨by rfl, ?_⟩) ?_
            rotate_left
            · intro w9 hSw
              go_simp
              first | done | with_reducible rfl
            simp only [pP, pN, pS, pZ, pC]
            refine tk 8 (v := ?_) rfl (Or.inl ⟨by rfl, ?_⟩) ?_
            rotate_left
            · intro w9 hSw
              go_simp
              first | done | with_reducible rfl
            simp only [pP, pN, pS, pZ, pC]
            refine tk 9 (v := ?_) rfl (Or.inl ⟨by rfl, ?_⟩) ?_
            rotate_left
            · intro w9 hSw
              go_simp
              first | done | with_reducible rfl
            simp only [pP, pN, pS, pZ, pC]
            have lcd : c ≠ d := by omega
            clear lab
            refine wpAnyH_ready (rs := [12]) (by kernel_rfl) (by simp) ?_
            refine cons' rfl (fun K hK => ?_)
            have lf := fun o => lcR.frozen o
            have X := stored2 (u0 := .bool (ng Z)) (u1 := .slice aq (ln (am Z)) (ln (am Z))) lc0 lc1 ld0 ld1 ldR hBW lcge lcd hF
            go_simp
            clear lc0 lc1 ld0 ld1 lf lcR ldR hHeld hBW hF
            generalize ((w4_10_11_5.setCell ⟨c, 0, none⟩ (.bool (ng Z))).setCell ⟨c, 1, none⟩ (.slice aq (ln (am Z)) (ln (am Z)))) = wl1 at X ⊢
            obtain ⟨lc0, lc1, ld0, ld1, ldR, hBW, hF⟩ := X
            have lcR := ldR
            refine hK.out _ _ (kp3 (W := w41y) hBW ⟨Qq00, Qq01, Qq02, hB⟩) ?_
            intro hHeld
            clear hK K
            try simp only [pP, pN, pS, pZ, pC]
            refine wpAnyH_ready (rs := [13]) (by kernel_rfl) (by simp) ?_
            refine cons' rfl (fun K hK => ?_)
            have lf := fun o => ldR.frozen o
            have X := stored2 (u0 := .bool (ng G)) (u1 := .slice ar (ln (am G)) (ln (am G))) ld0 ld1 lc0 lc1 lcR hBW ldge lcd.symm hF
            go_simp
            clear ld0 ld1 lc0 lc1 lf ldR lcR hHeld hBW hF
            generalize ((wl1.setCell ⟨d, 0, none⟩ (.bool (ng G))).setCell ⟨d, 1, none⟩ (.slice ar (ln (am G)) (ln (am G)))) = wl2 at X ⊢
            obtain ⟨ld0, ld1, lc0, lc1, lcR, hBW, hF⟩ := X
            have ldR := lcR
            refine hK.out _ _ (kp3 (W := w41y) hBW ⟨Qq00, Qq01, Qq02, hB⟩) ?_
            intro hHeld
            clear hK K
            try simp only [pP, pN, pS, pZ, pC]
            refine tk 14 (v := ?_) rfl (Or.inl ⟨by rfl, ?_⟩) ?_
            rotate_left
            · intro w9 hSw
              go_simp
              first | done | with_reducible rfl
            simp only [pP, pN, pS, pZ, pC]
            refine wpAnyH_done (by kernel_rfl) ?_ _
            go_wp2_with fail
            go_meet
            exact ⟨c, aq, rfl, lcge, lc0, lc1, hF, hBW⟩
          exact AllReadyH.nil
        exact AllReadyH.nil
      refine consT rfl (fun K hK => ?_) ?_
      · skip
        go_simp
        have bb := below_alloc (w := w4) (.cells #[.bool false, .slice none 0 0] 25)
        have ldge := hBW.size
        replace hBW := hBW.trans (bb.mono hBW.size)
        replace khp41 := khp41.later bb
        replace khq41 := khq41.later bb
        clear bb
        have ld0 : (w4.alloc (.cells #[.bool false, .slice none 0 0] 25)).cell? ⟨w4.heap.size, 0, none⟩ = some (.bool false) := by go_simp
        have ld1 : (w4.alloc (.cells #[.bool false, .slice none 0 0] 25)).cell? ⟨w4.heap.size, 1, none⟩ = some (.slice none 0 0) := by go_simp
        have ldR : Row (w4.alloc (.cells #[.bool false, .slice none 0 0] 25)) w4.heap.size := row_new w4 _ 25
        clear hHeld
        generalize (w4.alloc (.cells #[.bool false, .slice none 0 0] 25)) = w4_11 at hBW ld0 ld1 ldR khp41 khq41 ⊢
        generalize w4.heap.size = d at ldge ld0 ld1 ldR ⊢
        refine hK.out _ _ (kp3 (W := w41y) hBW ⟨Qq00, Qq01, Qq02, hB⟩) ?_
        intro hHeld
        clear hK K
        try simp only [pP, pN, pS, pZ, pC]
        refine wpAnyH_ready (rs := [5, 10]) (by kernel_rfl) (by simp) ?_
        refine consT rfl (fun K hK => ?_) ?_
        · skip
          go_simp
          refine Calls.mono (HF.out _ p41 q41 khp41 khq41) ?_
          rintro e w4_11_5 ⟨aq, ar, rfl, hF, hG⟩
          have bb := hF.below
          replace hF := hF.back hBW
          replace hG := hG.back hBW
          replace hBW := hBW.trans (bb.mono hBW.size)
          replace khp41 := khp41.later bb
          replace khq41 := khq41.later bb
          replace ld0 := below_cell bb ld0
          replace ld1 := below_cell bb ld1
          replace ldR := below_row bb ldR
          clear bb
          go_wp2_with fail
          refine hK.out _ _ (kp3 (W := w41y) hBW ⟨Qq00, Qq01, Qq02, hB⟩) ?_
          clear hHeld
          intro hHeld
          clear hK K
          try simp only [pP, pN, pS, pZ, pC]
          refine tk 6 (v := ?_) rfl (Or.inl ⟨by rfl, ?_⟩) ?_
          rotate_left
          · intro w9 hSw
            go_simp
            first | done | with_reducible rfl
          simp only [pP, pN, pS, pZ, pC]
          refine tk 7 (v := ?_) rfl (Or.inl ⟨by rfl, ?_⟩) ?_
          rotate_left
          · intro w9 hSw
            go_simp
            first | done | with_reducible rfl
          simp only [pP, pN, pS, pZ, pC]
          refine tk 8 (v := ?_) rfl (Or.inl ⟨by rfl, ?_⟩) ?_
          rotate_left
          · intro w9 hSw
            go_simp
            first | done | with_reducible rfl
          simp only [pP, pN, pS, pZ, pC]
          refine tk 9 (v := ?_) rfl (Or.inl ⟨by rfl, ?_⟩) ?_
          rotate_left
          · intro w9 hSw
            go_simp
            first | done | with_reducible rfl
          simp only [pP, pN, pS, pZ, pC]
          refine wpAnyH_ready (rs := [10]) (by kernel_rfl) (by simp) ?_
          refine consT rfl (fun K hK => ?_) ?_
          · skip
            go_simp
            have bb := below_alloc (w := w4_11_5) (.cells #[.bool false, .slice none 0 0] 25)
            have lcge := hBW.size
            have lab := ldR.lt
            replace hBW := hBW.trans (bb.mono hBW.size)
            replace khp41 := khp41.later bb
            replace khq41 := khq41.later bb
            replace hF := hF.later bb
            replace hG := hG.later bb
            replace ld0 := below_cell bb ld0
            replace ld1 := below_cell bb ld1
            replace ldR := below_row bb ldR
            clear bb
            have lc0 : (w4_11_5.alloc (.cells #[.bool false, .slice none 0 0] 25)).cell? ⟨w4_11_5.heap.size, 0, none⟩ = some (.bool false) := by go_simp
            have lc1 : (w4_11_5.alloc (.cells #[.bool false, .slice none 0 0] 25)).cell? ⟨w4_11_5.heap.size, 1, none⟩ = some (.slice none 0 0) := by go_simp
            have lcR : Row (w4_11_5.alloc (.cells #[.bool false, .slice none 0 0] 25)) w4_11_5.heap.size := row_new w4_11_5 _ 25
            clear hHeld
            generalize (w4_11_5.alloc (.cells #[.bool false, .slice none 0 0] 25)) = w4_11_5_10 at hBW lc0 lc1 lcR ld0 ld1 ldR khp41 khq41 hF hG ⊢
            generalize w4_11_5.heap.size = c at lcge lc0 lc1 lcR lab ⊢
            refine hK.out _ _ (kp3 (W := w41y) hBW ⟨Qq00, Qq01, Qq02, hB⟩) ?_
            intro hHeld
            clear hK K
            try simp only [pP, pN, pS, pZ, pC]
            have lcd : c ≠ d := by omega
            clear lab
            refine wpAnyH_ready (rs := [12]) (by kernel_rfl) (by simp) ?_
            refine cons' rfl (fun K hK => ?_)
            have lf := fun o => lcR.frozen o
            have X := stored2 (u0 := .bool (ng Z)) (u1 := .slice aq (ln (am Z)) (ln (am Z))) lc0 lc1 ld0 ld1 ldR hBW lcge lcd hF
            go_simp
            clear lc0 lc1 ld0 ld1 lf lcR ldR hHeld hBW hF
            generalize ((w4_11_5_10.setCell ⟨c, 0, none⟩ (.bool (ng Z))).setCell ⟨c, 1, none⟩ (.slice aq (ln (am Z)) (ln (am Z)))) = wl1 at X ⊢
            obtain ⟨lc0, lc1, ld0, ld1, ldR, hBW, hF⟩ := X
            have lcR := ldR
            refine hK.out _ _ (kp3 (W := w41y) hBW ⟨Qq00, Qq01, Qq02, hB⟩) ?_
            intro hHeld
            clear hK K
            try simp only [pP, pN, pS, pZ, pC]
            refine wpAnyH_ready (rs := [13]) (by kernel_rfl) (by simp) ?_
            refine cons' rfl (fun K hK => ?_)
            have lf := fun o => ldR.frozen o
            have X := stored2 (u0 := .bool (ng G)) (u1 := .slice ar (ln (am G)) (ln (am G))) ld0 ld1 lc0 lc1 lcR hBW ldge lcd.symm hF
            go_simp
            clear ld0 ld1 lc0 lc1 lf ldR lcR hHeld hBW hF
            generalize ((wl1.setCell ⟨d, 0, none⟩ (.bool (ng G))).setCell ⟨d, 1, none⟩ (.slice ar (ln (am G)) (ln (am G)))) = wl2 at X ⊢
            obtain ⟨ld0, ld1, lc0, lc1, lcR, hBW, hF⟩ := X
            have ldR := lcR
            refine hK.out _ _ (kp3 (W := w41y) hBW ⟨Qq00, Qq01, Qq02, hB⟩) ?_
            intro hHeld
            clear hK K
            try simp only [pP, pN, pS, pZ, pC]
            refine tk 14 (v := ?_) rfl (Or.inl ⟨by rfl, ?_⟩) ?_
            rotate_left
            · intro w9 hSw
              go_simp
              first | done | with_reducible rfl
            simp only [pP, pN, pS, pZ, pC]
            refine wpAnyH_done (by kernel_rfl) ?_ _
            go_wp2_with fail
            go_meet
            exact ⟨c, aq, rfl, lcge, lc0, lc1, hF, hBW⟩
          exact AllReadyH.nil
        refine consT rfl (fun K hK => ?_) ?_
        · skip
          go_simp
          have bb := below_alloc (w := w4_11) (.cells #[.bool false, .slice none 0 0] 25)
          have lcge := hBW.size
          have lab := ldR.lt
          replace hBW := hBW.trans (bb.mono hBW.size)
          replace khp41 := khp41.later bb
          replace khq41 := khq41.later bb
          replace ld0 := below_cell bb ld0
          replace ld1 := below_cell bb ld1
          replace ldR := below_row bb ldR
          clear bb
          have lc0 : (w4_11.alloc (.cells #[.bool false, .slice none 0 0] 25)).cell? ⟨w4_11.heap.size, 0, none⟩ = some (.bool false) := by go_simp
          have lc1 : (w4_11.alloc (.cells #[.bool false, .slice none 0 0] 25)).cell? ⟨w4_11.heap.size, 1, none⟩ = some (.slice none 0 0) := by go_simp
          have lcR : Row (w4_11.alloc (.cells #[.bool false, .slice none 0 0] 25)) w4_11.heap.size := row_new w4_11 _ 25
          clear hHeld
          generalize (w4_11.alloc (.cells #[.bool false, .slice none 0 0] 25)) = w4_11_10 at hBW lc0 lc1 lcR ld0 ld1 ldR khp41 khq41 ⊢
          generalize w4_11.heap.size = c at lcge lc0 lc1 lcR lab ⊢
          refine hK.out _ _ (kp3 (W := w41y) hBW ⟨Qq00, Qq01, Qq02, hB⟩) ?_
          intro hHeld
          clear hK K
          try simp only [pP, pN, pS, pZ, pC]
          refine wpAnyH_ready (rs := [5]) (by kernel_rfl) (by simp) ?_
          refine consT rfl (fun K hK => ?_) ?_
          · skip
            go_simp
            refine Calls.mono (HF.out _ p41 q41 khp41 khq41) ?_
            rintro e w4_11_10_5 ⟨aq, ar, rfl, hF, hG⟩
            have bb := hF.below
            replace hF := hF.back hBW
            replace hG := hG.back hBW
            replace hBW := hBW.trans (bb.mono hBW.size)
            replace khp41 := khp41.later bb
            replace khq41 := khq41.later bb
            replace lc0 := below_cell bb lc0
            replace lc1 := below_cell bb lc1
            replace lcR := below_row bb lcR
            replace ld0 := below_cell bb ld0
            replace ld1 := below_cell bb ld1
            replace ldR := below_row bb ldR
            clear bb
            go_wp2_with fail
            refine hK.out _ _ (kp3 (W := w41y) hBW ⟨Qq00, Qq01, Qq02, hB⟩) ?_
            clear hHeld
            intro hHeld
            clear hK K
            try simp only [pP, pN, pS, pZ, pC]
            refine tk 6 (v := ?_) rfl (Or.inl ⟨by rfl, ?_⟩) ?_
            rotate_left
            · intro w9 hSw
              go_simp
              first | done | with_reducible rfl
            simp only [pP, pN, pS, pZ, pC]
            refine tk 7 (v := ?_) rfl (Or.inl ⟨by rfl, ?_⟩) ?_
            rotate_left
            · intro w9 hSw
              go_simp
              first | done | with_reducible rfl
            simp only [pP, pN, pS, pZ, pC]
            refine tk 8 (v := ?_) rfl (Or.inl ⟨by rfl, ?_⟩) ?_
            rotate_left
            · intro w9 hSw
              go_simp
              first | done | with_reducible rfl
            simp only [pP, pN, pS, pZ, pC]
            refine tk 9 (v := ?_) rfl (Or.inl ⟨by rfl, ?_⟩) ?_
            rotate_left
            · intro w9 hSw
              go_simp
              first | done | with_reducible rfl
            simp only [pP, pN, pS, pZ, pC]
            have lcd : c ≠ d := by omega
            clear lab
            refine wpAnyH_ready (rs := [12]) (by kernel_rfl) (by simp) ?_
            refine cons' rfl (fun K hK => ?_)
            have lf := fun o => lcR.frozen o
            have X := stored2 (u0 := .bool (ng Z)) (u1 := .slice aq (ln (am Z)) (ln (am Z))) lc0 lc1 ld0 ld1 ldR hBW lcge lcd hF
            go_simp
            clear lc0 lc1 ld0 ld1 lf lcR ldR hHeld hBW hF
            generalize ((w4_11_10_5.setCell ⟨c, 0, none⟩ (.bool (ng Z))).setCell ⟨c, 1, none⟩ (.slice aq (ln (am Z)) (ln (am Z)))) = wl1 at X ⊢
            obtain ⟨lc0, lc1, ld0, ld1, ldR, hBW, hF⟩ := X
            have lcR := ldR
            refine hK.out _ _ (kp3 (W := w41y) hBW ⟨Qq00, Qq01, Qq02, hB⟩) ?_
            intro hHeld
            clear hK K
            try simp only [pP, pN, pS, pZ, pC]
            refine wpAnyH_ready (rs := [13]) (by kernel_rfl) (by simp) ?_
            refine cons' rfl (fun K hK => ?_)
            have lf := fun o => ldR.frozen o
            have X := stored2 (u0 := .bool (ng G)) (u1 := .slice ar (ln (am G)) (ln (am G))) ld0 ld1 lc0 lc1 lcR hBW ldge lcd.symm hF
            go_simp
            clear ld0 ld1 lc0 lc1 lf ldR lcR hHeld hBW hF
            generalize ((wl1.setCell ⟨d, 0, none⟩ (.bool (ng G))).setCell ⟨d, 1, none⟩ (.slice ar (ln (am G)) (ln (am G)))) = wl2 at X ⊢
            obtain ⟨ld0, ld1, lc0, lc1, lcR, hBW, hF⟩ := X
            have ldR := lcR
            refine hK.out _ _ (kp3 (W := w41y) hBW ⟨Qq00, Qq01, Qq02, hB⟩) ?_
            intro hHeld
            clear hK K
            try simp only [pP, pN, pS, pZ, pC]
            refine tk 14 (v := ?_) rfl (Or.inl ⟨by rfl, ?_⟩) ?_
            rotate_left
            · intro w9 hSw
              go_simp
              first | done | with_reducible rfl
            simp only [pP, pN, pS, pZ, pC]
            refine wpAnyH_done (by kernel_rfl) ?_ _
            go_wp2_with fail
            go_meet
            exact ⟨c, aq, rfl, lcge, lc0, lc1, hF, hBW⟩
          exact AllReadyH.nil
        exact AllReadyH.nil
      exact AllReadyH.nil
    refine consT rfl (fun K hK => ?_) ?_
    · skip
      go_simp
      have bb := below_alloc (w := w0) (.cells #[.bool false, .slice none 0 0] 25)
      have lcge := hBW.size
      replace hBW := hBW.trans (bb.mono hBW.size)
      replace khp41 := khp41.later bb
      replace khq41 := khq41.later bb
      clear bb
      have lc0 : (w0.alloc (.cells #[.bool false, .slice none 0 0] 25)).cell? ⟨w0.heap.size, 0, none⟩ = some (.bool false) := by go_simp
      have lc1 : (w0.alloc (.cells #[.bool false, .slice none 0 0] 25)).cell? ⟨w0.heap.size, 1, none⟩ = some (.slice none 0 0) := by go_simp
      have lcR : Row (w0.alloc (.cells #[.bool false, .slice none 0 0] 25)) w0.heap.size := row_new w0 _ 25
      clear hHeld
      generalize (w0.alloc (.cells #[.bool false, .slice none 0 0] 25)) = w10 at hBW lc0 lc1 lcR khp41 khq41 ⊢
      generalize w0.heap.size = c at lcge lc0 lc1 lcR ⊢
      refine hK.out _ _ (kp3 (W := w41y) hBW ⟨Qq00, Qq01, Qq02, hB⟩) ?_
      intro hHeld
      clear hK K
      try simp only [pP, pN, pS, pZ, pC]
      refine wpAnyH_ready (rs := [4, 11]) (by kernel_rfl) (by simp) ?_
      refine consT rfl (fun K hK => ?_) ?_
      · skip
        go_simp
        refine Calls.mono (positive_is q41 (ln V1) (ln V1) _) ?_
        rintro e w10_4 ⟨rfl, bb⟩
        replace hBW := hBW.trans (bb.mono hBW.size)
        replace khp41 := khp41.later bb
        replace khq41 := khq41.later bb
        replace lc0 := below_cell bb lc0
        replace lc1 := below_cell bb lc1
        replace lcR := below_row bb lcR
        clear bb
        go_wp2_with fail
        refine hK.out _ _ (kp3 (W := w41y) hBW ⟨Qq00, Qq01, Qq02, hB⟩) ?_
        clear hHeld
        intro hHeld
        clear hK K
        try simp only [pP, pN, pS, pZ, pC]
        refine wpAnyH_ready (rs := [5, 11]) (by kernel_rfl) (by simp) ?_
        refine consT rfl (fun K hK => ?_) ?_
        · skip
          go_simp
          refine Calls.mono (HF.out _ p41 q41 khp41 khq41) ?_
          rintro e w10_4_5 ⟨aq, ar, rfl, hF, hG⟩
          have bb := hF.below
          replace hF := hF.back hBW
          replace hG := hG.back hBW
          replace hBW := hBW.trans (bb.mono hBW.size)
          replace khp41 := khp41.later bb
          replace khq41 := khq41.later bb
          replace lc0 := below_cell bb lc0
          replace lc1 := below_cell bb lc1
          replace lcR := below_row bb lcR
          clear bb
          go_wp2_with fail
          refine hK.out _ _ (kp3 (W := w41y) hBW ⟨Qq00, Qq01, Qq02, hB⟩) ?_
          clear hHeld
          intro hHeld
          clear hK K
          try simp only [pP, pN, pS, pZ, pC]
          refine tk 6 (v := ?_) rfl (Or.inl ⟨by rfl, ?_⟩) ?_
          rotate_left
          · intro w9 hSw
            go_simp
            first | done | with_reducible rfl
          simp only [pP, pN, pS, pZ, pC]
          refine tk 7 (v := ?_) rfl (Or.inl ⟨by rfl, ?_⟩) ?_
          rotate_left
          · intro w9 hSw
            go_simp
            first | done | with_reducible rfl
          simp only [pP, pN, pS, pZ, pC]
          refine tk 8 (v := ?_) rfl (Or.inl ⟨by rfl, ?_⟩) ?_
          rotate_left
          · intro w9 hSw
            go_simp
            first | done | with_reducible rfl
          simp only [pP, pN, pS, pZ, pC]
          refine tk 9 (v := ?_) rfl (Or.inl ⟨by rfl, ?_⟩) ?_
          rotate_left
          · intro w9 hSw
            go_simp
            first | done | with_reducible rfl
          simp only [pP, pN, pS, pZ, pC]
          refine wpAnyH_ready (rs := [11]) (by kernel_rfl) (by simp) ?_
          refine consT rfl (fun K hK => ?_) ?_
          · skip
            go_simp
            have bb := below_alloc (w := w10_4_5) (.cells #[.bool false, .slice none 0 0] 25)
            have ldge := hBW.size
            have lab := lcR.lt
            replace hBW := hBW.trans (bb.mono hBW.size)
            replace khp41 := khp41.later bb
            replace khq41 := khq41.later bb
            replace hF := hF.later bb
            replace hG := hG.later bb
            replace lc0 := below_cell bb lc0
            replace lc1 := below_cell bb lc1
            replace lcR := below_row bb lcR
            clear bb
            have ld0 : (w10_4_5.alloc (.cells #[.bool false, .slice none 0 0] 25)).cell? ⟨w10_4_5.heap.size, 0, none⟩ = some (.bool false) := by go_simp
            have ld1 : (w10_4_5.alloc (.cells #[.bool false, .slice none 0 0] 25)).cell? ⟨w10_4_5.heap.size, 1, none⟩ = some (.slice none 0 0) := by go_simp
            have ldR : Row (w10_4_5.alloc (.cells #[.bool false, .slice none 0 0] 25)) w10_4_5.heap.size := row_new w10_4_5 _ 25
            clear hHeld
            generalize (w10_4_5.alloc (.cells #[.bool false, .slice none 0 0] 25)) = w10_4_5_11 at hBW ld0 ld1 ldR lc0 lc1 lcR khp41 khq41 hF hG ⊢
            generalize w10_4_5.heap.size = d at ldge ld0 ld1 ldR lab ⊢
            refine hK.out _ _ (kp3 (W := w41y) hBW ⟨Qq00, Qq01, Qq02, hB⟩) ?_
            intro hHeld
            clear hK K
            try simp only [pP, pN, pS, pZ, pC]
            have lcd : c ≠ d := by omega
            clear lab
            refine wpAnyH_ready (rs := [12]) (by kernel_rfl) (by simp) ?_
            refine cons' rfl (fun K hK => ?_)
            have lf := fun o => lcR.frozen o
            have X := stored2 (u0 := .bool (ng Z)) (u1 := .slice aq (ln (am Z)) (ln (am Z))) lc0 lc1 ld0 ld1 ldR hBW lcge lcd hF
            go_simp
            clear lc0 lc1 ld0 ld1 lf lcR ldR hHeld hBW hF
            generalize ((w10_4_5_11.setCell ⟨c, 0, none⟩ (.bool (ng Z))).setCell ⟨c, 1, none⟩ (.slice aq (ln (am Z)) (ln (am Z)))) = wl1 at X ⊢
            obtain ⟨lc0, lc1, ld0, ld1, ldR, hBW, hF⟩ := X
            have lcR := ldR
            refine hK.out _ _ (kp3 (W := w41y) hBW ⟨Qq00, Qq01, Qq02, hB⟩) ?_
            intro hHeld
            clear hK K
            try simp only [pP, pN, pS, pZ, pC]
            refine wpAnyH_ready (rs := [13]) (by kernel_rfl) (by simp) ?_
            refine cons' rfl (fun K hK => ?_)
            have lf := fun o => ldR.frozen o
            have X := stored2 (u0 := .bool (ng G)) (u1 := .slice ar (ln (am G)) (ln (am G))) ld0 ld1 lc0 lc1 lcR hBW ldge lcd.symm hF
            go_simp
            clear ld0 ld1 lc0 lc1 lf ldR lcR hHeld hBW hF
            generalize ((wl1.setCell ⟨d, 0, none⟩ (.bool (ng G))).setCell ⟨d, 1, none⟩ (.slice ar (ln (am G)) (ln (am G)))) = wl2 at X ⊢
            obtain ⟨ld0, ld1, lc0, lc1, lcR, hBW, hF⟩ := X
            have ldR := lcR
            refine hK.out _ _ (kp3 (W := w41y) hBW ⟨Qq00, Qq01, Qq02, hB⟩) ?_
            intro hHeld
            clear hK K
            try simp only [pP, pN, pS, pZ, pC]
            refine tk 14 (v := ?_) rfl (Or.inl ⟨by rfl, ?_⟩) ?_
            rotate_left
            · intro w9 hSw
              go_simp
              first | done | with_reducible rfl
            simp only [pP, pN, pS, pZ, pC]
            refine wpAnyH_done (by kernel_rfl) ?_ _
            go_wp2_with fail
            go_meet
            exact ⟨c, aq, rfl, lcge, lc0, lc1, hF, hBW⟩
          exact AllReadyH.nil
        refine consT rfl (fun K hK => ?_) ?_
        · skip
          go_simp
          have bb := below_alloc (w := w10_4) (.cells #[.bool false, .slice none 0 0] 25)
          have ldge := hBW.size
          have lab := lcR.lt
          replace hBW := hBW.trans (bb.mono hBW.size)
          replace khp41 := khp41.later bb
          replace khq41 := khq41.later bb
          replace lc0 := below_cell bb lc0
          replace lc1 := below_cell bb lc1
          replace lcR := below_row bb lcR
          clear bb
          have ld0 : (w10_4.alloc (.cells #[.bool false, .slice none 0 0] 25)).cell? ⟨w10_4.heap.size, 0, none⟩ = some (.bool false) := by go_simp
          have ld1 : (w10_4.alloc (.cells #[.bool false, .slice none 0 0] 25)).cell? ⟨w10_4.heap.size, 1, none⟩ = some (.slice none 0 0) := by go_simp
          have ldR : Row (w10_4.alloc (.cells #[.bool false, .slice none 0 0] 25)) w10_4.heap.size := row_new w10_4 _ 25
          clear hHeld
          generalize (w10_4.alloc (.cells #[.bool false, .slice none 0 0] 25)) = w10_4_11 at hBW ld0 ld1 ldR lc0 lc1 lcR khp41 khq41 ⊢
          generalize w10_4.heap.size = d at ldge ld0 ld1 ldR lab ⊢
          refine hK.out _ _ (kp3 (W := w41y) hBW ⟨Qq00, Qq01, Qq02, hB⟩) ?_
          intro hHeld
          clear hK K
          try simp only [pP, pN, pS, pZ, pC]
          refine wpAnyH_ready (rs := [5]) (by kernel_rfl) (by simp) ?_
          refine consT rfl (fun K hK => ?_) ?_
          · skip
            go_simp
            refine Calls.mono (HF.out _ p41 q41 khp41 khq41) ?_
            rintro e w10_4_11_5 ⟨aq, ar, rfl, hF, hG⟩
            have bb := hF.below
            replace hF := hF.back hBW
            replace hG := hG.back hBW
            replace hBW := hBW.trans (bb.mono hBW.size)
            replace khp41 := khp41.later bb
            replace khq41 := khq41.later bb
            replace lc0 := below_cell bb lc0
            replace lc1 := below_cell bb lc1
            replace lcR := below_row bb lcR
            replace ld0 := below_cell bb ld0
            replace ld1 := below_cell bb ld1
            replace ldR := below_row bb ldR
            clear bb
            go_wp2_with fail
            refine hK.out _ _ (kp3 (W := w41y) hBW ⟨Qq00, Qq01, Qq02, hB⟩) ?_
            clear hHeld
            intro hHeld
            clear hK K
            try simp only [pP, pN, pS, pZ, pC]
            refine tk 6 (v := ?_) rfl (Or.inl ⟨by rfl, ?_⟩) ?_
            rotate_left
            · intro w9 hSw
              go_simp
              first | done | with_reducible rfl
            simp only [pP, pN, pS, pZ, pC]
            refine tk 7 (v := ?_) rfl (Or.inl ⟨by rfl, ?_⟩) ?_
            rotate_left
            · intro w9 hSw
              go_simp
              first | done | with_reducible rfl
            simp only [pP, pN, pS, pZ, pC]
            refine tk 8 (v := ?_) rfl (Or.inl ⟨by rfl, ?_⟩) ?_
            rotate_left
            · intro w9 hSw
              go_simp
              first | done | with_reducible rfl
            simp only [pP, pN, pS, pZ, pC]
            refine tk 9 (v := ?_) rfl (Or.inl ⟨by rfl, ?_⟩) ?_
            rotate_left
            · intro w9 hSw
              go_simp
              first | done | with_reducible rfl
            simp only [pP, pN, pS, pZ, pC]
            have lcd : c ≠ d := by omega
            clear lab
            refine wpAnyH_ready (rs := [12]) (by kernel_rfl) (by simp) ?_
            refine cons' rfl (fun K hK => ?_)
            have lf := fun o => lcR.frozen o
            have X := stored2 (u0 := .bool (ng Z)) (u1 := .slice aq (ln (am Z)) (ln (am Z))) lc0 lc1 ld0 ld1 ldR hBW lcge lcd hF
            go_simp
            clear lc0 lc1 ld0 ld1 lf lcR ldR hHeld hBW hF
            generalize ((w10_4_11_5.setCell ⟨c, 0, none⟩ (.bool (ng Z))).setCell ⟨c, 1, none⟩ (.slice aq (ln (am Z)) (ln (am Z)))) = wl1 at X ⊢
            obtain ⟨lc0, lc1, ld0, ld1, ldR, hBW, hF⟩ := X
            have lcR := ldR
            refine hK.out _ _ (kp3 (W := w41y) hBW ⟨Qq00, Qq01, Qq02, hB⟩) ?_
            intro hHeld
            clear hK K
            try simp only [pP, pN, pS, pZ, pC]
            refine wpAnyH_ready (rs := [13]) (by kernel_rfl) (by simp) ?_
            refine cons' rfl (fun K hK => ?_)
            have lf := fun o => ldR.frozen o
            have X := stored2 (u0 := .bool (ng G)) (u1 := .slice ar (ln (am G)) (ln (am G))) ld0 ld1 lc0 lc1 lcR hBW ldge lcd.symm hF
            go_simp
            clear ld0 ld1 lc0 lc1 lf ldR lcR hHeld hBW hF
            generalize ((wl1.setCell ⟨d, 0, none⟩ (.bool (ng G))).setCell ⟨d, 1, none⟩ (.slice ar (ln (am G)) (ln (am G)))) = wl2 at X ⊢
            obtain ⟨ld0, ld1, lc0, lc1, lcR, hBW, hF⟩ := X
            have ldR := lcR
            refine hK.out _ _ (kp3 (W := w41y) hBW ⟨Qq00, Qq01, Qq02, hB⟩) ?_
            intro hHeld
            clear hK K
            try simp only [pP, pN, pS, pZ, pC]
            refine tk 14 (v := ?_) rfl (Or.inl ⟨by rfl, ?_⟩) ?_
            rotate_left
            · intro w9 hSw
              go_simp
              first | done | with_reducible rfl
            simp only [pP, pN, pS, pZ, pC]
            refine wpAnyH_done (by kernel_rfl) ?_ _
            go_wp2_with fail
            go_meet
            exact ⟨c, aq, rfl, lcge, lc0, lc1, hF, hBW⟩
          exact AllReadyH.nil
        exact AllReadyH.nil
      refine consT rfl (fun K hK => ?_) ?_
      · skip
        go_simp
        have bb := below_alloc (w := w10) (.cells #[.bool false, .slice none 0 0] 25)
        have ldge := hBW.size
        have lab := lcR.lt
        replace hBW := hBW.trans (bb.mono hBW.size)
        replace khp41 := khp41.later bb
        replace khq41 := khq41.later bb
        replace lc0 := below_cell bb lc0
        replace lc1 := below_cell bb lc1
        replace lcR := below_row bb lcR
        clear bb
        have ld0 : (w10.alloc (.cells #[.bool false, .slice none 0 0] 25)).cell? ⟨w10.heap.size, 0, none⟩ = some (.bool false) := by go_simp
        have ld1 : (w10.alloc (.cells #[.bool false, .slice none 0 0] 25)).cell? ⟨w10.heap.size, 1, none⟩ = some (.slice none 0 0) := by go_simp
        have ldR : Row (w10.alloc (.cells #[.bool false, .slice none 0 0] 25)) w10.heap.size := row_new w10 _ 25
        clear hHeld
        generalize (w10.alloc (.cells #[.bool false, .slice none 0 0] 25)) = w10_11 at hBW ld0 ld1 ldR lc0 lc1 lcR khp41 khq41 ⊢
        generalize w10.heap.size = d at ldge ld0 ld1 ldR lab ⊢
        refine hK.out _ _ (kp3 (W := w41y) hBW ⟨Qq00, Qq01, Qq02, hB⟩) ?_
        intro hHeld
        clear hK K
        try simp only [pP, pN, pS, pZ, pC]
        refine wpAnyH_ready (rs := [4]) (by kernel_rfl) (by simp) ?_
        refine consT rfl (fun K hK => ?_) ?_
        · skip
          go_simp
          refine Calls.mono (positive_is q41 (ln V1) (ln V1) _) ?_
          rintro e w10_11_4 ⟨rfl, bb⟩
          replace hBW := hBW.trans (bb.mono hBW.size)
          replace khp41 := khp41.later bb
          replace khq41 := khq41.later bb
          replace lc0 := below_cell bb lc0
          replace lc1 := below_cell bb lc1
          replace lcR := below_row bb lcR
          replace ld0 := below_cell bb ld0
          replace ld1 := below_cell bb ld1
          replace ldR := below_row bb ldR
          clear bb
          go_wp2_with fail
          refine hK.out _ _ (kp3 (W := w41y) hBW ⟨Qq00, Qq01, Qq02, hB⟩) ?_
          clear hHeld
          intro hHeld
          clear hK K
          try simp only [pP, pN, pS, pZ, pC]
          refine wpAnyH_ready (rs := [5]) (by kernel_rfl) (by simp) ?_
          refine consT rfl (fun K hK => ?_) ?_
          · skip
            go_simp
            refine Calls.mono (HF.out _ p41 q41 khp41 khq41) ?_
            rintro e w10_11_4_5 ⟨aq, ar, rfl, hF, hG⟩
            have bb := hF.below
            replace hF := hF.back hBW
            replace hG := hG.back hBW
            replace hBW := hBW.trans (bb.mono hBW.size)
            replace khp41 := khp41.later bb
            replace khq41 := khq41.later bb
            replace lc0 := below_cell bb lc0
            replace lc1 := below_cell bb lc1
            replace lcR := below_row bb lcR
            replace ld0 := below_cell bb ld0
            replace ld1 := below_cell bb ld1
            replace ldR := below_row bb ldR
            clear bb
            go_wp2_with fail
            refine hK.out _ _ (kp3 (W := w41y) hBW ⟨Qq00, Qq01, Qq02, hB⟩) ?_
            clear hHeld
            intro hHeld
            clear hK K
            try simp only [pP, pN, pS, pZ, pC]
            refine tk 6 (v := ?_) rfl (Or.inl ⟨by rfl, ?_⟩) ?_
            rotate_left
            · intro w9 hSw
              go_simp
              first | done | with_reducible rfl
            simp only [pP, pN, pS, pZ, pC]
            refine tk 7 (v := ?_) rfl (Or.inl ⟨by rfl, ?_⟩) ?_
            rotate_left
            · intro w9 hSw
              go_simp
              first | done | with_reducible rfl
            simp only [pP, pN, pS, pZ, pC]
            refine tk 8 (v := ?_) rfl (Or.inl ⟨by rfl, ?_⟩) ?_
            rotate_left
            · intro w9 hSw
              go_simp
              first | done | with_reducible rfl
            simp only [pP, pN, pS, pZ, pC]
            refine tk 9 (v := ?_) rfl (Or.inl ⟨by rfl, ?_⟩) ?_
            rotate_left
            · intro w9 hSw
              go_simp
              first | done | with_reducible rfl
            simp only [pP, pN, pS, pZ, pC]
            have lcd : c ≠ d := by omega
            clear lab
            refine wpAnyH_ready (rs := [12]) (by kernel_rfl) (by simp) ?_
            refine cons' rfl (fun K hK => ?_)
            have lf := fun o => lcR.frozen o
            have X := stored2 (u0 := .bool (ng Z)) (u1 := .slice aq (ln (am Z)) (ln (am Z))) lc0 lc1 ld0 ld1 ldR hBW lcge lcd hF
            go_simp
            clear lc0 lc1 ld0 ld1 lf lcR ldR hHeld hBW hF
            generalize ((w10_11_4_5.setCell ⟨c, 0, none⟩ (.bool (ng Z))).setCell ⟨c, 1, none⟩ (.slice aq (ln (am Z)) (ln (am Z)))) = wl1 at X ⊢
            obtain ⟨lc0, lc1, ld0, ld1, ldR, hBW, hF⟩ := X
            have lcR := ldR
            refine hK.out _ _ (kp3 (W := w41y) hBW ⟨Qq00, Qq01, Qq02, hB⟩) ?_
            intro hHeld
            clear hK K
            try simp only [pP, pN, pS, pZ, pC]
            refine wpAnyH_ready (rs := [13]) (by kernel_rfl) (by simp) ?_
            refine cons' rfl (fun K hK => ?_)
            have lf := fun o => ldR.frozen o
            have X := stored2 (u0 := .bool (ng G)) (u1 := .slice ar (ln (am G)) (ln (am G))) ld0 ld1 lc0 lc1 lcR hBW ldge lcd.symm hF
            go_simp
            clear ld0 ld1 lc0 lc1 lf ldR lcR hHeld hBW hF
            generalize ((wl1.setCell ⟨d, 0, none⟩ (.bool (ng G))).setCell ⟨d, 1, none⟩ (.slice ar (ln (am G)) (ln (am G)))) = wl2 at X ⊢
            obtain ⟨ld0, ld1, lc0, lc1, lcR, hBW, hF⟩ := X
            have ldR := lcR
            refine hK.out _ _ (kp3 (W := w41y) hBW ⟨Qq00, Qq01, Qq02, hB⟩) ?_
            intro hHeld
            clear hK K
            try simp only [pP, pN, pS, pZ, pC]
            refine tk 14 (v := ?_) rfl (Or.inl ⟨by rfl, ?_⟩) ?_
            rotate_left
            · intro w9 hSw
              go_simp
              first | done | with_reducible rfl
            simp only [pP, pN, pS, pZ, pC]
            refine wpAnyH_done (by kernel_rfl) ?_ _
            go_wp2_with fail
            go_meet
            exact ⟨c, aq, rfl, lcge, lc0, lc1, hF, hBW⟩
          exact AllReadyH.nil
        exact AllReadyH.nil
      exact AllReadyH.nil
    refine consT rfl (fun K hK => ?_) ?_
    · skip
      go_simp
      have bb := below_alloc (w := w0) (.cells #[.bool false, .slice none 0 0] 25)
      have ldge := hBW.size
      replace hBW := hBW.trans (bb.mono hBW.size)
      replace khp41 := khp41.later bb
      replace khq41 := khq41.later bb
      clear bb
      have ld0 : (w0.alloc (.cells #[.bool false, .slice none 0 0] 25)).cell? ⟨w0.heap.size, 0, none⟩ = some (.bool false) := by go_simp
      have ld1 : (w0.alloc (.cells #[.bool false, .slice none 0 0] 25)).cell? ⟨w0.heap.size, 1, none⟩ = some (.slice none 0 0) := by go_simp
      have ldR : Row (w0.alloc (.cells #[.bool false, .slice none 0 0] 25)) w0.heap.size := row_new w0 _ 25
      clear hHeld
      generalize (w0.alloc (.cells #[.bool false, .slice none 0 0] 25)) = w11 at hBW ld0 ld1 ldR khp41 khq41 ⊢
      generalize w0.heap.size = d at ldge ld0 ld1 ldR ⊢
      refine hK.out _ _ (kp3 (W := w41y) hBW ⟨Qq00, Qq01, Qq02, hB⟩) ?_
      intro hHeld
      clear hK K
      try simp only [pP, pN, pS, pZ, pC]
      refine wpAnyH_ready (rs := [4, 10]) (by kernel_rfl) (by simp) ?_
      refine consT rfl (fun K hK => ?_) ?_
      · skip
        go_simp
        refine Calls.mono (positive_is q41 (ln V1) (ln V1) _) ?_
        rintro e w11_4 ⟨rfl, bb⟩
        replace hBW := hBW.trans (bb.mono hBW.size)
        replace khp41 := khp41.later bb
        replace khq41 := khq41.later bb
        replace ld0 := below_cell bb ld0
        replace ld1 := below_cell bb ld1
        replace ldR := below_row bb ldR
        clear bb
        go_wp2_with fail
        refine hK.out _ _ (kp3 (W := w41y) hBW ⟨Qq00, Qq01, Qq02, hB⟩) ?_
        clear hHeld
        intro hHeld
        clear hK K
        try simp only [pP, pN, pS, pZ, pC]
        refine wpAnyH_ready (rs := [5, 10]) (by kernel_rfl) (by simp) ?_
        refine consT rfl (fun K hK => ?_) ?_
        · skip
          go_simp
          refine Calls.mono (HF.out _ p41 q41 khp41 khq41) ?_
          rintro e w11_4_5 ⟨aq, ar, rfl, hF, hG⟩
          have bb := hF.below
          replace hF := hF.back hBW
          replace hG := hG.back hBW
          replace hBW := hBW.trans (bb.mono hBW.size)
          replace khp41 := khp41.later bb
          replace khq41 := khq41.later bb
          replace ld0 := below_cell bb ld0
          replace ld1 := below_cell bb ld1
          replace ldR := below_row bb ldR
          clear bb
          go_wp2_with fail
          refine hK.out _ _ (kp3 (W := w41y) hBW ⟨Qq00, Qq01, Qq02, hB⟩) ?_
          clear hHeld
          intro hHeld
          clear hK K
          try simp only [pP, pN, pS, pZ, pC]
          refine tk 6 (v := ?_) rfl (Or.inl ⟨by rfl, ?_⟩) ?_
          rotate_left
          · intro w9 hSw
            go_simp
            first | done | with_reducible rfl
          simp only [pP, pN, pS, pZ, pC]
          refine tk 7 (v := ?_) rfl (Or.inl ⟨by rfl, ?_⟩) ?_
          rotate_left
          · intro w9 hSw
            go_simp
            first | done | with_reducible rfl
          simp only [pP, pN, pS, pZ, pC]
          refine tk 8 (v := ?_) rfl (Or.inl ⟨by rfl, ?_⟩) ?_
          rotate_left
          · intro w9 hSw
            go_simp
            first | done | with_reducible rfl
          simp only [pP, pN, pS, pZ, pC]
          refine tk 9 (v := ?_) rfl (Or.inl ⟨by rfl, ?_⟩) ?_
          rotate_left
          · intro w9 hSw
            go_simp
            first | done | with_reducible rfl
          simp only [pP, pN, pS, pZ, pC]
          refine wpAnyH_ready (rs := [10]) (by kernel_rfl) (by simp) ?_
          refine consT rfl (fun K hK => ?_) ?_
          · skip
            go_simp
            have bb := below_alloc (w := w11_4_5) (.cells #[.bool false, .slice none 0 0] 25)
            have lcge := hBW.size
            have lab := ldR.lt
            replace hBW := hBW.trans (bb.mono hBW.size)
            replace khp41 := khp41.later bb
            replace khq41 := khq41.later bb
            replace hF := hF.later bb
            replace hG := hG.later bb
            replace ld0 := below_cell bb ld0
            replace ld1 := below_cell bb ld1
            replace ldR := below_row bb ldR
            clear bb
            have lc0 : (w11_4_5.alloc (.cells #[.bool false, .slice none 0 0] 25)).cell? ⟨w11_4_5.heap.size, 0, none⟩ = some (.bool false) := by go_simp
            have lc1 : (w11_4_5.alloc (.cells #[.bool false, .slice none 0 0] 25)).cell? ⟨w11_4_5.heap.size, 1, none⟩ = some (.slice none 0 0) := by go_simp
            have lcR : Row (w11_4_5.alloc (.cells #[.bool false, .slice none 0 0] 25)) w11_4_5.heap.size := row_new w11_4_5 _ 25
            clear hHeld
            generalize (w11_4_5.alloc (.cells #[.bool false, .slice none 0 0] 25)) = w11_4_5_10 at hBW lc0 lc1 lcR ld0 ld1 ldR khp41 khq41 hF hG ⊢
            generalize w11_4_5.heap.size = c at lcge lc0 lc1 lcR lab ⊢
            refine hK.out _ _ (kp3 (W := w41y) hBW ⟨Qq00, Qq01, Qq02, hB⟩) ?_
            intro hHeld
            clear hK K
            try simp only [pP, pN, pS, pZ, pC]
            have lcd : c ≠ d := by omega
            clear lab
            refine wpAnyH_ready (rs := [12]) (by kernel_rfl) (by simp) ?_
            refine cons' rfl (fun K hK => ?_)
            have lf := fun o => lcR.frozen o
            have X := stored2 (u0 := .bool (ng Z)) (u1 := .slice aq (ln (am Z)) (ln (am Z))) lc0 lc1 ld0 ld1 ldR hBW lcge lcd hF
            go_simp
            clear lc0 lc1 ld0 ld1 lf lcR ldR hHeld hBW hF
            generalize ((w11_4_5_10.setCell ⟨c, 0, none⟩ (.bool (ng Z))).setCell ⟨c, 1, none⟩ (.slice aq (ln (am Z)) (ln (am Z)))) = wl1 at X ⊢
            obtain ⟨lc0, lc1, ld0, ld1, ldR, hBW, hF⟩ := X
            have lcR := ldR
            refine hK.out _ _ (kp3 (W := w41y) hBW ⟨Qq00, Qq01, Qq02, hB⟩) ?_
            intro hHeld
            clear hK K
            try simp only [pP, pN, pS, pZ, pC]
            refine wpAnyH_ready (rs := [13]) (by kernel_rfl) (by simp) ?_
            refine cons' rfl (fun K hK => ?_)
            have lf := fun o => ldR.frozen o
            have X := stored2 (u0 := .bool (ng G)) (u1 := .slice ar (ln (am G)) (ln (am G))) ld0 ld1 lc0 lc1 lcR hBW ldge lcd.symm hF
            go_simp
            clear ld0 ld1 lc0 lc1 lf ldR lcR hHeld hBW hF
            generalize ((wl1.setCell ⟨d, 0, none⟩ (.bool (ng G))).setCell ⟨d, 1, none⟩ (.slice ar (ln (am G)) (ln (am G)))) = wl2 at X ⊢
            obtain ⟨ld0, ld1, lc0, lc1, lcR, hBW, hF⟩ := X
            have ldR := lcR
            refine hK.out _ _ (kp3 (W := w41y) hBW ⟨Qq00, Qq01, Qq02, hB⟩) ?_
            intro hHeld
            clear hK K
            try simp only [pP, pN, pS, pZ, pC]
            refine tk 14 (v := ?_) rfl (Or.inl ⟨by rfl, ?_⟩) ?_
            rotate_left
            · intro w9 hSw
              go_simp
              first | done | with_reducible rfl
            simp only [pP, pN, pS, pZ, pC]
            refine wpAnyH_done (by kernel_rfl) ?_ _
            go_wp2_with fail
            go_meet
            exact ⟨c, aq, rfl, lcge, lc0, lc1, hF, hBW⟩
          exact AllReadyH.nil
        refine consT rfl (fun K hK => ?_) ?_
        · skip
          go_simp
          have bb := below_alloc (w := w11_4) (.cells #[.bool false, .slice none 0 0] 25)
          have lcge := hBW.size
          have lab := ldR.lt
          replace hBW := hBW.trans (bb.mono hBW.size)
          replace khp41 := khp41.later bb
          replace khq41 := khq41.later bb
          replace ld0 := below_cell bb ld0
          replace ld1 := below_cell bb ld1
          replace ldR := below_row bb ldR
          clear bb
          have lc0 : (w11_4.alloc (.cells #[.bool false, .slice none 0 0] 25)).cell? ⟨w11_4.heap.size, 0, none⟩ = some (.bool false) := by go_simp
          have lc1 : (w11_4.alloc (.cells #[.bool false, .slice none 0 0] 25)).cell? ⟨w11_4.heap.size, 1, none⟩ = some (.slice none 0 0) := by go_simp
          have lcR : Row (w11_4.alloc (.cells #[.bool false, .slice none 0 0] 25)) w11_4.heap.size := row_new w11_4 _ 25
          clear hHeld
          generalize (w11_4.alloc (.cells #[.bool false, .slice none 0 0] 25)) = w11_4_10 at hBW lc0 lc1 lcR ld0 ld1 ldR khp41 khq41 ⊢
          generalize w11_4.heap.size = c at lcge lc0 lc1 lcR lab ⊢
          refine hK.out _ _ (kp3 (W := w41y) hBW ⟨Qq00, Qq01, Qq02, hB⟩) ?_
          intro hHeld
          clear hK K
          try simp only [pP, pN, pS, pZ, pC]
          refine wpAnyH_ready (rs := [5]) (by kernel_rfl) (by simp) ?_
          refine consT rfl (fun K hK => ?_) ?_
          · skip
            go_simp
            refine Calls.mono (HF.out _ p41 q41 khp41 khq41) ?_
            rintro e w11_4_10_5 ⟨aq, ar, rfl, hF, hG⟩
            have bb := hF.below
            replace hF := hF.back hBW
            replace hG := hG.back hBW
            replace hBW := hBW.trans (bb.mono hBW.size)
            replace khp41 := khp41.later bb
            replace khq41 := khq41.later bb
            replace lc0 := below_cell bb lc0
            replace lc1 := below_cell bb lc1
            replace lcR := below_row bb lcR
            replace ld0 := below_cell bb ld0
            replace ld1 := below_cell bb ld1
            replace ldR := below_row bb ldR
            clear bb
            go_wp2_with fail
            refine hK.out _ _ (kp3 (W := w41y) hBW ⟨Qq00, Qq01, Qq02, hB⟩) ?_
            clear hHeld
            intro hHeld
            clear hK K
            try simp only [pP, pN, pS, pZ, pC]
            refine tk 6 (v := ?_) rfl (Or.inl ⟨by rfl, ?_⟩) ?_
            rotate_left
            · intro w9 hSw
              go_simp
              first | done | with_reducible rfl
            simp only [pP, pN, pS, pZ, pC]
            refine tk 7 (v := ?_) rfl (Or.inl ⟨by rfl, ?_⟩) ?_
            rotate_left
            · intro w9 hSw
              go_simp
              first | done | with_reducible rfl
            simp only [pP, pN, pS, pZ, pC]
            refine tk 8 (v := ?_) rfl (Or.inl ⟨by rfl, ?_⟩) ?_
            rotate_left
            · intro w9 hSw
              go_simp
              first | done | with_reducible rfl
            simp only [pP, pN, pS, pZ, pC]
            refine tk 9 (v := ?_) rfl (Or.inl ⟨by rfl, ?_⟩) ?_
            rotate_left
            · intro w9 hSw
              go_simp
              first | done | with_reducible rfl
            simp only [pP, pN, pS, pZ, pC]
            have lcd : c ≠ d := by omega
            clear lab
            refine wpAnyH_ready (rs := [12]) (by kernel_rfl) (by simp) ?_
            refine cons' rfl (fun K hK => ?_)
            have lf := fun o => lcR.frozen o
            have X := stored2 (u0 := .bool (ng Z)) (u1 := .slice aq (ln (am Z)) (ln (am Z))) lc0 lc1 ld0 ld1 ldR hBW lcge lcd hF
            go_simp
            clear lc0 lc1 ld0 ld1 lf lcR ldR hHeld hBW hF
            generalize ((w11_4_10_5.setCell ⟨c, 0, none⟩ (.bool (ng Z))).setCell ⟨c, 1, none⟩ (.slice aq (ln (am Z)) (ln (am Z)))) = wl1 at X ⊢
            obtain ⟨lc0, lc1, ld0, ld1, ldR, hBW, hF⟩ := X
            have lcR := ldR
            refine hK.out _ _ (kp3 (W := w41y) hBW ⟨Qq00, Qq01, Qq02, hB⟩) ?_
            intro hHeld
            clear hK K
            try simp only [pP, pN, pS, pZ, pC]
            refine wpAnyH_ready (rs := [13]) (by kernel_rfl) (by simp) ?_
            refine cons' rfl (fun K hK => ?_)
            have lf := fun o => ldR.frozen o
            have X := stored2 (u0 := .bool (ng G)) (u1 := .slice ar (ln (am G)) (ln (am G))) ld0 ld1 lc0 lc1 lcR hBW ldge lcd.symm hF
            go_simp
            clear ld0 ld1 lc0 lc1 lf ldR lcR hHeld hBW hF
            generalize ((wl1.setCell ⟨d, 0, none⟩ (.bool (ng G))).setCell ⟨d, 1, none⟩ (.slice ar (ln (am G)) (ln (am G)))) = wl2 at X ⊢
            obtain ⟨ld0, ld1, lc0, lc1, lcR, hBW, hF⟩ := X
            have ldR := lcR
            refine hK.out _ _ (kp3 (W := w41y) hBW ⟨Qq00, Qq01, Qq02, hB⟩) ?_
            intro hHeld
            clear hK K
            try simp only [pP, pN, pS, pZ, pC]
            refine tk 14 (v := ?_) rfl (Or.inl ⟨by rfl, ?_⟩) ?_
            rotate_left
            · intro w9 hSw
              go_simp
              first | done | with_reducible rfl
            simp only [pP, pN, pS, pZ, pC]
            refine wpAnyH_done (by kernel_rfl) ?_ _
            go_wp2_with fail
            go_meet
            exact ⟨c, aq, rfl, lcge, lc0, lc1, hF, hBW⟩
          exact AllReadyH.nil
        exact AllReadyH.nil
      refine consT rfl (fun K hK => ?_) ?_
      · skip
        go_simp
        have bb := below_alloc (w := w11) (.cells #[.bool false, .slice none 0 0] 25)
        have lcge := hBW.size
        have lab := ldR.lt
        replace hBW := hBW.trans (bb.mono hBW.size)
        replace khp41 := khp41.later bb
        replace khq41 := khq41.later bb
        replace ld0 := below_cell bb ld0
        replace ld1 := below_cell bb ld1
        replace ldR := below_row bb ldR
        clear bb
        have lc0 : (w11.alloc (.cells #[.bool false, .slice none 0 0] 25)).cell? ⟨w11.heap.size, 0, none⟩ = some (.bool false) := by go_simp
        have lc1 : (w11.alloc (.cells #[.bool false, .slice none 0 0] 25)).cell? ⟨w11.heap.size, 1, none⟩ = some (.slice none 0 0) := by go_simp
        have lcR : Row (w11.alloc (.cells #[.bool false, .slice none 0 0] 25)) w11.heap.size := row_new w11 _ 25
        clear hHeld
        generalize (w11.alloc (.cells #[.bool false, .slice none 0 0] 25)) = w11_10 at hBW lc0 lc1 lcR ld0 ld1 ldR khp41 khq41 ⊢
        generalize w11.heap.size = c at lcge lc0 lc1 lcR lab ⊢
        refine hK.out _ _ (kp3 (W := w41y) hBW ⟨Qq00, Qq01, Qq02, hB⟩) ?_
        intro hHeld
        clear hK K
        try simp only [pP, pN, pS, pZ, pC]
        refine wpAnyH_ready (rs := [4]) (by kernel_rfl) (by simp) ?_
        refine consT rfl (fun K hK => ?_) ?_
        · skip
          go_simp
          refine Calls.mono (positive_is q41 (ln V1) (ln V1) _) ?_
          rintro e w11_10_4 ⟨rfl, bb⟩
          replace hBW := hBW.trans (bb.mono hBW.size)
          replace khp41 := khp41.later bb
          replace khq41 := khq41.later bb
          replace lc0 := below_cell bb lc0
          replace lc1 := below_cell bb lc1
          replace lcR := below_row bb lcR
          replace ld0 := below_cell bb ld0
          replace ld1 := below_cell bb ld1
          replace ldR := below_row bb ldR
          clear bb
          go_wp2_with fail
          refine hK.out _ _ (kp3 (W := w41y) hBW ⟨Qq00, Qq01, Qq02, hB⟩) ?_
          clear hHeld
          intro hHeld
          clear hK K
          try simp only [pP, pN, pS, pZ, pC]
          refine wpAnyH_ready (rs := [5]) (by kernel_rfl) (by simp) ?_
          refine consT rfl (fun K hK => ?_) ?_
          · skip
            go_simp
            refine Calls.mono (HF.out _ p41 q41 khp41 khq41) ?_
            rintro e w11_10_4_5 ⟨aq, ar, rfl, hF, hG⟩
            have bb := hF.below
            replace hF := hF.back hBW
            replace hG := hG.back hBW
            replace hBW := hBW.trans (bb.mono hBW.size)
            replace khp41 := khp41.later bb
            replace khq41 := khq41.later bb
            replace lc0 := below_cell bb lc0
            replace lc1 := below_cell bb lc1
            replace lcR := below_row bb lcR
            replace ld0 := below_cell bb ld0
            replace ld1 := below_cell bb ld1
            replace ldR := below_row bb ldR
            clear bb
            go_wp2_with fail
            refine hK.out _ _ (kp3 (W := w41y) hBW ⟨Qq00, Qq01, Qq02, hB⟩) ?_
            clear hHeld
            intro hHeld
            clear hK K
            try simp only [pP, pN, pS, pZ, pC]
            refine tk 6 (v := ?_) rfl (Or.inl ⟨by rfl, ?_⟩) ?_
            rotate_left
            · intro w9 hSw
              go_simp
              first | done | with_reducible rfl
            simp only [pP, pN, pS, pZ, pC]
            refine tk 7 (v := ?_) rfl (Or.inl ⟨by rfl, ?_⟩) ?_
            rotate_left
            · intro w9 hSw
              go_simp
              first | done | with_reducible rfl
            simp only [pP, pN, pS, pZ, pC]
            refine tk 8 (v := ?_) rfl (Or.inl ⟨by rfl, ?_⟩) ?_
            rotate_left
            · intro w9 hSw
              go_simp
              first | done | with_reducible rfl
            simp only [pP, pN, pS, pZ, pC]
            refine tk 9 (v := ?_) rfl (Or.inl ⟨by rfl, ?_⟩) ?_
            rotate_left
            · intro w9 hSw
              go_simp
              first | done | with_reducible rfl
            simp only [pP, pN, pS, pZ, pC]
            have lcd : c ≠ d := by omega
            clear lab
            refine wpAnyH_ready (rs := [12]) (by kernel_rfl) (by simp) ?_
            refine cons' rfl (fun K hK => ?_)
            have lf := fun o => lcR.frozen o
            have X := stored2 (u0 := .bool (ng Z)) (u1 := .slice aq (ln (am Z)) (ln (am Z))) lc0 lc1 ld0 ld1 ldR hBW lcge lcd hF
            go_simp
            clear lc0 lc1 ld0 ld1 lf lcR ldR hHeld hBW hF
            generalize ((w11_10_4_5.setCell ⟨c, 0, none⟩ (.bool (ng Z))).setCell ⟨c, 1, none⟩ (.slice aq (ln (am Z)) (ln (am Z)))) = wl1 at X ⊢
            obtain ⟨lc0, lc1, ld0, ld1, ldR, hBW, hF⟩ := X
            have lcR := ldR
            refine hK.out _ _ (kp3 (W := w41y) hBW ⟨Qq00, Qq01, Qq02, hB⟩) ?_
            intro hHeld
            clear hK K
            try simp only [pP, pN, pS, pZ, pC]
            refine wpAnyH_ready (rs := [13]) (by kernel_rfl) (by simp) ?_
            refine cons' rfl (fun K hK => ?_)
            have lf := fun o => ldR.frozen o
            have X := stored2 (u0 := .bool (ng G)) (u1 := .slice ar (ln (am G)) (ln (am G))) ld0 ld1 lc0 lc1 lcR hBW ldge lcd.symm hF
            go_simp
            clear ld0 ld1 lc0 lc1 lf ldR lcR hHeld hBW hF
            generalize ((wl1.setCell ⟨d, 0, none⟩ (.bool (ng G))).setCell ⟨d, 1, none⟩ (.slice ar (ln (am G)) (ln (am G)))) = wl2 at X ⊢
            obtain ⟨ld0, ld1, lc0, lc1, lcR, hBW, hF⟩ := X
            have ldR := lcR
            refine hK.out _ _ (kp3 (W := w41y) hBW ⟨Qq00, Qq01, Qq02, hB⟩) ?_
            intro hHeld
            clear hK K
            try simp only [pP, pN, pS, pZ, pC]
            refine tk 14 (v := ?_) rfl (Or.inl ⟨by rfl, ?_⟩) ?_
            rotate_left
            · intro w9 hSw
              go_simp
              first | done | with_reducible rfl
            simp only [pP, pN, pS, pZ, pC]
            refine wpAnyH_done (by kernel_rfl) ?_ _
            go_wp2_with fail
            go_meet
            exact ⟨c, aq, rfl, lcge, lc0, lc1, hF, hBW⟩
          exact AllReadyH.nil
        exact AllReadyH.nil
      exact AllReadyH.nil
    exact AllReadyH.nil
  case rest =>
  clear hBW
  obtain ⟨c, aq, rfl, hge, lc0, lc1, hF, hBW⟩ := hcut
  replace q00 := below_cell hBW q00
  replace q01 := below_cell hBW q01
  replace q02 := below_cell hBW q02
  replace r00 := below_cell hBW r00
  replace r01 := below_cell hBW r01
  replace hR0 := below_row hBW hR0
  replace hP0 := below_row hBW hP0
  have fz0 := fun o => hR0.frozen o
  go_wp2
  all_goals refine bodyPost_ret (v := .agg #[.bool (ng Z), .slice aq (ln (am Z)) (ln (am Z))]) (by rw [results_cell rfl]; go_simp) rfl ?_
  all_goals exact ⟨aq, rfl, hF.mid hB ((((Mid.refl _ _ _).set _ _ (by omega) (by omega) _).set _ _ (by omega) (by omega) _))⟩
end Go.Proofs.YtejlnodillnoaaaGreatDoor
