import Derived.Test.YtnoiiphgpjifgaaGreatDoorWQF
import Derived.Test.YtnoiiphgpjifgaaGreatDoorWQ5
import Derived.Deep.CutRange
import Derived.Test.YtnoiiphgpjifgaaGreatDoorWQ3
import Derived.Test.YtnoiiphgpjifgaaGreatDoorNumR
import Derived.Test.YtnoiiphgpjifgaaGreatDoorWQN
import Derived.Test.YtnoiiphgpjifgaaGreatDoorWQA
import Derived.Test.YtnoiiphgpjifgaaGreatDoorWQ6
import Derived.Test.YtnoiiphgpjifgaaGreatDoorWQ7
import Derived.Test.YtnoiiphgpjifgaaGreatDoorWI2
import Derived.Test.YtnoiiphgpjifgaaGreatDoorWQ9
set_option linter.unusedSimpArgs false
namespace Go.Proofs.YtnoiiphgpjifgaaGreatDoor
open Go.RowKit
set_option linter.unusedVariables false
theorem Seg.setTwo {w : World} {p : Option Addr} {X n c : Nat} {u0 u1 : Value} {z0 : Bool} {a1 : Option Addr} {n1 k1 : Nat} (h : Seg w p X n) (h0 : w.cell? ⟨c, 0, none⟩ = some (.bool z0)) (h1 : w.cell? ⟨c, 1, none⟩ = some (.slice a1 n1 k1)) :
    Seg ((w.setCell ⟨c, 0, none⟩ u0).setCell ⟨c, 1, none⟩ u1) p X n := by
  refine (h.setB h0 (by simp)).setB (z := .slice a1 n1 k1) ?_ (by simp)
  rw [World.cell?_setCell_other _ _ _ _ (fun e => by simp at e)]; exact h1
theorem New.set2 {L w : World} {p : Option Addr} {X n c : Nat} {u0 u1 : Value} {z0 : Bool} {a1 : Option Addr} {n1 k1 : Nat} (h : New L w p X n) (ge : L.heap.size ≤ c) (h0 : w.cell? ⟨c, 0, none⟩ = some (.bool z0)) (h1 : w.cell? ⟨c, 1, none⟩ = some (.slice a1 n1 k1)) :
    New L ((w.setCell ⟨c, 0, none⟩ u0).setCell ⟨c, 1, none⟩ u1) p X n :=
  ⟨h.seg.setTwo h0 h1, bsetW (bsetW h.below ge) ge, fun hn => by obtain ⟨b, off, e, hb, hr⟩ := h.fresh hn; exact ⟨b, off, e, hb, (hr.setCell _ _).setCell _ _⟩⟩
theorem stored2 {w W : World} {c d r : Nat} {u0 u1 v0 v1 : Value} {z0 : Bool} {a1 : Option Addr} {n1 k1 : Nat} {p1 : Option Addr} {X1 l1 : Nat}
    (h0 : w.cell? ⟨c, 0, none⟩ = some (.bool z0)) (h1 : w.cell? ⟨c, 1, none⟩ = some (.slice a1 n1 k1)) (g0 : w.cell? ⟨d, 0, none⟩ = some v0) (g1 : w.cell? ⟨d, 1, none⟩ = some v1) (gR : Row w r)
    (hBW : Below W.heap.size W w) (ge : W.heap.size ≤ c) (ne : c ≠ d) (s1 : New W w p1 X1 l1) :
    ((w.setCell ⟨c, 0, none⟩ u0).setCell ⟨c, 1, none⟩ u1).cell? ⟨c, 0, none⟩ = some u0 ∧ ((w.setCell ⟨c, 0, none⟩ u0).setCell ⟨c, 1, none⟩ u1).cell? ⟨c, 1, none⟩ = some u1 ∧
    ((w.setCell ⟨c, 0, none⟩ u0).setCell ⟨c, 1, none⟩ u1).cell? ⟨d, 0, none⟩ = some v0 ∧ ((w.setCell ⟨c, 0, none⟩ u0).setCell ⟨c, 1, none⟩ u1).cell? ⟨d, 1, none⟩ = some v1 ∧
    Row ((w.setCell ⟨c, 0, none⟩ u0).setCell ⟨c, 1, none⟩ u1) r ∧ Below W.heap.size W ((w.setCell ⟨c, 0, none⟩ u0).setCell ⟨c, 1, none⟩ u1) ∧ New W ((w.setCell ⟨c, 0, none⟩ u0).setCell ⟨c, 1, none⟩ u1) p1 X1 l1 := by
  have e := set2_same (u := u0) (v := u1) h0 h1
  exact ⟨e.1, e.2, (set2_far ne).trans g0, (set2_far ne).trans g1, (gR.setCell _ _).setCell _ _, bsetW (bsetW hBW ge) ge, s1.set2 ge h0 h1⟩
set_option maxHeartbeats 4000000 in
set_option maxRecDepth 100000 in
theorem vqFloor_is (s0 : Bool) (a0 : Option Addr) (n0 c0 X0 : Nat) (b0 : Option Addr) (m0 d0 Y0 : Nat) (Z G0 : Int) (w : World) (hc0 : n0 ≤ c0) (hm0 : n0 ≤ 35184372087808) (hS0 : Seg w a0 X0 n0) (hd0 : m0 ≤ d0) (hk0 : m0 ≤ 35184372087808) (hT0 : Seg w b0 Y0 m0) (h : Fl (rn s0 X0 Y0) (rd Y0 : Nat) Z G0) :
    Calls Tryz.prog 26 #[Value.agg #[Value.bool s0, Value.slice a0 n0 c0, Value.slice b0 m0 d0]] w fun e w' => ∃ p, e = .returned (.agg #[.bool (ng Z), .slice p (ln (am Z)) (ln (am Z))]) ∧ New w w' p (am Z) (ln (am Z)) := by
  obtain ⟨Z1, V1, h1⟩ := low_ex (rn s0 X0 Y0) (rd Y0 : Nat) (rd_ne Y0)
  obtain ⟨lZ1, lV1⟩ := low_ln hS0.1 hT0.1 h1
  obtain ⟨Z', G, h3⟩ := fl_ex Z1 (D := (V1 : Int)) (by have := h1.pos; omega)
  obtain rfl : Z' = Z := h.same (by have := rd_pos Y0; omega) h3 (by have := h1.pos; omega) (by have := h1.eq; omega)
  have G1 := hide' h1
  have HF := hide' (fun w' p q k1 k2 => vfloor_pos (ng Z1) p (ln (am Z1)) (ln (am Z1)) (am Z1) q (ln V1) (ln V1) V1 Z' G w' (Nat.le_refl _) (by omega) k1 (Nat.le_refl _) (by omega) k2 (by rw [sg_na]; exact h3))
  obtain ⟨Z, hZ⟩ : ∃ Z, Z' = Z := ⟨_, rfl⟩
  rw [hZ] at HF ⊢
  clear h h1 h3 hZ
  go_enter Tryz.func26, Tryz.ntmps26
  go_wp2_with fail
  obtain ⟨W, hW⟩ : ∃ W, ((w.alloc (.cells #[.bool s0, .slice a0 n0 c0, .slice b0 m0 d0] 27)).alloc (.cells #[.bool false, .slice none 0 0] 25)) = W := ⟨_, rfl⟩
  have q00 : W.cell? ⟨w.heap.size, 0, none⟩ = some (.bool s0) := by subst hW; go_simp
  have q01 : W.cell? ⟨w.heap.size, 1, none⟩ = some (.slice a0 n0 c0) := by subst hW; go_simp
  have q02 : W.cell? ⟨w.heap.size, 2, none⟩ = some (.slice b0 m0 d0) := by subst hW; go_simp
  have r00 : W.cell? ⟨w.heap.size + 1, 0, none⟩ = some (.bool false) := by subst hW; go_simp
  have r01 : W.cell? ⟨w.heap.size + 1, 1, none⟩ = some (.slice none 0 0) := by subst hW; go_simp
  have hB : Below w.heap.size w W := by subst hW; exact (((Below.refl _ _).alloc (by (try simp only [World.size_alloc]); omega) _).alloc (by (try simp only [World.size_alloc]); omega) _)
  have hR0 : Row W (w.heap.size + 1) := by
    have := row_new ((w.alloc (.cells #[.bool s0, .slice a0 n0 c0, .slice b0 m0 d0] 27))) #[.bool false, .slice none 0 0] 25
    try simp only [World.size_alloc] at this
    subst hW; exact this
  have hP0 : Row W (w.heap.size) := by
    have := row_new (w) #[.bool s0, .slice a0 n0 c0, .slice b0 m0 d0] 27
    try simp only [World.size_alloc] at this
    subst hW; exact (this.alloc _)
  have hz : W.heap.size = w.heap.size + 1 + 1 := by subst hW; simp only [World.size_alloc]
  rw [hW]
  clear hW
  have hBW : Below W.heap.size W W := Below.refl _ _
  refine (vqNorm_is s0 a0 n0 c0 X0 b0 m0 d0 Y0 V1 Z1 _ (by omega) (sb hS0 hB hBW) (by omega) (sb hT0 hB hBW) G1.out).mono ?_
  rintro e w41 ⟨p41, q41, rfl, hp41, hq41⟩
  have b41 := hp41.below
  replace hp41 := hp41.back hBW
  replace hq41 := hq41.back hBW
  replace hBW := hBW.trans (b41.mono hBW.size)
  replace q00 := below_cell b41 q00
  replace q01 := below_cell b41 q01
  replace q02 := below_cell b41 q02
  replace r00 := below_cell b41 r00
  replace r01 := below_cell b41 r01
  replace hR0 := below_row b41 hR0
  replace hP0 := below_row b41 hP0
  have hsB := hBW.size
  have hM : Mid w.heap.size W.heap.size w41 (((w41.setCell ⟨w.heap.size, 0, none⟩ (.bool (ng Z1))).setCell ⟨w.heap.size, 1, none⟩ (.slice p41 (ln (am Z1)) (ln (am Z1)))).setCell ⟨w.heap.size, 2, none⟩ (.slice q41 (ln V1) (ln V1))) := ((((Mid.refl _ _ _).set _ _ (by omega) (by omega) _).set _ _ (by omega) (by omega) _).set _ _ (by omega) (by omega) _)
  have eM := set3_same (w := w41) (c := w.heap.size) (u0 := .bool (ng Z1)) (u1 := .slice p41 (ln (am Z1)) (ln (am Z1))) (u2 := .slice q41 (ln V1) (ln V1)) q00 q01 q02
  have q00_ : ((((w41.setCell ⟨w.heap.size, 0, none⟩ (.bool (ng Z1))).setCell ⟨w.heap.size, 1, none⟩ (.slice p41 (ln (am Z1)) (ln (am Z1)))).setCell ⟨w.heap.size, 2, none⟩ (.slice q41 (ln V1) (ln V1)))).cell? ⟨w.heap.size, 0, none⟩ = some (.bool (ng Z1)) := eM.1
  have q01_ : ((((w41.setCell ⟨w.heap.size, 0, none⟩ (.bool (ng Z1))).setCell ⟨w.heap.size, 1, none⟩ (.slice p41 (ln (am Z1)) (ln (am Z1)))).setCell ⟨w.heap.size, 2, none⟩ (.slice q41 (ln V1) (ln V1)))).cell? ⟨w.heap.size, 1, none⟩ = some (.slice p41 (ln (am Z1)) (ln (am Z1))) := eM.2.1
  have q02_ : ((((w41.setCell ⟨w.heap.size, 0, none⟩ (.bool (ng Z1))).setCell ⟨w.heap.size, 1, none⟩ (.slice p41 (ln (am Z1)) (ln (am Z1)))).setCell ⟨w.heap.size, 2, none⟩ (.slice q41 (ln V1) (ln V1)))).cell? ⟨w.heap.size, 2, none⟩ = some (.slice q41 (ln V1) (ln V1)) := eM.2.2
  have r00_ : ((((w41.setCell ⟨w.heap.size, 0, none⟩ (.bool (ng Z1))).setCell ⟨w.heap.size, 1, none⟩ (.slice p41 (ln (am Z1)) (ln (am Z1)))).setCell ⟨w.heap.size, 2, none⟩ (.slice q41 (ln V1) (ln V1)))).cell? ⟨w.heap.size + 1, 0, none⟩ = some (.bool false) := (set3_far (by omega)).trans r00
  have r01_ : ((((w41.setCell ⟨w.heap.size, 0, none⟩ (.bool (ng Z1))).setCell ⟨w.heap.size, 1, none⟩ (.slice p41 (ln (am Z1)) (ln (am Z1)))).setCell ⟨w.heap.size, 2, none⟩ (.slice q41 (ln V1) (ln V1)))).cell? ⟨w.heap.size + 1, 1, none⟩ = some (.slice none 0 0) := (set3_far (by omega)).trans r01
  have hR0_ := (((hR0.setCell ⟨w.heap.size, 0, none⟩ (.bool (ng Z1))).setCell ⟨w.heap.size, 1, none⟩ (.slice p41 (ln (am Z1)) (ln (am Z1)))).setCell ⟨w.heap.size, 2, none⟩ (.slice q41 (ln V1) (ln V1)))
  have fzhR0 := fun o => hR0.frozen o
  have hP0_ := (((hP0.setCell ⟨w.heap.size, 0, none⟩ (.bool (ng Z1))).setCell ⟨w.heap.size, 1, none⟩ (.slice p41 (ln (am Z1)) (ln (am Z1)))).setCell ⟨w.heap.size, 2, none⟩ (.slice q41 (ln V1) (ln V1)))
  have fzhP0 := fun o => hP0.frozen o
  have khp41 := (hp41.mid hB hM).seg
  clear hp41
  have khq41 := (hq41.mid hB hM).seg
  clear hq41
  have hBn := (hB.trans (hBW.mono hB.size)).trans (hM.below (Nat.le_trans hB.size hBW.size))
  have hsM := hM.size
  clear hM eM
  go_wp2_with fail
  clear q00 q01 q02 r00 r01 hR0 hP0 fzhR0 fzhP0 hB hBW
  generalize (((w41.setCell ⟨w.heap.size, 0, none⟩ (.bool (ng Z1))).setCell ⟨w.heap.size, 1, none⟩ (.slice p41 (ln (am Z1)) (ln (am Z1)))).setCell ⟨w.heap.size, 2, none⟩ (.slice q41 (ln V1) (ln V1))) = w41y at q00_ q01_ q02_ r00_ r01_ hR0_ hP0_ khp41 khq41 hBn hsM ⊢
  have q00 := q00_
  clear q00_
  have q01 := q01_
  clear q01_
  have q02 := q02_
  clear q02_
  have r00 := r00_
  clear r00_
  have r01 := r01_
  clear r01_
  have hR0 := hR0_
  clear hR0_
  have hP0 := hP0_
  clear hP0_
  have hB := hBn
  clear hBn
  have hBW : Below w41y.heap.size w41y w41y := Below.refl _ _
  have hzz : w.heap.size + 1 + 1 ≤ w41y.heap.size := by omega
  clear hz
  go_cut [3, 4, 5] from 8 to 17 (fun s3 s4 s5 wx => ∃ c aq, s3 = .pointer (some ⟨c, 0, none⟩) ∧ w41y.heap.size ≤ c ∧ wx.cell? ⟨c, 0, none⟩ = some (.bool (ng Z)) ∧ wx.cell? ⟨c, 1, none⟩ = some (.slice aq (ln (am Z)) (ln (am Z))) ∧ New w41y wx aq (am Z) (ln (am Z)) ∧ Below w41y.heap.size w41y wx)
  case first =>
    have Qq00 := q00
    have Qq01 := q01
    have Qq02 := q02
    clear q00 q01 q02 r00 r01 hR0 hP0
    replace hBW := hBW.drew
    refine wp_region_held_drew (S := (fun w' => w'.cell? ⟨w.heap.size, 0, none⟩ = some (.bool (ng Z1)) ∧ w'.cell? ⟨w.heap.size, 1, none⟩ = some (.slice p41 (ln (am Z1)) (ln (am Z1))) ∧ w'.cell? ⟨w.heap.size, 2, none⟩ = some (.slice q41 (ln V1) (ln V1)) ∧ Below w.heap.size w w')) (by kernel_rfl) (kp3 (W := w41y) hBW ⟨Qq00, Qq01, Qq02, hB⟩) (fun hHeld => ?_)
    replace khp41 := khp41.drew
    replace khq41 := khq41.drew
    generalize w41y.drew = w0 at hBW khp41 khq41 hHeld ⊢
    refine tk 0 (v := ?_) rfl (Or.inl ⟨by rfl, ?_⟩) ?_
    rotate_left
    · intro w9 hSw
      go_simp
      first | done | with_reducible rfl
    simp only [pP, pN, pS, pZ, pC]
    refine tk 1 (v := ?_) rfl (Or.inl ⟨by rfl, ?_⟩) ?_
    rotate_left
    · intro w9 hSw
      go_simp
      first | done | with_reducible rfl
    simp only [pP, pN, pS, pZ, pC]
    refine tk 2 (v := ?_) rfl (Or.inl ⟨by rfl, ?_⟩) ?_
    rotate_left
    · intro w9 hSw
      go_simp
      first | done | with_reducible rfl
    simp only [pP, pN, pS, pZ, pC]
    refine tk 3 (v := ?_) rfl (Or.inl ⟨by rfl, ?_⟩) ?_
    rotate_left
    · intro w9 hSw
      go_simp
      first | done | with_reducible rfl
    simp only [pP, pN, pS, pZ, pC]
    refine wpAnyH_ready (rs := [4, 10, 11]) (by kernel_rfl) (by simp) ?_
    refine consT rfl (fun K hK => ?_) ?_
    · skip
      go_simp
      refine Calls.mono (positive_is q41 (ln V1) (ln V1) _) ?_
      rintro e w4 ⟨rfl, bb⟩
      replace hBW := hBW.trans (bb.mono hBW.size)
      replace khp41 := khp41.later bb
      replace khq41 := khq41.later bb
      clear bb
      go_wp2_with fail
      refine hK.out _ _ (kp3 (W := w41y) hBW ⟨Qq00, Qq01, Qq02, hB⟩) ?_
      clear hHeld
      intro hHeld
      clear hK K
      try simp only [pP, pN, pS, pZ, pC]
      refine wpAnyH_ready (rs := [5, 10, 11]) (by kernel_rfl) (by simp) ?_
      refine consT rfl (fun K hK => ?_) ?_
      · skip
        go_simp
        refine Calls.mono (HF.out _ p41 q41 khp41 khq41) ?_
        rintro e w4_5 ⟨aq, ar, rfl, hF, hG⟩
        have bb := hF.below
        replace hF := hF.back hBW
        replace hG := hG.back hBW
        replace hBW := hBW.trans (bb.mono hBW.size)
        replace khp41 := khp41.later bb
        replace khq41 := khq41.later bb
        clear bb
        go_wp2_with fail
        refine hK.out _ _ (kp3 (W := w41y) hBW ⟨Qq00, Qq01, Qq02, hB⟩) ?_
        clear hHeld
        intro hHeld
        clear hK K
        try simp only [pP, pN, pS, pZ, pC]
        refine tk 6 (v := ?_) rfl (Or.inl ⟨by rfl, ?_⟩) ?_
        rotate_left
        · intro w9 hSw
          go_simp
          first | done | with_reducible rfl
        simp only [pP, pN, pS, pZ, pC]
        refine tk 7 (v := ?_) rfl (Or.inl ⟨by rfl, ?_⟩) ?_
        rotate_left
        · intro w9 hSw
          go_simp
          first | done | with_reducible rfl
        simp only [pP, pN, pS, pZ, pC]
        refine tk 8 (v := ?_) rfl (Or.inl ⟨by rfl, ?_⟩) ?_
        rotate_left
        · intro w9 hSw
          go_simp
          first | done | with_reducible rfl
        simp only [pP, pN, pS, pZ, pC]
        refine tk 9 (v := ?_) rfl (Or.inl ⟨by rfl, ?_⟩) ?_
        rotate_left
        · intro w9 hSw
          go_simp
          first | done | with_reducible rfl
        simp only [pP, pN, pS, pZ, pC]
        refine wpAnyH_ready (rs := [10, 11]) (by kernel_rfl) (by simp) ?_
        refine consT rfl (fun K hK => ?_) ?_
        · skip
          go_simp
          have bb := below_alloc (w := w4_5) (.cells #[.bool false, .slice none 0 0] 25)
          have lcge := hBW.size
          replace hBW := hBW.trans (bb.mono hBW.size)
          replace khp41 := khp41.later bb
          replace khq41 := khq41.later bb
          replace hF := hF.later bb
          replace hG := hG.later bb
          clear bb
          have lc0 : (w4_5.alloc (.cells #[.bool false, .slice none 0 0] 25)).cell? ⟨w4_5.heap.size, 0, none⟩ = some (.bool false) := by go_simp
          have lc1 : (w4_5.alloc (.cells #[.bool false, .slice none 0 0] 25)).cell? ⟨w4_5.heap.size, 1, none⟩ = some (.slice none 0 0) := by go_simp
          have lcR : Row (w4_5.alloc (.cells #[.bool false, .slice none 0 0] 25)) w4_5.heap.size := row_new w4_5 _ 25
          clear hHeld
          generalize (w4_5.alloc (.cells #[.bool false, .slice none 0 0] 25)) = w4_5_10 at hBW lc0 lc1 lcR khp41 khq41 hF hG ⊢
          generalize w4_5.heap.size = c at lcge lc0 lc1 lcR ⊢
          refine hK.out _ _ (kp3 (W := w41y) hBW ⟨Qq00, Qq01, Qq02, hB⟩) ?_
          intro hHeld
          clear hK K
          try simp only [pP, pN, pS, pZ, pC]
          refine wpAnyH_ready (rs := [11]) (by kernel_rfl) (by simp) ?_
          refine consT rfl (fun K hK => ?_) ?_
          · skip
            go_simp
            have bb := below_alloc (w := w4_5_10) (.cells #[.bool false, .slice none 0 0] 25)
            have ldge := hBW.size
            have lab := lcR.lt
            replace hBW := hBW.trans (bb.mono hBW.size)
            replace khp41 := khp41.later bb
            replace khq41 := khq41.later bb
            replace hF := hF.later bb
            replace hG := hG.later bb
            replace lc0 := below_cell bb lc0
            replace lc1 := below_cell bb lc1
            replace lcR := below_row bb lcR
            clear bb
            have ld0 : (w4_5_10.alloc (.cells #[.bool false, .slice none 0 0] 25)).cell? ⟨w4_5_10.heap.size, 0, none⟩ = some (.bool false) := by go_simp
            have ld1 : (w4_5_10.alloc (.cells #[.bool false, .slice none 0 0] 25)).cell? ⟨w4_5_10.heap.size, 1, none⟩ = some (.slice none 0 0) := by go_simp
            have ldR : Row (w4_5_10.alloc (.cells #[.bool false, .slice none 0 0] 25)) w4_5_10.heap.size := row_new w4_5_10 _ 25
            clear hHeld
            generalize (w4_5_10.alloc (.cells #[.bool false, .slice none 0 0] 25)) = w4_5_10_11 at hBW ld0 ld1 ldR lc0 lc1 lcR khp41 khq41 hF hG ⊢
            generalize w4_5_10.heap.size = d at ldge ld0 ld1 ldR lab ⊢
            refine hK.out _ _ (kp3 (W := w41y) hBW ⟨Qq00, Qq01, Qq02, hB⟩) ?_
            intro hHeld
            clear hK K
            try simp only [pP, pN, pS, pZ, pC]
            have lcd : c ≠ d := by omega
            clear lab
            refine wpAnyH_ready (rs := [12]) (by kernel_rfl) (by simp) ?_
            refine cons' rfl (fun K hK => ?_)
            have lf := fun o => lcR.frozen o
            have X := stored2 (u0 := .bool (ng Z)) (u1 := .slice aq (ln (am Z)) (ln (am Z))) lc0 lc1 ld0 ld1 ldR hBW lcge lcd hF
            go_simp
            clear lc0 lc1 ld0 ld1 lf lcR ldR hHeld hBW hF
            generalize ((w4_5_10_11.setCell ⟨c, 0, none⟩ (.bool (ng Z))).setCell ⟨c, 1, none⟩ (.slice aq (ln (am Z)) (ln (am Z)))) = wl1 at X ⊢
            obtain ⟨lc0, lc1, ld0, ld1, ldR, hBW, hF⟩ := X
            have lcR := ldR
            refine hK.out _ _ (kp3 (W := w41y) hBW ⟨Qq00, Qq01, Qq02, hB⟩) ?_
            intro hHeld
            clear hK K
            try simp only [pP, pN, pS, pZ, pC]
            refine wpAnyH_ready (rs := [13]) (by kernel_rfl) (by simp) ?_
            refine cons' rfl (fun K hK => ?_)
            have lf := fun o => ldR.frozen o
            have X := stored2 (u0 := .bool (ng G)) (u1 := .slice ar (ln (am G)) (ln (am G))) ld0 ld1 lc0 lc1 lcR hBW ldge lcd.symm hF
            go_simp
            clear ld0 ld1 lc0 lc1 lf ldR lcR hHeld hBW hF
            generalize ((wl1.setCell ⟨d, 0, none⟩ (.bool (ng G))).setCell ⟨d, 1, none⟩ (.slice ar (ln (am G)) (ln (am G)))) = wl2 at X ⊢
            obtain ⟨ld0, ld1, lc0, lc1, lcR, hBW, hF⟩ := X
            have ldR := lcR
            refine hK.out _ _ (kp3 (W := w41y) hBW ⟨Qq00, Qq01, Qq02, hB⟩) ?_
            intro hHeld
            clear hK K
            try simp only [pP, pN, pS, pZ, pC]
            refine tk 14 (v := ?_) rfl (Or.inl ⟨by rfl, ?_⟩) ?_
            rotate_left
            · intro w9 hSw
              go_simp
              first | done | with_reducible rfl
            simp only [pP, pN, pS, pZ, pC]
            refine wpAnyH_done (by kernel_rfl) ?_ _
            go_wp2_with fail
            go_meet
            exact ⟨c, aq, rfl, lcge, lc0, lc1, hF, hBW⟩
          exact AllReadyH.nil
        refine consT rfl (fun K hK => ?_) ?_
        · skip
          go_simp
          have bb := below_alloc (w := w4_5) (.cells #[.bool false, .slice none 0 0] 25)
          have ldge := hBW.size
          replace hBW := hBW.trans (bb.mono hBW.size)
          replace khp41 := khp41.later bb
          replace khq41 := khq41.later bb
          replace hF := hF.later bb
          replace hG := hG.later bb
          clear bb
          have ld0 : (w4_5.alloc (.cells #[.bool false, .slice none 0 0] 25)).cell? ⟨w4_5.heap.size, 0, none⟩ = some (.bool false) := by go_simp
          have ld1 : (w4_5.alloc (.cells #[.bool false, .slice none 0 0] 25)).cell? ⟨w4_5.heap.size, 1, none⟩ = some (.slice none 0 0) := by go_simp
          have ldR : Row (w4_5.alloc (.cells #[.bool false, .slice none 0 0] 25)) w4_5.heap.size := row_new w4_5 _ 25
          clear hHeld
          generalize (w4_5.alloc (.cells #[.bool false, .slice none 0 0] 25)) = w4_5_11 at hBW ld0 ld1 ldR khp41 khq41 hF hG ⊢
          generalize w4_5.heap.size = d at ldge ld0 ld1 ldR ⊢
          refine hK.out _ _ (kp3 (W := w41y) hBW ⟨Qq00, Qq01, Qq02, hB⟩) ?_
          intro hHeld
          clear hK K
          try simp only [pP, pN, pS, pZ, pC]
          refine wpAnyH_ready (rs := [10]) (by kernel_rfl) (by simp) ?_
          refine consT rfl (fun K hK => ?_) ?_
          · skip
            go_simp
            have bb := below_alloc (w := w4_5_11) (.cells #[.bool false, .slice none 0 0] 25)
            have lcge := hBW.size
            have lab := ldR.lt
            replace hBW := hBW.trans (bb.mono hBW.size)
            replace khp41 := khp41.later bb
            replace khq41 := khq41.later bb
            replace hF := hF.later bb
            replace hG := hG.later bb
            replace ld0 := below_cell bb ld0
            replace ld1 := below_cell bb ld1
            replace ldR := below_row bb ldR
            clear bb
            have lc0 : (w4_5_11.alloc (.cells #[.bool false, .slice none 0 0] 25)).cell? ⟨w4_5_11.heap.size, 0, none⟩ = some (.bool false) := by go_simp
            have lc1 : (w4_5_11.alloc (.cells #[.bool false, .slice none 0 0] 25)).cell? ⟨w4_5_11.heap.size, 1, none⟩ = some (.slice none 0 0) := by go_simp
            have lcR : Row (w4_5_11.alloc (.cells #[.bool false, .slice none 0 0] 25)) w4_5_11.heap.size := row_new w4_5_11 _ 25
            clear hHeld
            generalize (w4_5_11.alloc (.cells #[.bool false, .slice none 0 0] 25)) = w4_5_11_10 at hBW lc0 lc1 lcR ld0 ld1 ldR khp41 khq41 hF hG ⊢
            generalize w4_5_11.heap.size = c at lcge lc0 lc1 lcR lab ⊢
            refine hK.out _ _ (kp3 (W := w41y) hBW ⟨Qq00, Qq01, Qq02, hB⟩) ?_
            intro hHeld
            clear hK K
            try simp only [pP, pN, pS, pZ, pC]
            have lcd : c ≠ d := by omega
            clear lab
            refine wpAnyH_ready (rs := [12]) (by kernel_rfl) (by simp) ?_
            refine cons' rfl (fun K hK => ?_)
            have lf := fun o => lcR.frozen o
            have X := stored2 (u0 := .bool (ng Z)) (u1 := .slice aq (ln (am Z)) (ln (am Z))) lc0 lc1 ld0 ld1 ldR hBW lcge lcd hF
            go_simp
            clear lc0 lc1 ld0 ld1 lf lcR ldR hHeld hBW hF
            generalize ((w4_5_11_10.setCell ⟨c, 0, none⟩ (.bool (ng Z))).setCell ⟨c, 1, none⟩ (.slice aq (ln (am Z)) (ln (am Z)))) = wl1 at X ⊢
            obtain ⟨lc0, lc1, ld0, ld1, ldR, hBW, hF⟩ := X
            have lcR := ldR
            refine hK.out _ _ (kp3 (W := w41y) hBW ⟨Qq00, Qq01, Qq02, hB⟩) ?_
            intro hHeld
            clear hK K
            try simp only [pP, pN, pS, pZ, pC]
            refine wpAnyH_ready (rs := [13]) (by kernel_rfl) (by simp) ?_
            refine cons' rfl (fun K hK => ?_)
            have lf := fun o => ldR.frozen o
            have X := stored2 (u0 := .bool (ng G)) (u1 := .slice ar (ln (am G)) (ln (am G))) ld0 ld1 lc0 lc1 lcR hBW ldge lcd.symm hF
            go_simp
            clear ld0 ld1 lc0 lc1 lf ldR lcR hHeld hBW hF
            generalize ((wl1.setCell ⟨d, 0, none⟩ (.bool (ng G))).setCell ⟨d, 1, none⟩ (.slice ar (ln (am G)) (ln (am G)))) = wl2 at X ⊢
            obtain ⟨ld0, ld1, lc0, lc1, lcR, hBW, hF⟩ := X
            have ldR := lcR
            refine hK.out _ _ (kp3 (W := w41y) hBW ⟨Qq00, Qq01, Qq02, hB⟩) ?_
            intro hHeld
            clear hK K
            try simp only [pP, pN, pS, pZ, pC]
            refine tk 14 (v := ?_) rfl (Or.inl ⟨by rfl, ?_⟩) ?_
            rotate_left
            · intro w9 hSw
              go_simp
              first | done | with_reducible rfl
            simp only [pP, pN, pS, pZ, pC]
            refine wpAnyH_done (by kernel_rfl) ?_ _
            go_wp2_with fail
            go_meet
            exact ⟨c, aq, rfl, lcge, lc0, lc1, hF, hBW⟩
          exact AllReadyH.nil
        exact AllReadyH.nil
      refine consT rfl (fun K hK => ?_) ?_
      · skip
        go_simp
        have bb := below_alloc (w := w4) (.cells #[.bool false, .slice none 0 0] 25)
        have lcge := hBW.size
        replace hBW := hBW.trans (bb.mono hBW.size)
        replace khp41 := khp41.later bb
        replace khq41 := khq41.later bb
        clear bb
        have lc0 : (w4.alloc (.cells #[.bool false, .slice none 0 0] 25)).cell? ⟨w4.heap.size, 0, none⟩ = some (.bool false) := by go_simp
        have lc1 : (w4.alloc (.cells #[.bool false, .slice none 0 0] 25)).cell? ⟨w4.heap.size, 1, none⟩ = some (.slice none 0 0) := by go_simp
        have lcR : Row (w4.alloc (.cells #[.bool false, .slice none 0 0] 25)) w4.heap.size := row_new w4 _ 25
        clear hHeld
        generalize (w4.alloc (.cells #[.bool false, .slice none 0 0] 25)) = w4_10 at hBW lc0 lc1 lcR khp41 khq41 ⊢
        generalize w4.heap.size = c at lcge lc0 lc1 lcR ⊢
        refine hK.out _ _ (kp3 (W := w41y) hBW ⟨Qq00, Qq01, Qq02, hB⟩) ?_
        intro hHeld
        clear hK K
        try simp only [pP, pN, pS, pZ, pC]
        refine wpAnyH_ready (rs := [5, 11]) (by kernel_rfl) (by simp) ?_
        refine consT rfl (fun K hK => ?_) ?_
        · skip
          go_simp
          refine Calls.mono (HF.out _ p41 q41 khp41 khq41) ?_
          rintro e w4_10_5 ⟨aq, ar, rfl, hF, hG⟩
          have bb := hF.below
          replace hF := hF.back hBW
          replace hG := hG.back hBW
          replace hBW := hBW.trans (bb.mono hBW.size)
          replace khp41 := khp41.later bb
          replace khq41 := khq41.later bb
          replace lc0 := below_cell bb lc0
          replace lc1 := below_cell bb lc1
          replace lcR := below_row bb lcR
          clear bb
          go_wp2_with fail
          refine hK.out _ _ (kp3 (W := w41y) hBW ⟨Qq00, Qq01, Qq02, hB⟩) ?_
          clear hHeld
          intro hHeld
          clear hK K
          try simp only [pP, pN, pS, pZ, pC]
          refine tk 6 (v := ?_) rfl (Or.inl ⟨by rfl, ?_⟩) ?_
          rotate_left
          · intro w9 hSw
            go_simp
            first | done | with_reducible rfl
          simp only [pP, pN, pS, pZ, pC]
          refine tk 7 (v := ?_) rfl (Or.inl ⟨by rfl, ?_⟩) ?_
          rotate_left
          · intro w9 hSw
            go_simp
            first | done | with_reducible rfl
          simp only [pP, pN, pS, pZ, pC]
          refine tk 8 (v := ?_) rfl (Or.inl ⟨by rfl, ?_⟩) ?_
          rotate_left
          · intro w9 hSw
            go_simp
            first | done | with_reducible rfl
          simp only [pP, pN, pS, pZ, pC]
          refine tk 9 (v := ?_) rfl (Or.inl ⟨by rfl, ?_⟩) ?_
          rotate_left
          · intro w9 hSw
            go_simp
            first | done | with_reducible rfl
          simp only [pP, pN, pS, pZ, pC]
          refine wpAnyH_ready (rs := [11]) (by kernel_rfl) (by simp) ?_
          refine consT rfl (fun K hK => ?_) ?_
          · skip
            go_simp
            have bb := below_alloc (w := w4_10_5) (.cells #[.bool false, .slice none 0 0] 25)
            have ldge := hBW.size
            have lab := lcR.lt
            replace hBW := hBW.trans (bb.mono hBW.size)
            replace khp41 := khp41.later bb
            replace khq41 := khq41.later bb
            replace hF := hF.later bb
            replace hG := hG.later bb
            replace lc0 := below_cell bb lc0
            replace lc1 := below_cell bb lc1
            replace lcR := below_row bb lcR
            clear bb
            have ld0 : (w4_10_5.alloc (.cells #[.bool false, .slice none 0 0] 25)).cell? ⟨w4_10_5.heap.size, 0, none⟩ = some (.bool false) := by go_simp
            have ld1 : (w4_10_5.alloc (.cells #[.bool false, .slice none 0 0] 25)).cell? ⟨w4_10_5.heap.size, 1, none⟩ = some (.slice none 0 0) := by go_simp
            have ldR : Row (w4_10_5.alloc (.cells #[.bool false, .slice none 0 0] 25)) w4_10_5.heap.size := row_new w4_10_5 _ 25
            clear hHeld
            generalize (w4_10_5.alloc (.cells #[.bool false, .slice none 0 0] 25)) = w4_10_5_11 at hBW ld0 ld1 ldR lc0 lc1 lcR khp41 khq41 hF hG ⊢
            generalize w4_10_5.heap.size = d at ldge ld0 ld1 ldR lab ⊢
            refine hK.out _ _ (kp3 (W := w41y) hBW ⟨Qq00, Qq01, Qq02, hB⟩) ?_
            intro hHeld
            clear hK K
            try simp only [pP, pN, pS, pZ, pC]
            have lcd : c ≠ d := by omega
            clear lab
            refine wpAnyH_ready (rs := [12]) (by kernel_rfl) (by simp) ?_
            refine cons' rfl (fun K hK => ?_)
            have lf := fun o => lcR.frozen o
            have X := stored2 (u0 := .bool (ng Z)) (u1 := .slice aq (ln (am Z)) (ln (am Z))) lc0 lc1 ld0 ld1 ldR hBW lcge lcd hF
            go_simp
            clear lc0 lc1 ld0 ld1 lf lcR ldR hHeld hBW hF
            generalize ((w4_10_5_11.setCell ⟨c, 0, none⟩ (.bool (ng Z))).setCell ⟨c, 1, none⟩ (.slice aq (ln (am Z)) (ln (am Z)))) = wl1 at X ⊢
            obtain ⟨lc0, lc1, ld0, ld1, ldR, hBW, hF⟩ := X
            have lcR := ldR
            refine hK.out _ _ (kp3 (W := w41y) hBW ⟨Qq00, Qq01, Qq02, hB⟩) ?_
            intro hHeld
            clear hK K
            try simp only [pP, pN, pS, pZ, pC]
            refine wpAnyH_ready (rs := [13]) (by kernel_rfl) (by simp) ?_
            refine cons' rfl (fun K hK => ?_)
            have lf := fun o => ldR.frozen o
            have X := stored2 (u0 := .bool (ng G)) (u1 := .slice ar (ln (am G)) (ln (am G))) ld0 ld1 lc0 lc1 lcR hBW ldge lcd.symm hF
            go_simp
            clear ld0 ld1 lc0 lc1 lf ldR lcR hHeld hBW hF
            generalize ((wl1.setCell ⟨d, 0, none⟩ (.bool (ng G))).setCell ⟨d, 1, none⟩ (.slice ar (ln (am G)) (ln (am G)))) = wl2 at X ⊢
            obtain ⟨ld0, ld1, lc0, lc1, lcR, hBW, hF⟩ := X
            have ldR := lcR
            refine hK.out _ _ (kp3 (W := w41y) hBW ⟨Qq00, Qq01, Qq02, hB⟩) ?_
            intro hHeld
            clear hK K
            try simp only [pP, pN, pS, pZ, pC]
            refine tk 14 (v := ?_) rfl (Or.inl ⟨by rfl, ?_⟩) ?_
            rotate_left
            · intro w9 hSw
              go_simp
              first | done | with_reducible rfl
            simp only [pP, pN, pS, pZ, pC]
            refine wpAnyH_done (by kernel_rfl) ?_ _
            go_wp2_with fail
            go_meet
            exact ⟨c, aq, rfl, lcge, lc0, lc1, hF, hBW⟩
          exact AllReadyH.nil
        refine consT rfl (fun K hK => ?_) ?_
        · skip
          go_simp
          have bb := below_alloc (w := w4_10) (.cells #[.bool false, .slice none 0 0] 25)
          have ldge := hBW.size
          have lab := lcR.lt
          replace hBW := hBW.trans (bb.mono hBW.size)
          replace khp41 := khp41.later bb
          replace khq41 := khq41.later bb
          replace lc0 := below_cell bb lc0
          replace lc1 := below_cell bb lc1
          replace lcR := below_row bb lcR
          clear bb
          have ld0 : (w4_10.alloc (.cells #[.bool false, .slice none 0 0] 25)).cell? ⟨w4_10.heap.size, 0, none⟩ = some (.bool false) := by go_simp
          have ld1 : (w4_10.alloc (.cells #[.bool false, .slice none 0 0] 25)).cell? ⟨w4_10.heap.size, 1, none⟩ = some (.slice none 0 0) := by go_simp
          have ldR : Row (w4_10.alloc (.cells #[.bool false, .slice none 0 0] 25)) w4_10.heap.size := row_new w4_10 _ 25
          clear hHeld
          generalize (w4_10.alloc (.cells #[.bool false, .slice none 0 0] 25)) = w4_10_11 at hBW ld0 ld1 ldR lc0 lc1 lcR khp41 khq41 ⊢
          generalize w4_10.heap.size = d at ldge ld0 ld1 ldR lab ⊢
          refine hK.out _ _ (kp3 (W := w41y) hBW ⟨Qq00, Qq01, Qq02, hB⟩) ?_
          intro hHeld
          clear hK K
          try simp only [pP, pN, pS, pZ, pC]
          refine wpAnyH_ready (rs := [5]) (by kernel_rfl) (by simp) ?_
          refine consT rfl (fun K hK => ?_) ?_
          · skip
            go_simp
            refine Calls.mono (HF.out _ p41 q41 khp41 khq41) ?_
            rintro e w4_10_11_5 ⟨aq, ar, rfl, hF, hG⟩
            have bb := hF.below
            replace hF := hF.back hBW
            replace hG := hG.back hBW
            replace hBW := hBW.trans (bb.mono hBW.size)
            replace khp41 := khp41.later bb
            replace khq41 := khq41.later bb
            replace lc0 := below_cell bb lc0
            replace lc1 := below_cell bb lc1
            replace lcR := below_row bb lcR
            replace ld0 := below_cell bb ld0
            replace ld1 := below_cell bb ld1
            replace ldR := below_row bb ldR
            clear bb
            go_wp2_with fail
            refine hK.out _ _ (kp3 (W := w41y) hBW ⟨Qq00, Qq01, Qq02, hB⟩) ?_
            clear hHeld
            intro hHeld
            clear hK K
            try simp only [pP, pN, pS, pZ, pC]
            refine tk 6 (v := ?_) rfl (Or.inl ⟨by rfl, ?_⟩) ?_
            rotate_left
            · intro w9 hSw
              go_simp
              first | done | with_reducible rfl
            simp only [pP, pN, pS, pZ, pC]
            refine tk 7 (v := ?_) rfl (Or.inl ⟨by rfl, ?_⟩) ?_
            rotate_left
            · intro w9 hSw
              go_simp
              first | done | with_reducible rfl
            simp only [pP, pN, pS, pZ, pC]
            refine tk 8 (v := ?_) rfl (Or.inl ⟨by rfl, ?_⟩) ?_
            rotate_left
            · intro w9 hSw
              go_simp
              first | done | with_reducible rfl
            simp only [pP, pN, pS, pZ, pC]
            refine tk 9 (v := ?_) rfl (Or.inl ⟨by rfl, ?_⟩) ?_
            rotate_left
            · intro w9 hSw
              go_simp
              first | done | with_reducible rfl
            simp only [pP, pN, pS, pZ, pC]
            have lcd : c ≠ d := by omega
            clear lab
            refine wpAnyH_ready (rs := [12]) (by kernel_rfl) (by simp) ?_
            refine cons' rfl (fun K hK => ?_)
            have lf := fun o => lcR.frozen o
            have X := stored2 (u0 := .bool (ng Z)) (u1 := .slice aq (ln (am Z)) (ln (am Z))) lc0 lc1 ld0 ld1 ldR hBW lcge lcd hF
            go_simp
            clear lc0 lc1 ld0 ld1 lf lcR ldR hHeld hBW hF
            generalize ((w4_10_11_5.setCell ⟨c, 0, none⟩ (.bool (ng Z))).setCell ⟨c, 1, none⟩ (.slice aq (ln (am Z)) (ln (am Z)))) = wl1 at X ⊢
            obtain ⟨lc0, lc1, ld0, ld1, ldR, hBW, hF⟩ := X
            have lcR := ldR
            refine hK.out _ _ (kp3 (W := w41y) hBW ⟨Qq00, Qq01, Qq02, hB⟩) ?_
            intro hHeld
            clear hK K
            try simp only [pP, pN, pS, pZ, pC]
            refine wpAnyH_ready (rs := [13]) (by kernel_rfl) (by simp) ?_
            refine cons' rfl (fun K hK => ?_)
            have lf := fun o => ldR.frozen o
            have X := stored2 (u0 := .bool (ng G)) (u1 := .slice ar (ln (am G)) (ln (am G))) ld0 ld1 lc0 lc1 lcR hBW ldge lcd.symm hF
            go_simp
            clear ld0 ld1 lc0 lc1 lf ldR lcR hHeld hBW hF
            generalize ((wl1.setCell ⟨d, 0, none⟩ (.bool (ng G))).setCell ⟨d, 1, none⟩ (.slice ar (ln (am G)) (ln (am G)))) = wl2 at X ⊢
            obtain ⟨ld0, ld1, lc0, lc1, lcR, hBW, hF⟩ := X
            have ldR := lcR
            refine hK.out _ _ (kp3 (W := w41y) hBW ⟨Qq00, Qq01, Qq02, hB⟩) ?_
            intro hHeld
            clear hK K
            try simp only [pP, pN, pS, pZ, pC]
            refine tk 14 (v := ?_) rfl (Or.inl ⟨by rfl, ?_⟩) ?_
            rotate_left
            · intro w9 hSw
              go_simp
              first | done | with_reducible rfl
            simp only [pP, pN, pS, pZ, pC]
            refine wpAnyH_done (by kernel_rfl) ?_ _
            go_wp2_with fail
            go_meet
            exact ⟨c, aq, rfl, lcge, lc0, lc1, hF, hBW⟩
          exact AllReadyH.nil
        exact AllReadyH.nil
      refine consT rfl (fun K hK => ?_) ?_
      · skip
        go_simp
        have bb := below_alloc (w := w4) (.cells #[.bool false, .slice none 0 0] 25)
        have ldge := hBW.size
        replace hBW := hBW.trans (bb.mono hBW.size)
        replace khp41 := khp41.later bb
        replace khq41 := khq41.later bb
        clear bb
        have ld0 : (w4.alloc (.cells #[.bool false, .slice none 0 0] 25)).cell? ⟨w4.heap.size, 0, none⟩ = some (.bool false) := by go_simp
        have ld1 : (w4.alloc (.cells #[.bool false, .slice none 0 0] 25)).cell? ⟨w4.heap.size, 1, none⟩ = some (.slice none 0 0) := by go_simp
        have ldR : Row (w4.alloc (.cells #[.bool false, .slice none 0 0] 25)) w4.heap.size := row_new w4 _ 25
        clear hHeld
        generalize (w4.alloc (.cells #[.bool false, .slice none 0 0] 25)) = w4_11 at hBW ld0 ld1 ldR khp41 khq41 ⊢
        generalize w4.heap.size = d at ldge ld0 ld1 ldR ⊢
        refine hK.out _ _ (kp3 (W := w41y) hBW ⟨Qq00, Qq01, Qq02, hB⟩) ?_
        intro hHeld
        clear hK K
        try simp only [pP, pN, pS, pZ, pC]
        refine wpAnyH_ready (rs := [5, 10]) (by kernel_rfl) (by simp) ?_
        refine consT rfl (fun K hK => ?_) ?_
        · skip
          go_simp
          refine Calls.mono (HF.out _ p41 q41 khp41 khq41) ?_
          rintro e w4_11_5 ⟨aq, ar, rfl, hF, hG⟩
          have bb := hF.below
          replace hF := hF.back hBW
          replace hG := hG.back hBW
          replace hBW := hBW.trans (bb.mono hBW.size)
          replace khp41 := khp41.later bb
          replace khq41 := khq41.later bb
          replace ld0 := below_cell bb ld0
          replace ld1 := below_cell bb ld1
          replace ldR := below_row bb ldR
          clear bb
          go_wp2_with fail
          refine hK.out _ _ (kp3 (W := w41y) hBW ⟨Qq00, Qq01, Qq02, hB⟩) ?_
          clear hHeld
          intro hHeld
          clear hK K
          try simp only [pP, pN, pS, pZ, pC]
          refine tk 6 (v := ?_) rfl (Or.inl ⟨by rfl, ?_⟩) ?_
          rotate_left
          · intro w9 hSw
            go_simp
            first | done | with_reducible rfl
          simp only [pP, pN, pS, pZ, pC]
          refine tk 7 (v := ?_) rfl (Or.inl ⟨by rfl, ?_⟩) ?_
          rotate_left
          · intro w9 hSw
            go_simp
            first | done | with_reducible rfl
          simp only [pP, pN, pS, pZ, pC]
          refine tk 8 (v := ?_) rfl (Or.inl ⟨by rfl, ?_⟩) ?_
          rotate_left
          · intro w9 hSw
            go_simp
            first | done | with_reducible rfl
          simp only [pP, pN, pS, pZ, pC]
          refine tk 9 (v := ?_) rfl (Or.inl ⟨by rfl, ?_⟩) ?_
          rotate_left
          · intro w9 hSw
            go_simp
            first | done | with_reducible rfl
          simp only [pP, pN, pS, pZ, pC]
          refine wpAnyH_ready (rs := [10]) (by kernel_rfl) (by simp) ?_
          refine consT rfl (fun K hK => ?_) ?_
          · skip
            go_simp
            have bb := below_alloc (w := w4_11_5) (.cells #[.bool false, .slice none 0 0] 25)
            have lcge := hBW.size
            have lab := ldR.lt
            replace hBW := hBW.trans (bb.mono hBW.size)
            replace khp41 := khp41.later bb
            replace khq41 := khq41.later bb
            replace hF := hF.later bb
            replace hG := hG.later bb
            replace ld0 := below_cell bb ld0
            replace ld1 := below_cell bb ld1
            replace ldR := below_row bb ldR
            clear bb
            have lc0 : (w4_11_5.alloc (.cells #[.bool false, .slice none 0 0] 25)).cell? ⟨w4_11_5.heap.size, 0, none⟩ = some (.bool false) := by go_simp
            have lc1 : (w4_11_5.alloc (.cells #[.bool false, .slice none 0 0] 25)).cell? ⟨w4_11_5.heap.size, 1, none⟩ = some (.slice none 0 0) := by go_simp
            have lcR : Row (w4_11_5.alloc (.cells #[.bool false, .slice none 0 0] 25)) w4_11_5.heap.size := row_new w4_11_5 _ 25
            clear hHeld
            generalize (w4_11_5.alloc (.cells #[.bool false, .slice none 0 0] 25)) = w4_11_5_10 at hBW lc0 lc1 lcR ld0 ld1 ldR khp41 khq41 hF hG ⊢
            generalize w4_11_5.heap.size = c at lcge lc0 lc1 lcR lab ⊢
            refine hK.out _ _ (kp3 (W := w41y) hBW ⟨Qq00, Qq01, Qq02, hB⟩) ?_
            intro hHeld
            clear hK K
            try simp only [pP, pN, pS, pZ, pC]
            have lcd : c ≠ d := by omega
            clear lab
            refine wpAnyH_ready (rs := [12]) (by kernel_rfl) (by simp) ?_
            refine cons' rfl (fun K hK => ?_)
            have lf := fun o => lcR.frozen o
            have X := stored2 (u0 := .bool (ng Z)) (u1 := .slice aq (ln (am Z)) (ln (am Z))) lc0 lc1 ld0 ld1 ldR hBW lcge lcd hF
            go_simp
            clear lc0 lc1 ld0 ld1 lf lcR ldR hHeld hBW hF
            generalize ((w4_11_5_10.setCell ⟨c, 0, none⟩ (.bool (ng Z))).setCell ⟨c, 1, none⟩ (.slice aq (ln (am Z)) (ln (am Z)))) = wl1 at X ⊢
            obtain ⟨lc0, lc1, ld0, ld1, ldR, hBW, hF⟩ := X
            have lcR := ldR
            refine hK.out _ _ (kp3 (W := w41y) hBW ⟨Qq00, Qq01, Qq02, hB⟩) ?_
            intro hHeld
            clear hK K
            try simp only [pP, pN, pS, pZ, pC]
            refine wpAnyH_ready (rs := [13]) (by kernel_rfl) (by simp) ?_
            refine cons' rfl (fun K hK => ?_)
            have lf := fun o => ldR.frozen o
            have X := stored2 (u0 := .bool (ng G)) (u1 := .slice ar (ln (am G)) (ln (am G))) ld0 ld1 lc0 lc1 lcR hBW ldge lcd.symm hF
            go_simp
            clear ld0 ld1 lc0 lc1 lf ldR lcR hHeld hBW hF
            generalize ((wl1.setCell ⟨d, 0, none⟩ (.bool (ng G))).setCell ⟨d, 1, none⟩ (.slice ar (ln (am G)) (ln (am G)))) = wl2 at X ⊢
            obtain ⟨ld0, ld1, lc0, lc1, lcR, hBW, hF⟩ := X
            have ldR := lcR
            refine hK.out _ _ (kp3 (W := w41y) hBW ⟨Qq00, Qq01, Qq02, hB⟩) ?_
            intro hHeld
            clear hK K
            try simp only [pP, pN, pS, pZ, pC]
            refine tk 14 (v := ?_) rfl (Or.inl ⟨by rfl, ?_⟩) ?_
            rotate_left
            · intro w9 hSw
              go_simp
              first | done | with_reducible rfl
            simp only [pP, pN, pS, pZ, pC]
            refine wpAnyH_done (by kernel_rfl) ?_ _
            go_wp2_with fail
            go_meet
            exact ⟨c, aq, rfl, lcge, lc0, lc1, hF, hBW⟩
          exact AllReadyH.nil
        refine consT rfl (fun K hK => ?_) ?_
        · skip
          go_simp
          have bb := below_alloc (w := w4_11) (.cells #[.bool false, .slice none 0 0] 25)
          have lcge := hBW.size
          have lab := ldR.lt
          replace hBW := hBW.trans (bb.mono hBW.size)
          replace khp41 := khp41.later bb
          replace khq41 := khq41.later bb
          replace ld0 := below_cell bb ld0
          replace ld1 := below_cell bb ld1
          replace ldR := below_row bb ldR
          clear bb
          have lc0 : (w4_11.alloc (.cells #[.bool false, .slice none 0 0] 25)).cell? ⟨w4_11.heap.size, 0, none⟩ = some (.bool false) := by go_simp
          have lc1 : (w4_11.alloc (.cells #[.bool false, .slice none 0 0] 25)).cell? ⟨w4_11.heap.size, 1, none⟩ = some (.slice none 0 0) := by go_simp
          have lcR : Row (w4_11.alloc (.cells #[.bool false, .slice none 0 0] 25)) w4_11.heap.size := row_new w4_11 _ 25
          clear hHeld
          generalize (w4_11.alloc (.cells #[.bool false, .slice none 0 0] 25)) = w4_11_10 at hBW lc0 lc1 lcR ld0 ld1 ldR khp41 khq41 ⊢
          generalize w4_11.heap.size = c at lcge lc0 lc1 lcR lab ⊢
          refine hK.out _ _ (kp3 (W := w41y) hBW ⟨Qq00, Qq01, Qq02, hB⟩) ?_
          intro hHeld
          clear hK K
          try simp only [pP, pN, pS, pZ, pC]
          refine wpAnyH_ready (rs := [5]) (by kernel_rfl) (by simp) ?_
          refine consT rfl (fun K hK => ?_) ?_
          · skip
            go_simp
            refine Calls.mono (HF.out _ p41 q41 khp41 khq41) ?_
            rintro e w4_11_10_5 ⟨aq, ar, rfl, hF, hG⟩
            have bb := hF.below
            replace hF := hF.back hBW
            replace hG := hG.back hBW
            replace hBW := hBW.trans (bb.mono hBW.size)
            replace khp41 := khp41.later bb
            replace khq41 := khq41.later bb
            replace lc0 := below_cell bb lc0
            replace lc1 := below_cell bb lc1
            replace lcR := below_row bb lcR
            replace ld0 := below_cell bb ld0
            replace ld1 := below_cell bb ld1
            replace ldR := below_row bb ldR
            clear bb
            go_wp2_with fail
            refine hK.out _ _ (kp3 (W := w41y) hBW ⟨Qq00, Qq01, Qq02, hB⟩) ?_
            clear hHeld
            intro hHeld
            clear hK K
            try simp only [pP, pN, pS, pZ, pC]
            refine tk 6 (v := ?_) rfl (Or.inl ⟨by rfl, ?_⟩) ?_
            rotate_left
            · intro w9 hSw
              go_simp
              first | done | with_reducible rfl
            simp only [pP, pN, pS, pZ, pC]
            refine tk 7 (v := ?_) rfl (Or.inl ⟨by rfl, ?_⟩) ?_
            rotate_left
            · intro w9 hSw
              go_simp
              first | done | with_reducible rfl
            simp only [pP, pN, pS, pZ, pC]
            refine tk 8 (v := ?_) rfl (Or.inl ⟨by rfl, ?_⟩) ?_
            rotate_left
            · intro w9 hSw
              go_simp
              first | done | with_reducible rfl
            simp only [pP, pN, pS, pZ, pC]
            refine tk 9 (v := ?_) rfl (Or.inl ⟨by rfl, ?_⟩) ?_
            rotate_left
            · intro w9 hSw
              go_simp
              first | done | with_reducible rfl
            simp only [pP, pN, pS, pZ, pC]
            have lcd : c ≠ d := by omega
            clear lab
            refine wpAnyH_ready (rs := [12]) (by kernel_rfl) (by simp) ?_
            refine cons' rfl (fun K hK => ?_)
            have lf := fun o => lcR.frozen o
            have X := stored2 (u0 := .bool (ng Z)) (u1 := .slice aq (ln (am Z)) (ln (am Z))) lc0 lc1 ld0 ld1 ldR hBW lcge lcd hF
            go_simp
            clear lc0 lc1 ld0 ld1 lf lcR ldR hHeld hBW hF
            generalize ((w4_11_10_5.setCell ⟨c, 0, none⟩ (.bool (ng Z))).setCell ⟨c, 1, none⟩ (.slice aq (ln (am Z)) (ln (am Z)))) = wl1 at X ⊢
            obtain ⟨lc0, lc1, ld0, ld1, ldR, hBW, hF⟩ := X
            have lcR := ldR
            refine hK.out _ _ (kp3 (W := w41y) hBW ⟨Qq00, Qq01, Qq02, hB⟩) ?_
            intro hHeld
            clear hK K
            try simp only [pP, pN, pS, pZ, pC]
            refine wpAnyH_ready (rs := [13]) (by kernel_rfl) (by simp) ?_
            refine cons' rfl (fun K hK => ?_)
            have lf := fun o => ldR.frozen o
            have X := stored2 (u0 := .bool (ng G)) (u1 := .slice ar (ln (am G)) (ln (am G))) ld0 ld1 lc0 lc1 lcR hBW ldge lcd.symm hF
            go_simp
            clear ld0 ld1 lc0 lc1 lf ldR lcR hHeld hBW hF
            generalize ((wl1.setCell ⟨d, 0, none⟩ (.bool (ng G))).setCell ⟨d, 1, none⟩ (.slice ar (ln (am G)) (ln (am G)))) = wl2 at X ⊢
            obtain ⟨ld0, ld1, lc0, lc1, lcR, hBW, hF⟩ := X
            have ldR := lcR
            refine hK.out _ _ (kp3 (W := w41y) hBW ⟨Qq00, Qq01, Qq02, hB⟩) ?_
            intro hHeld
            clear hK K
            try simp only [pP, pN, pS, pZ, pC]
            refine tk 14 (v := ?_) rfl (Or.inl ⟨by rfl, ?_⟩) ?_
            rotate_left
            · intro w9 hSw
              go_simp
              first | done | with_reducible rfl
            simp only [pP, pN, pS, pZ, pC]
            refine wpAnyH_done (by kernel_rfl) ?_ _
            go_wp2_with fail
            go_meet
            exact ⟨c, aq, rfl, lcge, lc0, lc1, hF, hBW⟩
          exact AllReadyH.nil
        exact AllReadyH.nil
      exact AllReadyH.nil
    refine consT rfl (fun K hK => ?_) ?_
    · skip
      go_simp
      have bb := below_alloc (w := w0) (.cells #[.bool false, .slice none 0 0] 25)
      have lcge := hBW.size
      replace hBW := hBW.trans (bb.mono hBW.size)
      replace khp41 := khp41.later bb
      replace khq41 := khq41.later bb
      clear bb
      have lc0 : (w0.alloc (.cells #[.bool false, .slice none 0 0] 25)).cell? ⟨w0.heap.size, 0, none⟩ = some (.bool false) := by go_simp
      have lc1 : (w0.alloc (.cells #[.bool false, .slice none 0 0] 25)).cell? ⟨w0.heap.size, 1, none⟩ = some (.slice none 0 0) := by go_simp
      have lcR : Row (w0.alloc (.cells #[.bool false, .slice none 0 0] 25)) w0.heap.size := row_new w0 _ 25
      clear hHeld
      generalize (w0.alloc (.cells #[.bool false, .slice none 0 0] 25)) = w10 at hBW lc0 lc1 lcR khp41 khq41 ⊢
      generalize w0.heap.size = c at lcge lc0 lc1 lcR ⊢
      refine hK.out _ _ (kp3 (W := w41y) hBW ⟨Qq00, Qq01, Qq02, hB⟩) ?_
      intro hHeld
      clear hK K
      try simp only [pP, pN, pS, pZ, pC]
      refine wpAnyH_ready (rs := [4, 11]) (by kernel_rfl) (by simp) ?_
      refine consT rfl (fun K hK => ?_) ?_
      · skip
        go_simp
        refine Calls.mono (positive_is q41 (ln V1) (ln V1) _) ?_
        rintro e w10_4 ⟨rfl, bb⟩
        replace hBW := hBW.trans (bb.mono hBW.size)
        replace khp41 := khp41.later bb
        replace khq41 := khq41.later bb
        replace lc0 := below_cell bb lc0
        replace lc1 := below_cell bb lc1
        replace lcR := below_row bb lcR
        clear bb
        go_wp2_with fail
        refine hK.out _ _ (kp3 (W := w41y) hBW ⟨Qq00, Qq01, Qq02, hB⟩) ?_
        clear hHeld
        intro hHeld
        clear hK K
        try simp only [pP, pN, pS, pZ, pC]
        refine wpAnyH_ready (rs := [5, 11]) (by kernel_rfl) (by simp) ?_
        refine consT rfl (fun K hK => ?_) ?_
        · skip
          go_simp
          refine Calls.mono (HF.out _ p41 q41 khp41 khq41) ?_
          rintro e w10_4_5 ⟨aq, ar, rfl, hF, hG⟩
          have bb := hF.below
          replace hF := hF.back hBW
          replace hG := hG.back hBW
          replace hBW := hBW.trans (bb.mono hBW.size)
          replace khp41 := khp41.later bb
          replace khq41 := khq41.later bb
          replace lc0 := below_cell bb lc0
          replace lc1 := below_cell bb lc1
          replace lcR := below_row bb lcR
          clear bb
          go_wp2_with fail
          refine hK.out _ _ (kp3 (W := w41y) hBW ⟨Qq00, Qq01, Qq02, hB⟩) ?_
          clear hHeld
          intro hHeld
          clear hK K
          try simp only [pP, pN, pS, pZ, pC]
          refine tk 6 (v := ?_) rfl (Or.inl ⟨by rfl, ?_⟩) ?_
          rotate_left
          · intro w9 hSw
            go_simp
            first | done | with_reducible rfl
          simp only [pP, pN, pS, pZ, pC]
          refine tk 7 (v := ?_) rfl (Or.inl ⟨by rfl, ?_⟩) ?_
          rotate_left
          · intro w9 hSw
            go_simp
            first | done | with_reducible rfl
          simp only [pP, pN, pS, pZ, pC]
          refine tk 8 (v := ?_) rfl (Or.inl ⟨by rfl, ?_⟩) ?_
          rotate_left
          · intro w9 hSw
            go_simp
            first | done | with_reducible rfl
          simp only [pP, pN, pS, pZ, pC]
          refine tk 9 (v := ?_) rfl (Or.inl ⟨by rfl, ?_⟩) ?_
          rotate_left
          · intro w9 hSw
            go_simp
            first | done | with_reducible rfl
          simp only [pP, pN, pS, pZ, pC]
          refine wpAnyH_ready (rs := [11]) (by kernel_rfl) (by simp) ?_
          refine consT rfl (fun K hK => ?_) ?_
          · skip
            go_simp
            have bb := below_alloc (w := w10_4_5) (.cells #[.bool false, .slice none 0 0] 25)
            have ldge := hBW.size
            have lab := lcR.lt
            replace hBW := hBW.trans (bb.mono hBW.size)
            replace khp41 := khp41.later bb
            replace khq41 := khq41.later bb
            replace hF := hF.later bb
            replace hG := hG.later bb
            replace lc0 := below_cell bb lc0
            replace lc1 := below_cell bb lc1
            replace lcR := below_row bb lcR
            clear bb
            have ld0 : (w10_4_5.alloc (.cells #[.bool false, .slice none 0 0] 25)).cell? ⟨w10_4_5.heap.size, 0, none⟩ = some (.bool false) := by go_simp
            have ld1 : (w10_4_5.alloc (.cells #[.bool false, .slice none 0 0] 25)).cell? ⟨w10_4_5.heap.size, 1, none⟩ = some (.slice none 0 0) := by go_simp
            have ldR : Row (w10_4_5.alloc (.cells #[.bool false, .slice none 0 0] 25)) w10_4_5.heap.size := row_new w10_4_5 _ 25
            clear hHeld
            generalize (w10_4_5.alloc (.cells #[.bool false, .slice none 0 0] 25)) = w10_4_5_11 at hBW ld0 ld1 ldR lc0 lc1 lcR khp41 khq41 hF hG ⊢
            generalize w10_4_5.heap.size = d at ldge ld0 ld1 ldR lab ⊢
            refine hK.out _ _ (kp3 (W := w41y) hBW ⟨Qq00, Qq01, Qq02, hB⟩) ?_
            intro hHeld
            clear hK K
            try simp only [pP, pN, pS, pZ, pC]
            have lcd : c ≠ d := by omega
            clear lab
            refine wpAnyH_ready (rs := [12]) (by kernel_rfl) (by simp) ?_
            refine cons' rfl (fun K hK => ?_)
            have lf := fun o => lcR.frozen o
            have X := stored2 (u0 := .bool (ng Z)) (u1 := .slice aq (ln (am Z)) (ln (am Z))) lc0 lc1 ld0 ld1 ldR hBW lcge lcd hF
            go_simp
            clear lc0 lc1 ld0 ld1 lf lcR ldR hHeld hBW hF
            generalize ((w10_4_5_11.setCell ⟨c, 0, none⟩ (.bool (ng Z))).setCell ⟨c, 1, none⟩ (.slice aq (ln (am Z)) (ln (am Z)))) = wl1 at X ⊢
            obtain ⟨lc0, lc1, ld0, ld1, ldR, hBW, hF⟩ := X
            have lcR := ldR
            refine hK.out _ _ (kp3 (W := w41y) hBW ⟨Qq00, Qq01, Qq02, hB⟩) ?_
            intro hHeld
            clear hK K
            try simp only [pP, pN, pS, pZ, pC]
            refine wpAnyH_ready (rs := [13]) (by kernel_rfl) (by simp) ?_
            refine cons' rfl (fun K hK => ?_)
            have lf := fun o => ldR.frozen o
            have X := stored2 (u0 := .bool (ng G)) (u1 := .slice ar (ln (am G)) (ln (am G))) ld0 ld1 lc0 lc1 lcR hBW ldge lcd.symm hF
            go_simp
            clear ld0 ld1 lc0 lc1 lf ldR lcR hHeld hBW hF
            generalize ((wl1.setCell ⟨d, 0, none⟩ (.bool (ng G))).setCell ⟨d, 1, none⟩ (.slice ar (ln (am G)) (ln (am G)))) = wl2 at X ⊢
            obtain ⟨ld0, ld1, lc0, lc1, lcR, hBW, hF⟩ := X
            have ldR := lcR
            refine hK.out _ _ (kp3 (W := w41y) hBW ⟨Qq00, Qq01, Qq02, hB⟩) ?_
            intro hHeld
            clear hK K
            try simp only [pP, pN, pS, pZ, pC]
            refine tk 14 (v := ?_) rfl (Or.inl ⟨by rfl, ?_⟩) ?_
            rotate_left
            · intro w9 hSw
              go_simp
              first | done | with_reducible rfl
            simp only [pP, pN, pS, pZ, pC]
            refine wpAnyH_done (by kernel_rfl) ?_ _
            go_wp2_with fail
            go_meet
            exact ⟨c, aq, rfl, lcge, lc0, lc1, hF, hBW⟩
          exact AllReadyH.nil
        refine consT rfl (fun K hK => ?_) ?_
        · skip
          go_simp
          have bb := below_alloc (w := w10_4) (.cells #[.bool false, .slice none 0 0] 25)
          have ldge := hBW.size
          have lab := lcR.lt
          replace hBW := hBW.trans (bb.mono hBW.size)
          replace khp41 := khp41.later bb
          replace khq41 := khq41.later bb
          replace lc0 := below_cell bb lc0
          replace lc1 := below_cell bb lc1
          replace lcR := below_row bb lcR
          clear bb
          have ld0 : (w10_4.alloc (.cells #[.bool false, .slice none 0 0] 25)).cell? ⟨w10_4.heap.size, 0, none⟩ = some (.bool false) := by go_simp
          have ld1 : (w10_4.alloc (.cells #[.bool false, .slice none 0 0] 25)).cell? ⟨w10_4.heap.size, 1, none⟩ = some (.slice none 0 0) := by go_simp
          have ldR : Row (w10_4.alloc (.cells #[.bool false, .slice none 0 0] 25)) w10_4.heap.size := row_new w10_4 _ 25
          clear hHeld
          generalize (w10_4.alloc (.cells #[.bool false, .slice none 0 0] 25)) = w10_4_11 at hBW ld0 ld1 ldR lc0 lc1 lcR khp41 khq41 ⊢
          generalize w10_4.heap.size = d at ldge ld0 ld1 ldR lab ⊢
          refine hK.out _ _ (kp3 (W := w41y) hBW ⟨Qq00, Qq01, Qq02, hB⟩) ?_
          intro hHeld
          clear hK K
          try simp only [pP, pN, pS, pZ, pC]
          refine wpAnyH_ready (rs := [5]) (by kernel_rfl) (by simp) ?_
          refine consT rfl (fun K hK => ?_) ?_
          · skip
            go_simp
            refine Calls.mono (HF.out _ p41 q41 khp41 khq41) ?_
            rintro e w10_4_11_5 ⟨aq, ar, rfl, hF, hG⟩
            have bb := hF.below
            replace hF := hF.back hBW
            replace hG := hG.back hBW
            replace hBW := hBW.trans (bb.mono hBW.size)
            replace khp41 := khp41.later bb
            replace khq41 := khq41.later bb
            replace lc0 := below_cell bb lc0
            replace lc1 := below_cell bb lc1
            replace lcR := below_row bb lcR
            replace ld0 := below_cell bb ld0
            replace ld1 := below_cell bb ld1
            replace ldR := below_row bb ldR
            clear bb
            go_wp2_with fail
            refine hK.out _ _ (kp3 (W := w41y) hBW ⟨Qq00, Qq01, Qq02, hB⟩) ?_
            clear hHeld
            intro hHeld
            clear hK K
            try simp only [pP, pN, pS, pZ, pC]
            refine tk 6 (v := ?_) rfl (Or.inl ⟨by rfl, ?_⟩) ?_
            rotate_left
            · intro w9 hSw
              go_simp
              first | done | with_reducible rfl
            simp only [pP, pN, pS, pZ, pC]
            refine tk 7 (v := ?_) rfl (Or.inl ⟨by rfl, ?_⟩) ?_
            rotate_left
            · intro w9 hSw
              go_simp
              first | done | with_reducible rfl
            simp only [pP, pN, pS, pZ, pC]
            refine tk 8 (v := ?_) rfl (Or.inl ⟨by rfl, ?_⟩) ?_
            rotate_left
            · intro w9 hSw
              go_simp
              first | done | with_reducible rfl
            simp only [pP, pN, pS, pZ, pC]
            refine tk 9 (v := ?_) rfl (Or.inl ⟨by rfl, ?_⟩) ?_
            rotate_left
            · intro w9 hSw
              go_simp
              first | done | with_reducible rfl
            simp only [pP, pN, pS, pZ, pC]
            have lcd : c ≠ d := by omega
            clear lab
            refine wpAnyH_ready (rs := [12]) (by kernel_rfl) (by simp) ?_
            refine cons' rfl (fun K hK => ?_)
            have lf := fun o => lcR.frozen o
            have X := stored2 (u0 := .bool (ng Z)) (u1 := .slice aq (ln (am Z)) (ln (am Z))) lc0 lc1 ld0 ld1 ldR hBW lcge lcd hF
            go_simp
            clear lc0 lc1 ld0 ld1 lf lcR ldR hHeld hBW hF
            generalize ((w10_4_11_5.setCell ⟨c, 0, none⟩ (.bool (ng Z))).setCell ⟨c, 1, none⟩ (.slice aq (ln (am Z)) (ln (am Z)))) = wl1 at X ⊢
            obtain ⟨lc0, lc1, ld0, ld1, ldR, hBW, hF⟩ := X
            have lcR := ldR
            refine hK.out _ _ (kp3 (W := w41y) hBW ⟨Qq00, Qq01, Qq02, hB⟩) ?_
            intro hHeld
            clear hK K
            try simp only [pP, pN, pS, pZ, pC]
            refine wpAnyH_ready (rs := [13]) (by kernel_rfl) (by simp) ?_
            refine cons' rfl (fun K hK => ?_)
            have lf := fun o => ldR.frozen o
            have X := stored2 (u0 := .bool (ng G)) (u1 := .slice ar (ln (am G)) (ln (am G))) ld0 ld1 lc0 lc1 lcR hBW ldge lcd.symm hF
            go_simp
            clear ld0 ld1 lc0 lc1 lf ldR lcR hHeld hBW hF
            generalize ((wl1.setCell ⟨d, 0, none⟩ (.bool (ng G))).setCell ⟨d, 1, none⟩ (.slice ar (ln (am G)) (ln (am G)))) = wl2 at X ⊢
            obtain ⟨ld0, ld1, lc0, lc1, lcR, hBW, hF⟩ := X
            have ldR := lcR
            refine hK.out _ _ (kp3 (W := w41y) hBW ⟨Qq00, Qq01, Qq02, hB⟩) ?_
            intro hHeld
            clear hK K
            try simp only [pP, pN, pS, pZ, pC]
            refine tk 14 (v := ?_) rfl (Or.inl ⟨by rfl, ?_⟩) ?_
            rotate_left
            · intro w9 hSw
              go_simp
              first | done | with_reducible rfl
            simp only [pP, pN, pS, pZ, pC]
            refine wpAnyH_done (by kernel_rfl) ?_ _
            go_wp2_with fail
            go_meet
            exact ⟨c, aq, rfl, lcge, lc0, lc1, hF, hBW⟩
          exact AllReadyH.nil
        exact AllReadyH.nil
      refine consT rfl (fun K hK => ?_) ?_
      · skip
        go_simp
        have bb := below_alloc (w := w10) (.cells #[.bool false, .slice none 0 0] 25)
        have ldge := hBW.size
        have lab := lcR.lt
        replace hBW := hBW.trans (bb.mono hBW.size)
        replace khp41 := khp41.later bb
        replace khq41 := khq41.later bb
        replace lc0 := below_cell bb lc0
        replace lc1 := below_cell bb lc1
        replace lcR := below_row bb lcR
        clear bb
        have ld0 : (w10.alloc (.cells #[.bool false, .slice none 0 0] 25)).cell? ⟨w10.heap.size, 0, none⟩ = some (.bool false) := by go_simp
        have ld1 : (w10.alloc (.cells #[.bool false, .slice none 0 0] 25)).cell? ⟨w10.heap.size, 1, none⟩ = some (.slice none 0 0) := by go_simp
        have ldR : Row (w10.alloc (.cells #[.bool false, .slice none 0 0] 25)) w10.heap.size := row_new w10 _ 25
        clear hHeld
        generalize (w10.alloc (.cells #[.bool false, .slice none 0 0] 25)) = w10_11 at hBW ld0 ld1 ldR lc0 lc1 lcR khp41 khq41 ⊢
        generalize w10.heap.size = d at ldge ld0 ld1 ldR lab ⊢
        refine hK.out _ _ (kp3 (W := w41y) hBW ⟨Qq00, Qq01, Qq02, hB⟩) ?_
        intro hHeld
        clear hK K
        try simp only [pP, pN, pS, pZ, pC]
        refine wpAnyH_ready (rs := [4]) (by kernel_rfl) (by simp) ?_
        refine consT rfl (fun K hK => ?_) ?_
        · skip
          go_simp
          refine Calls.mono (positive_is q41 (ln V1) (ln V1) _) ?_
          rintro e w10_11_4 ⟨rfl, bb⟩
          replace hBW := hBW.trans (bb.mono hBW.size)
          replace khp41 := khp41.later bb
          replace khq41 := khq41.later bb
          replace lc0 := below_cell bb lc0
          replace lc1 := below_cell bb lc1
          replace lcR := below_row bb lcR
          replace ld0 := below_cell bb ld0
          replace ld1 := below_cell bb ld1
          replace ldR := below_row bb ldR
          clear bb
          go_wp2_with fail
          refine hK.out _ _ (kp3 (W := w41y) hBW ⟨Qq00, Qq01, Qq02, hB⟩) ?_
          clear hHeld
          intro hHeld
          clear hK K
          try simp only [pP, pN, pS, pZ, pC]
          refine wpAnyH_ready (rs := [5]) (by kernel_rfl) (by simp) ?_
          refine consT rfl (fun K hK => ?_) ?_
          · skip
            go_simp
            refine Calls.mono (HF.out _ p41 q41 khp41 khq41) ?_
            rintro e w10_11_4_5 ⟨aq, ar, rfl, hF, hG⟩
            have bb := hF.below
            replace hF := hF.back hBW
            replace hG := hG.back hBW
            replace hBW := hBW.trans (bb.mono hBW.size)
            replace khp41 := khp41.later bb
            replace khq41 := khq41.later bb
            replace lc0 := below_cell bb lc0
            replace lc1 := below_cell bb lc1
            replace lcR := below_row bb lcR
            replace ld0 := below_cell bb ld0
            replace ld1 := below_cell bb ld1
            replace ldR := below_row bb ldR
            clear bb
            go_wp2_with fail
            refine hK.out _ _ (kp3 (W := w41y) hBW ⟨Qq00, Qq01, Qq02, hB⟩) ?_
            clear hHeld
            intro hHeld
            clear hK K
            try simp only [pP, pN, pS, pZ, pC]
            refine tk 6 (v := ?_) rfl (Or.inl ⟨by rfl, ?_⟩) ?_
            rotate_left
            · intro w9 hSw
              go_simp
              first | done | with_reducible rfl
            simp only [pP, pN, pS, pZ, pC]
            refine tk 7 (v := ?_) rfl (Or.inl ⟨by rfl, ?_⟩) ?_
            rotate_left
            · intro w9 hSw
              go_simp
              first | done | with_reducible rfl
            simp only [pP, pN, pS, pZ, pC]
            refine tk 8 (v := ?_) rfl (Or.inl ⟨by rfl, ?_⟩) ?_
            rotate_left
            · intro w9 hSw
              go_simp
              first | done | with_reducible rfl
            simp only [pP, pN, pS, pZ, pC]
            refine tk 9 (v := ?_) rfl (Or.inl ⟨by rfl, ?_⟩) ?_
            rotate_left
            · intro w9 hSw
              go_simp
              first | done | with_reducible rfl
            simp only [pP, pN, pS, pZ, pC]
            have lcd : c ≠ d := by omega
            clear lab
            refine wpAnyH_ready (rs := [12]) (by kernel_rfl) (by simp) ?_
            refine cons' rfl (fun K hK => ?_)
            have lf := fun o => lcR.frozen o
            have X := stored2 (u0 := .bool (ng Z)) (u1 := .slice aq (ln (am Z)) (ln (am Z))) lc0 lc1 ld0 ld1 ldR hBW lcge lcd hF
            go_simp
            clear lc0 lc1 ld0 ld1 lf lcR ldR hHeld hBW hF
            generalize ((w10_11_4_5.setCell ⟨c, 0, none⟩ (.bool (ng Z))).setCell ⟨c, 1, none⟩ (.slice aq (ln (am Z)) (ln (am Z)))) = wl1 at X ⊢
            obtain ⟨lc0, lc1, ld0, ld1, ldR, hBW, hF⟩ := X
            have lcR := ldR
            refine hK.out _ _ (kp3 (W := w41y) hBW ⟨Qq00, Qq01, Qq02, hB⟩) ?_
            intro hHeld
            clear hK K
            try simp only [pP, pN, pS, pZ, pC]
            refine wpAnyH_ready (rs := [13]) (by kernel_rfl) (by simp) ?_
            refine cons' rfl (fun K hK => ?_)
            have lf := fun o => ldR.frozen o
            have X := stored2 (u0 := .bool (ng G)) (u1 := .slice ar (ln (am G)) (ln (am G))) ld0 ld1 lc0 lc1 lcR hBW ldge lcd.symm hF
            go_simp
            clear ld0 ld1 lc0 lc1 lf ldR lcR hHeld hBW hF
            generalize ((wl1.setCell ⟨d, 0, none⟩ (.bool (ng G))).setCell ⟨d, 1, none⟩ (.slice ar (ln (am G)) (ln (am G)))) = wl2 at X ⊢
            obtain ⟨ld0, ld1, lc0, lc1, lcR, hBW, hF⟩ := X
            have ldR := lcR
            refine hK.out _ _ (kp3 (W := w41y) hBW ⟨Qq00, Qq01, Qq02, hB⟩) ?_
            intro hHeld
            clear hK K
            try simp only [pP, pN, pS, pZ, pC]
            refine tk 14 (v := ?_) rfl (Or.inl ⟨by rfl, ?_⟩) ?_
            rotate_left
            · intro w9 hSw
              go_simp
              first | done | with_reducible rfl
            simp only [pP, pN, pS, pZ, pC]
            refine wpAnyH_done (by kernel_rfl) ?_ _
            go_wp2_with fail
            go_meet
            exact ⟨c, aq, rfl, lcge, lc0, lc1, hF, hBW⟩
          exact AllReadyH.nil
        exact AllReadyH.nil
      exact AllReadyH.nil
    refine consT rfl (fun K hK => ?_) ?_
    · skip
      go_simp
      have bb := below_alloc (w := w0) (.cells #[.bool false, .slice none 0 0] 25)
      have ldge := hBW.size
      replace hBW := hBW.trans (bb.mono hBW.size)
      replace khp41 := khp41.later bb
      replace khq41 := khq41.later bb
      clear bb
      have ld0 : (w0.alloc (.cells #[.bool false, .slice none 0 0] 25)).cell? ⟨w0.heap.size, 0, none⟩ = some (.bool false) := by go_simp
      have ld1 : (w0.alloc (.cells #[.bool false, .slice none 0 0] 25)).cell? ⟨w0.heap.size, 1, none⟩ = some (.slice none 0 0) := by go_simp
      have ldR : Row (w0.alloc (.cells #[.bool false, .slice none 0 0] 25)) w0.heap.size := row_new w0 _ 25
      clear hHeld
      generalize (w0.alloc (.cells #[.bool false, .slice none 0 0] 25)) = w11 at hBW ld0 ld1 ldR khp41 khq41 ⊢
      generalize w0.heap.size = d at ldge ld0 ld1 ldR ⊢
      refine hK.out _ _ (kp3 (W := w41y) hBW ⟨Qq00, Qq01, Qq02, hB⟩) ?_
      intro hHeld
      clear hK K
      try simp only [pP, pN, pS, pZ, pC]
      refine wpAnyH_ready (rs := [4, 10]) (by kernel_rfl) (by simp) ?_
      refine consT rfl (fun K hK => ?_) ?_
      · skip
        go_simp
        refine Calls.mono (positive_is q41 (ln V1) (ln V1) _) ?_
        rintro e w11_4 ⟨rfl, bb⟩
        replace hBW := hBW.trans (bb.mono hBW.size)
        replace khp41 := khp41.later bb
        replace khq41 := khq41.later bb
        replace ld0 := below_cell bb ld0
        replace ld1 := below_cell bb ld1
        replace ldR := below_row bb ldR
        clear bb
        go_wp2_with fail
        refine hK.out _ _ (kp3 (W := w41y) hBW ⟨Qq00, Qq01, Qq02, hB⟩) ?_
        clear hHeld
        intro hHeld
        clear hK K
        try simp only [pP, pN, pS, pZ, pC]
        refine wpAnyH_ready (rs := [5, 10]) (by kernel_rfl) (by simp) ?_
        refine consT rfl (fun K hK => ?_) ?_
        · skip
          go_simp
          refine Calls.mono (HF.out _ p41 q41 khp41 khq41) ?_
          rintro e w11_4_5 ⟨aq, ar, rfl, hF, hG⟩
          have bb := hF.below
          replace hF := hF.back hBW
          replace hG := hG.back hBW
          replace hBW := hBW.trans (bb.mono hBW.size)
          replace khp41 := khp41.later bb
          replace khq41 := khq41.later bb
          replace ld0 := below_cell bb ld0
          replace ld1 := below_cell bb ld1
          replace ldR := below_row bb ldR
          clear bb
          go_wp2_with fail
          refine hK.out _ _ (kp3 (W := w41y) hBW ⟨Qq00, Qq01, Qq02, hB⟩) ?_
          clear hHeld
          intro hHeld
          clear hK K
          try simp only [pP, pN, pS, pZ, pC]
          refine tk 6 (v := ?_) rfl (Or.inl ⟨by rfl, ?_⟩) ?_
          rotate_left
          · intro w9 hSw
            go_simp
            first | done | with_reducible rfl
          simp only [pP, pN, pS, pZ, pC]
          refine tk 7 (v := ?_) rfl (Or.inl ⟨by rfl, ?_⟩) ?_
          rotate_left
          · intro w9 hSw
            go_simp
            first | done | with_reducible rfl
          simp only [pP, pN, pS, pZ, pC]
          refine tk 8 (v := ?_) rfl (Or.inl ⟨by rfl, ?_⟩) ?_
          rotate_left
          · intro w9 hSw
            go_simp
            first | done | with_reducible rfl
          simp only [pP, pN, pS, pZ, pC]
          refine tk 9 (v := ?_) rfl (Or.inl ⟨by rfl, ?_⟩) ?_
          rotate_left
          · intro w9 hSw
            go_simp
            first | done | with_reducible rfl
          simp only [pP, pN, pS, pZ, pC]
          refine wpAnyH_ready (rs := [10]) (by kernel_rfl) (by simp) ?_
          refine consT rfl (fun K hK => ?_) ?_
          · skip
            go_simp
            have bb := below_alloc (w := w11_4_5) (.cells #[.bool false, .slice none 0 0] 25)
            have lcge := hBW.size
            have lab := ldR.lt
            replace hBW := hBW.trans (bb.mono hBW.size)
            replace khp41 := khp41.later bb
            replace khq41 := khq41.later bb
            replace hF := hF.later bb
            replace hG := hG.later bb
            replace ld0 := below_cell bb ld0
            replace ld1 := below_cell bb ld1
            replace ldR := below_row bb ldR
            clear bb
            have lc0 : (w11_4_5.alloc (.cells #[.bool false, .slice none 0 0] 25)).cell? ⟨w11_4_5.heap.size, 0, none⟩ = some (.bool false) := by go_simp
            have lc1 : (w11_4_5.alloc (.cells #[.bool false, .slice none 0 0] 25)).cell? ⟨w11_4_5.heap.size, 1, none⟩ = some (.slice none 0 0) := by go_simp
            have lcR : Row (w11_4_5.alloc (.cells #[.bool false, .slice none 0 0] 25)) w11_4_5.heap.size := row_new w11_4_5 _ 25
            clear hHeld
            generalize (w11_4_5.alloc (.cells #[.bool false, .slice none 0 0] 25)) = w11_4_5_10 at hBW lc0 lc1 lcR ld0 ld1 ldR khp41 khq41 hF hG ⊢
            generalize w11_4_5.heap.size = c at lcge lc0 lc1 lcR lab ⊢
            refine hK.out _ _ (kp3 (W := w41y) hBW ⟨Qq00, Qq01, Qq02, hB⟩) ?_
            intro hHeld
            clear hK K
            try simp only [pP, pN, pS, pZ, pC]
            have lcd : c ≠ d := by omega
            clear lab
            refine wpAnyH_ready (rs := [12]) (by kernel_rfl) (by simp) ?_
            refine cons' rfl (fun K hK => ?_)
            have lf := fun o => lcR.frozen o
            have X := stored2 (u0 := .bool (ng Z)) (u1 := .slice aq (ln (am Z)) (ln (am Z))) lc0 lc1 ld0 ld1 ldR hBW lcge lcd hF
            go_simp
            clear lc0 lc1 ld0 ld1 lf lcR ldR hHeld hBW hF
            generalize ((w11_4_5_10.setCell ⟨c, 0, none⟩ (.bool (ng Z))).setCell ⟨c, 1, none⟩ (.slice aq (ln (am Z)) (ln (am Z)))) = wl1 at X ⊢
            obtain ⟨lc0, lc1, ld0, ld1, ldR, hBW, hF⟩ := X
            have lcR := ldR
            refine hK.out _ _ (kp3 (W := w41y) hBW ⟨Qq00, Qq01, Qq02, hB⟩) ?_
            intro hHeld
            clear hK K
            try simp only [pP, pN, pS, pZ, pC]
            refine wpAnyH_ready (rs := [13]) (by kernel_rfl) (by simp) ?_
            refine cons' rfl (fun K hK => ?_)
            have lf := fun o => ldR.frozen o
            have X := stored2 (u0 := .bool (ng G)) (u1 := .slice ar (ln (am G)) (ln (am G))) ld0 ld1 lc0 lc1 lcR hBW ldge lcd.symm hF
            go_simp
            clear ld0 ld1 lc0 lc1 lf ldR lcR hHeld hBW hF
            generalize ((wl1.setCell ⟨d, 0, none⟩ (.bool (ng G))).setCell ⟨d, 1, none⟩ (.slice ar (ln (am G)) (ln (am G)))) = wl2 at X ⊢
            obtain ⟨ld0, ld1, lc0, lc1, lcR, hBW, hF⟩ := X
            have ldR := lcR
            refine hK.out _ _ (kp3 (W := w41y) hBW ⟨Qq00, Qq01, Qq02, hB⟩) ?_
            intro hHeld
            clear hK K
            try simp only [pP, pN, pS, pZ, pC]
            refine tk 14 (v := ?_) rfl (Or.inl ⟨by rfl, ?_⟩) ?_
            rotate_left
            · intro w9 hSw
              go_simp
              first | done | with_reducible rfl
            simp only [pP, pN, pS, pZ, pC]
            refine wpAnyH_done (by kernel_rfl) ?_ _
            go_wp2_with fail
            go_meet
            exact ⟨c, aq, rfl, lcge, lc0, lc1, hF, hBW⟩
          exact AllReadyH.nil
        refine consT rfl (fun K hK => ?_) ?_
        · skip
          go_simp
          have bb := below_alloc (w := w11_4) (.cells #[.bool false, .slice none 0 0] 25)
          have lcge := hBW.size
          have lab := ldR.lt
          replace hBW := hBW.trans (bb.mono hBW.size)
          replace khp41 := khp41.later bb
          replace khq41 := khq41.later bb
          replace ld0 := below_cell bb ld0
          replace ld1 := below_cell bb ld1
          replace ldR := below_row bb ldR
          clear bb
          have lc0 : (w11_4.alloc (.cells #[.bool false, .slice none 0 0] 25)).cell? ⟨w11_4.heap.size, 0, none⟩ = some (.bool false) := by go_simp
          have lc1 : (w11_4.alloc (.cells #[.bool false, .slice none 0 0] 25)).cell? ⟨w11_4.heap.size, 1, none⟩ = some (.slice none 0 0) := by go_simp
          have lcR : Row (w11_4.alloc (.cells #[.bool false, .slice none 0 0] 25)) w11_4.heap.size := row_new w11_4 _ 25
          clear hHeld
          generalize (w11_4.alloc (.cells #[.bool false, .slice none 0 0] 25)) = w11_4_10 at hBW lc0 lc1 lcR ld0 ld1 ldR khp41 khq41 ⊢
          generalize w11_4.heap.size = c at lcge lc0 lc1 lcR lab ⊢
          refine hK.out _ _ (kp3 (W := w41y) hBW ⟨Qq00, Qq01, Qq02, hB⟩) ?_
          intro hHeld
          clear hK K
          try simp only [pP, pN, pS, pZ, pC]
          refine wpAnyH_ready (rs := [5]) (by kernel_rfl) (by simp) ?_
          refine consT rfl (fun K hK => ?_) ?_
          · skip
            go_simp
            refine Calls.mono (HF.out _ p41 q41 khp41 khq41) ?_
            rintro e w11_4_10_5 ⟨aq, ar, rfl, hF, hG⟩
            have bb := hF.below
            replace hF := hF.back hBW
            replace hG := hG.back hBW
            replace hBW := hBW.trans (bb.mono hBW.size)
            replace khp41 := khp41.later bb
            replace khq41 := khq41.later bb
            replace lc0 := below_cell bb lc0
            replace lc1 := below_cell bb lc1
            replace lcR := below_row bb lcR
            replace ld0 := below_cell bb ld0
            replace ld1 := below_cell bb ld1
            replace ldR := below_row bb ldR
            clear bb
            go_wp2_with fail
            refine hK.out _ _ (kp3 (W := w41y) hBW ⟨Qq00, Qq01, Qq02, hB⟩) ?_
            clear hHeld
            intro hHeld
            clear hK K
            try simp only [pP, pN, pS, pZ, pC]
            refine tk 6 (v := ?_) rfl (Or.inl ⟨by rfl, ?_⟩) ?_
            rotate_left
            · intro w9 hSw
              go_simp
              first | done | with_reducible rfl
            simp only [pP, pN, pS, pZ, pC]
            refine tk 7 (v := ?_) rfl (Or.inl ⟨by rfl, ?_⟩) ?_
            rotate_left
            · intro w9 hSw
              go_simp
              first | done | with_reducible rfl
            simp only [pP, pN, pS, pZ, pC]
            refine tk 8 (v := ?_) rfl (Or.inl ⟨by rfl, ?_⟩) ?_
            rotate_left
            · intro w9 hSw
              go_simp
              first | done | with_reducible rfl
            simp only [pP, pN, pS, pZ, pC]
            refine tk 9 (v := ?_) rfl (Or.inl ⟨by rfl, ?_⟩) ?_
            rotate_left
            · intro w9 hSw
              go_simp
              first | done | with_reducible rfl
            simp only [pP, pN, pS, pZ, pC]
            have lcd : c ≠ d := by omega
            clear lab
            refine wpAnyH_ready (rs := [12]) (by kernel_rfl) (by simp) ?_
            refine cons' rfl (fun K hK => ?_)
            have lf := fun o => lcR.frozen o
            have X := stored2 (u0 := .bool (ng Z)) (u1 := .slice aq (ln (am Z)) (ln (am Z))) lc0 lc1 ld0 ld1 ldR hBW lcge lcd hF
            go_simp
            clear lc0 lc1 ld0 ld1 lf lcR ldR hHeld hBW hF
            generalize ((w11_4_10_5.setCell ⟨c, 0, none⟩ (.bool (ng Z))).setCell ⟨c, 1, none⟩ (.slice aq (ln (am Z)) (ln (am Z)))) = wl1 at X ⊢
            obtain ⟨lc0, lc1, ld0, ld1, ldR, hBW, hF⟩ := X
            have lcR := ldR
            refine hK.out _ _ (kp3 (W := w41y) hBW ⟨Qq00, Qq01, Qq02, hB⟩) ?_
            intro hHeld
            clear hK K
            try simp only [pP, pN, pS, pZ, pC]
            refine wpAnyH_ready (rs := [13]) (by kernel_rfl) (by simp) ?_
            refine cons' rfl (fun K hK => ?_)
            have lf := fun o => ldR.frozen o
            have X := stored2 (u0 := .bool (ng G)) (u1 := .slice ar (ln (am G)) (ln (am G))) ld0 ld1 lc0 lc1 lcR hBW ldge lcd.symm hF
            go_simp
            clear ld0 ld1 lc0 lc1 lf ldR lcR hHeld hBW hF
            generalize ((wl1.setCell ⟨d, 0, none⟩ (.bool (ng G))).setCell ⟨d, 1, none⟩ (.slice ar (ln (am G)) (ln (am G)))) = wl2 at X ⊢
            obtain ⟨ld0, ld1, lc0, lc1, lcR, hBW, hF⟩ := X
            have ldR := lcR
            refine hK.out _ _ (kp3 (W := w41y) hBW ⟨Qq00, Qq01, Qq02, hB⟩) ?_
            intro hHeld
            clear hK K
            try simp only [pP, pN, pS, pZ, pC]
            refine tk 14 (v := ?_) rfl (Or.inl ⟨by rfl, ?_⟩) ?_
            rotate_left
            · intro w9 hSw
              go_simp
              first | done | with_reducible rfl
            simp only [pP, pN, pS, pZ, pC]
            refine wpAnyH_done (by kernel_rfl) ?_ _
            go_wp2_with fail
            go_meet
            exact ⟨c, aq, rfl, lcge, lc0, lc1, hF, hBW⟩
          exact AllReadyH.nil
        exact AllReadyH.nil
      refine consT rfl (fun K hK => ?_) ?_
      · skip
        go_simp
        have bb := below_alloc (w := w11) (.cells #[.bool false, .slice none 0 0] 25)
        have lcge := hBW.size
        have lab := ldR.lt
        replace hBW := hBW.trans (bb.mono hBW.size)
        replace khp41 := khp41.later bb
        replace khq41 := khq41.later bb
        replace ld0 := below_cell bb ld0
        replace ld1 := below_cell bb ld1
        replace ldR := below_row bb ldR
        clear bb
        have lc0 : (w11.alloc (.cells #[.bool false, .slice none 0 0] 25)).cell? ⟨w11.heap.size, 0, none⟩ = some (.bool false) := by go_simp
        have lc1 : (w11.alloc (.cells #[.bool false, .slice none 0 0] 25)).cell? ⟨w11.heap.size, 1, none⟩ = some (.slice none 0 0) := by go_simp
        have lcR : Row (w11.alloc (.cells #[.bool false, .slice none 0 0] 25)) w11.heap.size := row_new w11 _ 25
        clear hHeld
        generalize (w11.alloc (.cells #[.bool false, .slice none 0 0] 25)) = w11_10 at hBW lc0 lc1 lcR ld0 ld1 ldR khp41 khq41 ⊢
        generalize w11.heap.size = c at lcge lc0 lc1 lcR lab ⊢
        refine hK.out _ _ (kp3 (W := w41y) hBW ⟨Qq00, Qq01, Qq02, hB⟩) ?_
        intro hHeld
        clear hK K
        try simp only [pP, pN, pS, pZ, pC]
        refine wpAnyH_ready (rs := [4]) (by kernel_rfl) (by simp) ?_
        refine consT rfl (fun K hK => ?_) ?_
        · skip
          go_simp
          refine Calls.mono (positive_is q41 (ln V1) (ln V1) _) ?_
          rintro e w11_10_4 ⟨rfl, bb⟩
          replace hBW := hBW.trans (bb.mono hBW.size)
          replace khp41 := khp41.later bb
          replace khq41 := khq41.later bb
          replace lc0 := below_cell bb lc0
          replace lc1 := below_cell bb lc1
          replace lcR := below_row bb lcR
          replace ld0 := below_cell bb ld0
          replace ld1 := below_cell bb ld1
          replace ldR := below_row bb ldR
          clear bb
          go_wp2_with fail
          refine hK.out _ _ (kp3 (W := w41y) hBW ⟨Qq00, Qq01, Qq02, hB⟩) ?_
          clear hHeld
          intro hHeld
          clear hK K
          try simp only [pP, pN, pS, pZ, pC]
          refine wpAnyH_ready (rs := [5]) (by kernel_rfl) (by simp) ?_
          refine consT rfl (fun K hK => ?_) ?_
          · skip
            go_simp
            refine Calls.mono (HF.out _ p41 q41 khp41 khq41) ?_
            rintro e w11_10_4_5 ⟨aq, ar, rfl, hF, hG⟩
            have bb := hF.below
            replace hF := hF.back hBW
            replace hG := hG.back hBW
            replace hBW := hBW.trans (bb.mono hBW.size)
            replace khp41 := khp41.later bb
            replace khq41 := khq41.later bb
            replace lc0 := below_cell bb lc0
            replace lc1 := below_cell bb lc1
            replace lcR := below_row bb lcR
            replace ld0 := below_cell bb ld0
            replace ld1 := below_cell bb ld1
            replace ldR := below_row bb ldR
            clear bb
            go_wp2_with fail
            refine hK.out _ _ (kp3 (W := w41y) hBW ⟨Qq00, Qq01, Qq02, hB⟩) ?_
            clear hHeld
            intro hHeld
            clear hK K
            try simp only [pP, pN, pS, pZ, pC]
            refine tk 6 (v := ?_) rfl (Or.inl ⟨by rfl, ?_⟩) ?_
            rotate_left
            · intro w9 hSw
              go_simp
              first | done | with_reducible rfl
            simp only [pP, pN, pS, pZ, pC]
            refine tk 7 (v := ?_) rfl (Or.inl ⟨by rfl, ?_⟩) ?_
            rotate_left
            · intro w9 hSw
              go_simp
              first | done | with_reducible rfl
            simp only [pP, pN, pS, pZ, pC]
            refine tk 8 (v := ?_) rfl (Or.inl ⟨by rfl, ?_⟩) ?_
            rotate_left
            · intro w9 hSw
              go_simp
              first | done | with_reducible rfl
            simp only [pP, pN, pS, pZ, pC]
            refine tk 9 (v := ?_) rfl (Or.inl ⟨by rfl, ?_⟩) ?_
            rotate_left
            · intro w9 hSw
              go_simp
              first | done | with_reducible rfl
            simp only [pP, pN, pS, pZ, pC]
            have lcd : c ≠ d := by omega
            clear lab
            refine wpAnyH_ready (rs := [12]) (by kernel_rfl) (by simp) ?_
            refine cons' rfl (fun K hK => ?_)
            have lf := fun o => lcR.frozen o
            have X := stored2 (u0 := .bool (ng Z)) (u1 := .slice aq (ln (am Z)) (ln (am Z))) lc0 lc1 ld0 ld1 ldR hBW lcge lcd hF
            go_simp
            clear lc0 lc1 ld0 ld1 lf lcR ldR hHeld hBW hF
            generalize ((w11_10_4_5.setCell ⟨c, 0, none⟩ (.bool (ng Z))).setCell ⟨c, 1, none⟩ (.slice aq (ln (am Z)) (ln (am Z)))) = wl1 at X ⊢
            obtain ⟨lc0, lc1, ld0, ld1, ldR, hBW, hF⟩ := X
            have lcR := ldR
            refine hK.out _ _ (kp3 (W := w41y) hBW ⟨Qq00, Qq01, Qq02, hB⟩) ?_
            intro hHeld
            clear hK K
            try simp only [pP, pN, pS, pZ, pC]
            refine wpAnyH_ready (rs := [13]) (by kernel_rfl) (by simp) ?_
            refine cons' rfl (fun K hK => ?_)
            have lf := fun o => ldR.frozen o
            have X := stored2 (u0 := .bool (ng G)) (u1 := .slice ar (ln (am G)) (ln (am G))) ld0 ld1 lc0 lc1 lcR hBW ldge lcd.symm hF
            go_simp
            clear ld0 ld1 lc0 lc1 lf ldR lcR hHeld hBW hF
            generalize ((wl1.setCell ⟨d, 0, none⟩ (.bool (ng G))).setCell ⟨d, 1, none⟩ (.slice ar (ln (am G)) (ln (am G)))) = wl2 at X ⊢
            obtain ⟨ld0, ld1, lc0, lc1, lcR, hBW, hF⟩ := X
            have ldR := lcR
            refine hK.out _ _ (kp3 (W := w41y) hBW ⟨Qq00, Qq01, Qq02, hB⟩) ?_
            intro hHeld
            clear hK K
            try simp only [pP, pN, pS, pZ, pC]
            refine tk 14 (v := ?_) rfl (Or.inl ⟨by rfl, ?_⟩) ?_
            rotate_left
            · intro w9 hSw
              go_simp
              first | done | with_reducible rfl
            simp only [pP, pN, pS, pZ, pC]
            refine wpAnyH_done (by kernel_rfl) ?_ _
            go_wp2_with fail
            go_meet
            exact ⟨c, aq, rfl, lcge, lc0, lc1, hF, hBW⟩
          exact AllReadyH.nil
        exact AllReadyH.nil
      exact AllReadyH.nil
    exact AllReadyH.nil
  case rest =>
  clear hBW
  obtain ⟨c, aq, rfl, hge, lc0, lc1, hF, hBW⟩ := hcut
  replace q00 := below_cell hBW q00
  replace q01 := below_cell hBW q01
  replace q02 := below_cell hBW q02
  replace r00 := below_cell hBW r00
  replace r01 := below_cell hBW r01
  replace hR0 := below_row hBW hR0
  replace hP0 := below_row hBW hP0
  have fz0 := fun o => hR0.frozen o
  go_wp2
  all_goals refine bodyPost_ret (v := .agg #[.bool (ng Z), .slice aq (ln (am Z)) (ln (am Z))]) (by rw [results_cell rfl]; go_simp) rfl ?_
  all_goals exact ⟨aq, rfl, hF.mid hB ((((Mid.refl _ _ _).set _ _ (by omega) (by omega) _).set _ _ (by omega) (by omega) _))⟩
theorem Seg.set2 {w : World} {p : Option Addr} {X n c : Nat} {u0 u1 : Value} {z0 : Bool} {a1 : Option Addr} {n1 k1 : Nat} (h : Seg w p X n) (h0 : w.cell? ⟨c, 0, none⟩ = some (.bool z0)) (h1 : w.cell? ⟨c, 1, none⟩ = some (.slice a1 n1 k1)) :
    Seg ((w.setCell ⟨c, 0, none⟩ u0).setCell ⟨c, 1, none⟩ u1) p X n := by
  refine (h.setB h0 (by simp)).setB (z := .slice a1 n1 k1) ?_ (by simp)
  rw [World.cell?_setCell_other _ _ _ _ (fun e => by simp at e)]; exact h1
theorem RatV.ok.on {w w' : World} {q : RatV} (h : q.ok w) (hb : Below w.heap.size w w') : q.ok w' := ⟨h.1.later hb, h.2.1, h.2.2.1, h.2.2.2.1.later hb, h.2.2.2.2.1, h.2.2.2.2.2⟩
def nR (r : Rat) (p q : Option Addr) : RatV := ⟨ng r.num, p, ln (am r.num), ln (am r.num), am r.num, q, ln r.den, ln r.den, r.den⟩
theorem nR_val (r : Rat) (p q : Option Addr) : (nR r p q).val = r := val_of r p q
def QA (w : World) (r : Rat) (e : Ending) (w' : World) : Prop := ∃ p q, e = .returned (.agg #[.bool (ng r.num), .slice p (ln (am r.num)) (ln (am r.num)), .slice q (ln r.den) (ln r.den)]) ∧ Below w.heap.size w w' ∧ (nR r p q).ok w'
theorem szV {w : World} {q : RatV} (h : q.ok w) {N : Nat} (h1 : q.n ≤ N) (h2 : q.m + 1 ≤ N) : sz N q.val := by
  have l1 := Nat.lt_of_le_of_lt (rn_am q.s q.X q.Y) h.1.1
  have l2 := rd_lt h.2.2.2.1.1
  exact ln1 q.val_low l1 (by rw [am_nat]; exact l2) h1 h2
theorem sz_addY {r t : Rat} {N M : Nat} (h : sz N r) (k : sz M t) : sz (2 * N + 2 * M + 3) (r + t) := by
  have e : co 0 [(0, r), (0, t)] = r + t := by simp [co]; grind
  rw [← e]
  refine (co_sz 0 _).mono ?_
  simp only [wts, wt]
  have := h.1; have := h.2; have := k.1; have := k.2
  omega
theorem sz_negY {r : Rat} {N : Nat} (h : sz N r) : sz N (-r) := ⟨by rw [Rat.neg_num, am_neg]; exact h.1, by rw [Rat.neg_den]; exact h.2⟩
theorem sz_mulY {r t : Rat} {N M : Nat} (h : sz N r) (k : sz M t) : sz (N + M) (r * t) := by
  have e : r * t = Rat.divInt (r.num * t.num) ((r.den : Int) * (t.den : Int)) := by
    rw [← Rat.divInt_mul_divInt, Rat.num_divInt_den, Rat.num_divInt_den]
  have hl := (low_of (Int.mul_ne_zero (by have := r.den_pos; omega) (by have := t.den_pos; omega)) e).le
  have a1 := lt_prod (i := N) (j := M) (Nat.lt_of_lt_of_le (ln_lt (am r.num)) (pow_mono h.1)) (Nat.lt_of_lt_of_le (ln_lt (am t.num)) (pow_mono k.1))
  have a2 := lt_prod (i := N) (j := M) (a := (r.den : Int)) (b := (t.den : Int)) (Nat.lt_of_lt_of_le (by rw [am_nat]; exact ln_lt r.den) (pow_mono h.2)) (Nat.lt_of_lt_of_le (by rw [am_nat]; exact ln_lt t.den) (pow_mono k.2))
  exact ⟨ln_le_of_lt (Nat.lt_of_le_of_lt hl.1 a1), ln_le_of_lt (Nat.lt_of_le_of_lt hl.2 a2)⟩
theorem ok_nR {w w' : World} {r : Rat} {p q : Option Addr} (hs : sz 100000000 r) (h1 : New w w' p (am r.num) (ln (am r.num))) (h2 : New w w' q r.den (ln r.den)) : (nR r p q).ok w' :=
  ⟨h1.seg, Nat.le_refl _, Nat.le_trans hs.1 (by omega), h2.seg, Nat.le_refl _, Nat.le_trans hs.2 (by omega)⟩
def sR (r : Rat) : Int := sgn r.num
theorem sR_divInt {A : Int} {D : Int} (h : 0 < D) : sR (Rat.divInt A D) = sgn A := by
  have hl := low_of (A := A) (D := D) (Int.ne_of_gt h) rfl
  have e := hl.eq
  have p := hl.pos
  unfold sR
  have h1 : sgn (A * ((Rat.divInt A D).den : Int)) = sgn ((Rat.divInt A D).num * D) := by rw [e]
  rw [sgn_mul_pos (by omega), sgn_mul_pos h] at h1
  exact h1.symm
theorem sR_sub (p q : RatV) : sgn (rn p.s p.X p.Y * (rd q.Y : Nat) - rn q.s q.X q.Y * (rd p.Y : Nat)) = sR (p.val - q.val) := by
  have e : p.val - q.val = Rat.divInt (rn p.s p.X p.Y * (rd q.Y : Nat) - rn q.s q.X q.Y * (rd p.Y : Nat)) ((rd p.Y : Nat) * (rd q.Y : Nat)) := by
    unfold RatV.val
    rw [Rat.divInt_sub_divInt _ _ (rd_ne _) (rd_ne _)]
  have p1 := rd_pos p.Y
  have p2 := rd_pos q.Y
  rw [e, sR_divInt (Int.mul_pos (by omega) (by omega))]
theorem low_subY (p q : RatV) : Low (rn p.s p.X p.Y * (rd q.Y : Nat) + -(rn q.s q.X q.Y) * (rd p.Y : Nat)) ((rd p.Y : Nat) * (rd q.Y : Nat)) (p.val - q.val).num (p.val - q.val).den :=
  low_of (Int.mul_ne_zero (rd_ne _) (rd_ne _)) (by
    unfold RatV.val
    rw [Rat.divInt_sub_divInt _ _ (rd_ne _) (rd_ne _), Int.neg_mul, Int.sub_eq_add_neg])
theorem seg_setT {w : World} {p : Option Addr} {X n c o : Nat} {u z : Value} (h : Seg w p X n) (hc : w.cell? ⟨c, o, none⟩ = some z) (hz : ∀ i, z ≠ .int .u32 i) : Seg (w.setCell ⟨c, o, none⟩ u) p X n := by
  refine ⟨h.1, fun hn => ?_⟩
  obtain ⟨b, off, rfl, hb, hcell⟩ := h.2 hn
  refine ⟨b, off, rfl, by simpa [World.setCell] using hb, fun i hi => ?_⟩
  have h1 := hcell i hi
  rw [World.cell?_setCell_other _ _ _ _ (fun e => ?_)]
  · exact h1
  · rw [← e, hc] at h1
    simp only [Option.some.injEq] at h1
    exact hz _ h1
def Thr (w : World) (c : Nat) (u0 u1 u2 : Value) : Prop :=
  (w.cell? ⟨c, 0, none⟩ = some u0 ∧ w.cell? ⟨c, 1, none⟩ = some u1 ∧ w.cell? ⟨c, 2, none⟩ = some u2) ∧ Row w c
theorem Thr.later {w w' : World} {c : Nat} {u0 u1 u2 : Value} (h : Thr w c u0 u1 u2) (hb : Below w.heap.size w w') : Thr w' c u0 u1 u2 :=
  ⟨⟨below_cell hb h.1.1, below_cell hb h.1.2.1, below_cell hb h.1.2.2⟩, below_row hb h.2⟩
abbrev set3 (w : World) (c : Nat) (u0 u1 u2 : Value) : World := ((w.setCell ⟨c, 0, none⟩ u0).setCell ⟨c, 1, none⟩ u1).setCell ⟨c, 2, none⟩ u2
theorem Thr.put {w : World} {c : Nat} {u0 u1 u2 z0 z1 z2 : Value} (h : Thr w c z0 z1 z2) : Thr (set3 w c u0 u1 u2) c u0 u1 u2 :=
  ⟨set3_same h.1.1 h.1.2.1 h.1.2.2, ((h.2.setCell _ _).setCell _ _).setCell _ _⟩
theorem Thr.far {w : World} {c r : Nat} {u0 u1 u2 z0 z1 z2 : Value} (h : Thr w r z0 z1 z2) (hne : c ≠ r) : Thr (set3 w c u0 u1 u2) r z0 z1 z2 :=
  ⟨⟨by rw [set3_far hne]; exact h.1.1, by rw [set3_far hne]; exact h.1.2.1, by rw [set3_far hne]; exact h.1.2.2⟩, ((h.2.setCell _ _).setCell _ _).setCell _ _⟩
theorem Thr.seg {w : World} {c : Nat} {u0 u1 u2 z0 z1 z2 : Value} (h : Thr w c z0 z1 z2) (k0 : ∀ i, z0 ≠ .int .u32 i) (k1 : ∀ i, z1 ≠ .int .u32 i) (k2 : ∀ i, z2 ≠ .int .u32 i) {p : Option Addr} {X n : Nat} (hS : Seg w p X n) : Seg (set3 w c u0 u1 u2) p X n := by
  refine seg_setT (z := z2) (seg_setT (z := z1) (seg_setT (z := z0) hS h.1.1 k0) ?_ k1) ?_ k2
  · rw [World.cell?_setCell_other _ _ _ _ (fun e => by simp at e)]; exact h.1.2.1
  · rw [World.cell?_setCell_other _ _ _ _ (fun e => by simp at e), World.cell?_setCell_other _ _ _ _ (fun e => by simp at e)]; exact h.1.2.2
theorem below_set3 {B : Nat} {w w' : World} {c : Nat} {u0 u1 u2 : Value} (h : Below B w w') (hc : B ≤ c) : Below B w (set3 w' c u0 u1 u2) := ((h.setCell hc _).setCell hc _).setCell hc _
set_option maxHeartbeats 2000000 in
set_option maxRecDepth 100000 in
theorem vqInt_is (z : Int) (p0 : Option Addr) (w : World) (lz : ln (am z) ≤ 4398046511104) (hS : Seg w p0 (am z) (ln (am z))) :
    Calls Tryz.prog 13 #[.agg #[.bool (ng z), .slice p0 (ln (am z)) (ln (am z))]] w fun e w' => ∃ p q, e = .returned (.agg #[.bool (ng z), .slice p (ln (am z)) (ln (am z)), .slice q (ln 1) (ln 1)]) ∧ New w w' p (am z) (ln (am z)) ∧ New w w' q 1 (ln 1) := by
  have hL : Low (rn (ng z) (am z) 1) ((rd 1 : Nat) : Int) z 1 := Low.nf (Low.self (by omega) (by simp)) (by omega)
  obtain ⟨V, hV⟩ : ∃ V : Nat, 1 = V := ⟨_, rfl⟩
  have P2 : ∀ w' p q, Seg w' p (am z) (ln (am z)) → Seg w' q 1 1 → Calls Tryz.prog 28 #[.agg #[.bool (ng z), .slice p (ln (am z)) (ln (am z)), .slice q 1 1]] w' fun e w'' => ∃ p q, e = .returned (.agg #[.bool (ng z), .slice p (ln (am z)) (ln (am z)), .slice q (ln V) (ln V)]) ∧ New w' w'' p (am z) (ln (am z)) ∧ New w' w'' q V (ln V) := fun w' p q k1 k2 => by
    subst hV
    exact vqNorm_is (ng z) p (ln (am z)) (ln (am z)) (am z) q 1 1 1 1 z w' (by omega) k1 (by omega) k2 hL
  have H2 := hide' P2
  rw [show ln 1 = ln V by rw [hV]]
  have e1 : ∀ w' q, New w w' q 1 (ln V) ↔ New w w' q V (ln V) := fun w' q => by rw [← hV]
  simp only [e1]
  clear P2 hL hV e1
  have bA := (below_alloc (w := w) (.cells #[.bool (ng z), .slice p0 (ln (am z)) (ln (am z))] 25)).alloc (by simp) (.cells #[.bool false, .slice none 0 0, .slice none 0 0] 27)
  have n9 := single_new ((w.alloc (.cells #[.bool (ng z), .slice p0 (ln (am z)) (ln (am z))] 25)).alloc (.cells #[.bool false, .slice none 0 0, .slice none 0 0] 27)) 1 38 1 (by omega) rfl
  simp only [World.size_alloc] at n9
  have bB := n9.below
  have v9 : Thr ((w.alloc (.cells #[.bool (ng z), .slice p0 (ln (am z)) (ln (am z))] 25)).alloc (.cells #[.bool false, .slice none 0 0, .slice none 0 0] 27)) (w.heap.size + 1) (.bool false) (.slice none 0 0) (.slice none 0 0) :=
    ⟨⟨by go_simp, by go_simp, by go_simp⟩, by have := row_new (w.alloc (.cells #[.bool (ng z), .slice p0 (ln (am z)) (ln (am z))] 25)) #[.bool false, .slice none 0 0, .slice none 0 0] 27; rwa [World.size_alloc] at this⟩
  have v8 := v9.later bB
  have b8 := bA.trans (bB.mono bA.size)
  have G2 := hide' (H2.out _ p0 _ ((hS.later bA).later bB) n9.seg)
  clear H2 v9 bA bB n9 hS
  go_enter Tryz.func13, Tryz.ntmps13
  go_wp2_with (go_at_call 28; refine G2.out.mono ?_; rintro e w2 ⟨p, q, rfl, hp, hq⟩; have v7 := v8.later hp.below; have b7 := b8.trans (hp.below.mono b8.size); replace hp := hp.back b8; replace hq := hq.back b8; clear G2 v8 b8; have z0 := v7.1.1; have z1 := v7.1.2.1; have z2 := v7.1.2.2; have fz := fun o => v7.2.frozen o)
  have v6 := v7.put (u0 := .bool (ng z)) (u1 := .slice p (ln (am z)) (ln (am z))) (u2 := .slice q (ln V) (ln V))
  have s1 := v7.seg (u0 := .bool (ng z)) (u1 := .slice p (ln (am z)) (ln (am z))) (u2 := .slice q (ln V) (ln V)) (by simp) (by simp) (by simp) hp.seg
  have s2 := v7.seg (u0 := .bool (ng z)) (u1 := .slice p (ln (am z)) (ln (am z))) (u2 := .slice q (ln V) (ln V)) (by simp) (by simp) (by simp) hq.seg
  have b6 := below_set3 (c := w.heap.size + 1) (u0 := .bool (ng z)) (u1 := .slice p (ln (am z)) (ln (am z))) (u2 := .slice q (ln V) (ln V)) b7 (by omega)
  clear z0 z1 z2 fz
  have z0 := v6.1.1
  have z1 := v6.1.2.1
  have z2 := v6.1.2.2
  unfold set3 at z0 z1 z2
  refine bodyPost_ret (v := .agg #[.bool (ng z), .slice p (ln (am z)) (ln (am z)), .slice q (ln V) (ln V)]) (by rw [results_cell rfl]; go_simp) rfl ?_
  exact ⟨p, q, rfl, ⟨s1, b6, fun hn => by obtain ⟨b, off, e, hl, hr⟩ := hp.fresh hn; exact ⟨b, off, e, hl, ((hr.setCell _ _).setCell _ _).setCell _ _⟩⟩, ⟨s2, b6, fun hn => by obtain ⟨b, off, e, hl, hr⟩ := hq.fresh hn; exact ⟨b, off, e, hl, ((hr.setCell _ _).setCell _ _).setCell _ _⟩⟩⟩
theorem vaddQ (A B : RatV) (S : Rat) (w : World) (hA : A.ok w) (hB : B.ok w) (hn : A.n ≤ 100000000 ∧ A.m ≤ 100000000 ∧ B.n ≤ 100000000 ∧ B.m ≤ 100000000) (hS : A.val + B.val = S) (hz : sz 100000000 S) : Calls Tryz.prog 27 #[.agg #[.bool A.s, .slice A.a A.n A.c, .slice A.b A.m A.e], .agg #[.bool B.s, .slice B.a B.n B.c, .slice B.b B.m B.e]] w (QA w S) := by
  subst hS
  refine (vqAdd_is A.s A.a A.n A.c A.X A.b A.m A.e A.Y B.s B.a B.n B.c B.X B.b B.m B.e B.Y _ _ w hA.2.1 (by omega) hA.1 hA.2.2.2.2.1 (by omega) hA.2.2.2.1 hB.2.1 (by omega) hB.1 hB.2.2.2.2.1 (by omega) hB.2.2.2.1 (low_add A B)).mono ?_
  rintro e w1 ⟨p, q, rfl, n1, n2⟩
  exact ⟨p, q, rfl, n1.below, ok_nR hz n1 n2⟩
theorem vmulQ (A B : RatV) (S : Rat) (w : World) (hA : A.ok w) (hB : B.ok w) (hn : A.n ≤ 100000000 ∧ A.m ≤ 100000000 ∧ B.n ≤ 100000000 ∧ B.m ≤ 100000000) (hS : A.val * B.val = S) (hz : sz 100000000 S) : Calls Tryz.prog 11 #[.agg #[.bool A.s, .slice A.a A.n A.c, .slice A.b A.m A.e], .agg #[.bool B.s, .slice B.a B.n B.c, .slice B.b B.m B.e]] w (QA w S) := by
  subst hS
  refine (vqMul_is A.s A.a A.n A.c A.X A.b A.m A.e A.Y B.s B.a B.n B.c B.X B.b B.m B.e B.Y _ _ w hA.2.1 (by omega) hA.1 hA.2.2.2.2.1 (by omega) hA.2.2.2.1 hB.2.1 (by omega) hB.1 hB.2.2.2.2.1 (by omega) hB.2.2.2.1 (low_mul A B)).mono ?_
  rintro e w1 ⟨p, q, rfl, n1, n2⟩
  exact ⟨p, q, rfl, n1.below, ok_nR hz n1 n2⟩
theorem vsubQ (A B : RatV) (S : Rat) (w : World) (hA : A.ok w) (hB : B.ok w) (hn : A.n ≤ 100000000 ∧ A.m ≤ 100000000 ∧ B.n ≤ 100000000 ∧ B.m ≤ 100000000) (hS : A.val - B.val = S) (hz : sz 100000000 S) : Calls Tryz.prog 12 #[.agg #[.bool A.s, .slice A.a A.n A.c, .slice A.b A.m A.e], .agg #[.bool B.s, .slice B.a B.n B.c, .slice B.b B.m B.e]] w (QA w S) := by
  subst hS
  refine (vqSub_is A.s A.a A.n A.c A.X A.b A.m A.e A.Y B.s B.a B.n B.c B.X B.b B.m B.e B.Y _ _ w hA.2.1 (by omega) hA.1 hA.2.2.2.2.1 (by omega) hA.2.2.2.1 hB.2.1 (by omega) hB.1 hB.2.2.2.2.1 (by omega) hB.2.2.2.1 (low_subY A B)).mono ?_
  rintro e w1 ⟨p, q, rfl, n1, n2⟩
  exact ⟨p, q, rfl, n1.below, ok_nR hz n1 n2⟩
theorem vcmpQ (A B : RatV) (w : World) (hA : A.ok w) (hB : B.ok w) (hn : A.n ≤ 100000000 ∧ A.m ≤ 100000000 ∧ B.n ≤ 100000000 ∧ B.m ≤ 100000000) (C : Int) (hS : sR (A.val - B.val) = C) : Calls Tryz.prog 14 #[.agg #[.bool A.s, .slice A.a A.n A.c, .slice A.b A.m A.e], .agg #[.bool B.s, .slice B.a B.n B.c, .slice B.b B.m B.e]] w fun e w1 => e = .returned (.int .i64 C) ∧ Below w.heap.size w w1 :=
  vqCmp_is A.s A.a A.n A.c A.X A.b A.m A.e A.Y B.s B.a B.n B.c B.X B.b B.m B.e B.Y C w hA.2.1 (by omega) hA.1 hA.2.2.2.2.1 (by omega) hA.2.2.2.1 hB.2.1 (by omega) hB.1 hB.2.2.2.2.1 (by omega) hB.2.2.2.1 ((sR_sub A B).trans hS)
theorem vnormQ (A : RatV) (S : Rat) (w : World) (hA : A.ok w) (hS : A.val = S) (hz : sz 100000000 S) : Calls Tryz.prog 28 #[.agg #[.bool A.s, .slice A.a A.n A.c, .slice A.b A.m A.e]] w (QA w S) := by
  subst hS
  have h1 := hA.2.2.1
  have h2 := hA.2.2.2.2.2
  refine (vqNorm_is A.s A.a A.n A.c A.X A.b A.m A.e A.Y _ _ w (by omega) hA.1 (by omega) hA.2.2.2.1 A.val_low).mono ?_
  rintro e w1 ⟨p, q, rfl, n1, n2⟩
  exact ⟨p, q, rfl, n1.below, ok_nR hz n1 n2⟩
def absR (r : Rat) : Rat := Rat.divInt (am r.num : Nat) (r.den : Int)
theorem absR_val (A : RatV) : absR A.val = Rat.divInt ((am (rn A.s A.X A.Y) : Nat) : Int) ((rd A.Y : Nat) : Int) := by
  have h := A.val_low
  unfold absR
  have hd := A.val.den_pos
  rw [Rat.divInt_eq_divInt_iff (by omega) (rd_ne _)]
  have e := h.eq
  have e2 : am (A.val.num * ((rd A.Y : Nat) : Int)) = am (rn A.s A.X A.Y * (A.val.den : Int)) := by rw [e]
  rw [am_mul, am_mul, am_nat, am_nat] at e2
  exact_mod_cast e2
theorem vabsQ (A : RatV) (S : Rat) (w : World) (hA : A.ok w) (hS : absR A.val = S) (hz : sz 100000000 S) (hn : A.n ≤ 100000000 ∧ A.m ≤ 100000000) : Calls Tryz.prog 15 #[.agg #[.bool A.s, .slice A.a A.n A.c, .slice A.b A.m A.e]] w (QA w S) := by
  subst hS
  refine (vqAbs_is A.s A.a A.n A.c A.X A.b A.m A.e A.Y _ _ w hA.2.1 (by omega) hA.1 hA.2.2.2.2.1 (by omega) hA.2.2.2.1 (low_of (rd_ne _) (absR_val A))).mono ?_
  rintro e w1 ⟨p, q, rfl, n1, n2⟩
  exact ⟨p, q, rfl, n1.below, ok_nR hz n1 n2⟩
theorem vintQ (z : Int) (p0 : Option Addr) (w : World) (lz : ln (am z) ≤ 10000000) (hS : Seg w p0 (am z) (ln (am z))) : Calls Tryz.prog 13 #[.agg #[.bool (ng z), .slice p0 (ln (am z)) (ln (am z))]] w (QA w (z : Rat)) := by
  refine (vqInt_is z p0 w (by omega) hS).mono ?_
  rintro e w1 ⟨p, q, rfl, n1, n2⟩
  exact ⟨p, q, rfl, n1.below, ok_nR (r := (z : Rat)) ⟨by show ln (am z) ≤ _; omega, by show ln 1 ≤ _; rw [ln_one]; omega⟩ n1 n2⟩
theorem vintN (X : Nat) (p0 : Option Addr) (w : World) (lz : ln X ≤ 10000000) (hS : Seg w p0 X (ln X)) : Calls Tryz.prog 13 #[.agg #[.bool false, .slice p0 (ln X) (ln X)]] w (QA w ((X : Int) : Rat)) := by
  have h := vintQ (X : Int) p0 w (by rw [am_nat]; exact lz) (by rw [am_nat]; exact hS)
  rw [am_nat, show ng (X : Int) = false by unfold ng; exact decide_eq_false (by omega)] at h
  exact h
theorem vfloorQ (S : Rat) (p q : Option Addr) (M G : Int) (w : World) (h : (nR S p q).ok w) (hz : sz 100000000 S) (hf : Fl S.num (S.den : Int) M G) : Calls Tryz.prog 26 #[.agg #[.bool (ng S.num), .slice p (ln (am S.num)) (ln (am S.num)), .slice q (ln S.den) (ln S.den)]] w fun e w1 => ∃ p1, e = .returned (.agg #[.bool (ng M), .slice p1 (ln (am M)) (ln (am M))]) ∧ New w w1 p1 (am M) (ln (am M)) :=
  have h1 := hz.1
  have h2 := hz.2
  vqFloor_is (ng S.num) p (ln (am S.num)) (ln (am S.num)) (am S.num) q (ln S.den) (ln S.den) S.den M G w (Nat.le_refl _) (by omega) h.1 (Nat.le_refl _) (by omega) h.2.2.2.1 (by rw [rn_nf S.den_pos, rd_nf S.den_pos]; exact hf)
end Go.Proofs.YtnoiiphgpjifgaaGreatDoor
