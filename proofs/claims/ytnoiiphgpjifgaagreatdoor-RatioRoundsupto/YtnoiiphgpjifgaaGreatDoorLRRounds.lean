import Derived.Test.YtnoiiphgpjifgaaGreatDoorWYG
import Derived.Test.YtnoiiphgpjifgaaGreatDoorWQA
import Derived.Test.YtnoiiphgpjifgaaGreatDoorWH3
import Derived.Test.YtnoiiphgpjifgaaGreatDoorOpenQ
import Derived.Test.YtnoiiphgpjifgaaGreatDoorCards
import Derived.Test.YtnoiiphgpjifgaaGreatDoorTie
import Derived.Deep.DeepHandedRow
import Derived.Lib.LaidTab
set_option linter.unusedSimpArgs false
namespace Go.Proofs.YtnoiiphgpjifgaaGreatDoor.ratioRounds
open Go.ChangeShapes Go.WideShapes Go.ChangeAt Go.RowKit Go.Proofs.YtnoiiphgpjifgaaGreatDoor
set_option linter.unusedVariables false
set_option maxHeartbeats 4000000 in
set_option maxRecDepth 100000 in
theorem walk_no (s0 : Bool) (a0 : Option Addr) (n0 c0 X0 : Nat) (b0 : Option Addr) (m0 d0 Y0 : Nat) (z : Int) (w : World) (hc0 : n0 ≤ c0) (hm0 : n0 ≤ 1048576) (hS0 : Seg w a0 X0 n0) (hd0 : m0 ≤ d0) (hk0 : m0 ≤ 1048576) (hT0 : Seg w b0 Y0 m0) (h1 : -9223372036854775808 ≤ z) (h2 : z ≤ 9223372036854775807) (hz : z < 0 ∨ 1000 < z) (hD : Digs w) : Calls Tryz.prog 4 #[.agg #[.bool s0, .slice a0 n0 c0, .slice b0 m0 d0], .int .i64 z] w fun e w' => e = .returned (.bool true) ∧ Below w.heap.size w w' := by
  have G1 := hide' (fun w' k1 k2 => ltwin_is s0 a0 n0 c0 X0 b0 m0 d0 Y0 w' hc0 (by omega) k1 hd0 (by omega) k2)
  have G2 := hide' (fun w' p q => dec_no s0 p n0 n0 X0 q m0 m0 Y0 z w' h1 h2 hz)
  replace hD := hide' hD
  rcases hz with hz | hz
  · skip
    have bel : Below w.heap.size w w := Below.refl _ _
    have bb := below_alloc (w := w) (.cells #[.bool s0, .slice a0 n0 c0, .slice b0 m0 d0] 27)
    replace hS0 := hS0.later bb
    replace hT0 := hT0.later bb
    replace bel := bel.trans (bb.mono bel.size)
    clear bb
    have qP := Blk.new w #[.bool s0, .slice a0 n0 c0, .slice b0 m0 d0] 27
    go_enter Tryz.func4, Tryz.ntmps4
    go_wp2_with fail
    obtain ⟨W0, hW⟩ : ∃ W, (w.alloc (.cells #[.bool s0, .slice a0 n0 c0, .slice b0 m0 d0] 27)) = W := ⟨_, rfl⟩
    rw [hW] at bel hS0 hT0 qP ⊢
    clear hW
    refine (G1.out _ hS0 hT0).mono ?_
    rintro e w1 ⟨p, q, rfl, np, nq⟩
    have bb := np.below
    replace hS0 := hS0.later bb
    replace hT0 := hT0.later bb
    replace qP := qP.later bb
    replace bel := bel.trans (bb.mono bel.size)
    clear bb
    have kp := np.seg
    have kq := nq.seg
    clear np nq
    go_wp2_with fail
    refine (G2.out _ p q).mono ?_
    rintro e w2 ⟨rfl, b2⟩
    have bb := b2
    replace hS0 := hS0.later bb
    replace hT0 := hT0.later bb
    replace qP := qP.later bb
    replace kp := kp.later bb
    replace kq := kq.later bb
    replace bel := bel.trans (bb.mono bel.size)
    clear bb
    clear b2
    go_wp2_with fail
    refine (half_is _ (five (hD.out.below bel))).mono ?_
    rintro e w3 ⟨rfl, b4⟩
    have bb := b4
    replace hS0 := hS0.later bb
    replace hT0 := hT0.later bb
    replace qP := qP.later bb
    replace kp := kp.later bb
    replace kq := kq.later bb
    replace bel := bel.trans (bb.mono bel.size)
    clear bb
    clear b4
    go_wp2
    go_ret
    exact ⟨rfl, bel⟩
  · skip
    have i1 : ¬ (z < 0) := by omega
    have bel : Below w.heap.size w w := Below.refl _ _
    have bb := below_alloc (w := w) (.cells #[.bool s0, .slice a0 n0 c0, .slice b0 m0 d0] 27)
    replace hS0 := hS0.later bb
    replace hT0 := hT0.later bb
    replace bel := bel.trans (bb.mono bel.size)
    clear bb
    have qP := Blk.new w #[.bool s0, .slice a0 n0 c0, .slice b0 m0 d0] 27
    go_enter Tryz.func4, Tryz.ntmps4
    go_wp2_with fail
    obtain ⟨W0, hW⟩ : ∃ W, (w.alloc (.cells #[.bool s0, .slice a0 n0 c0, .slice b0 m0 d0] 27)) = W := ⟨_, rfl⟩
    rw [hW] at bel hS0 hT0 qP ⊢
    clear hW
    refine (G1.out _ hS0 hT0).mono ?_
    rintro e w1 ⟨p, q, rfl, np, nq⟩
    have bb := np.below
    replace hS0 := hS0.later bb
    replace hT0 := hT0.later bb
    replace qP := qP.later bb
    replace bel := bel.trans (bb.mono bel.size)
    clear bb
    have kp := np.seg
    have kq := nq.seg
    clear np nq
    go_wp2_with fail
    refine (G2.out _ p q).mono ?_
    rintro e w2 ⟨rfl, b2⟩
    have bb := b2
    replace hS0 := hS0.later bb
    replace hT0 := hT0.later bb
    replace qP := qP.later bb
    replace kp := kp.later bb
    replace kq := kq.later bb
    replace bel := bel.trans (bb.mono bel.size)
    clear bb
    clear b2
    go_wp2_with fail
    refine (half_is _ (five (hD.out.below bel))).mono ?_
    rintro e w3 ⟨rfl, b4⟩
    have bb := b4
    replace hS0 := hS0.later bb
    replace hT0 := hT0.later bb
    replace qP := qP.later bb
    replace kp := kp.later bb
    replace kq := kq.later bb
    replace bel := bel.trans (bb.mono bel.size)
    clear bb
    clear b4
    go_wp2
    go_ret
    exact ⟨rfl, bel⟩
set_option maxHeartbeats 8000000 in
set_option maxRecDepth 100000 in
theorem walk_ok (s0 : Bool) (a0 : Option Addr) (n0 c0 X0 : Nat) (b0 : Option Addr) (m0 d0 Y0 : Nat) (k : Nat) (w : World) (hc0 : n0 ≤ c0) (hm0 : n0 ≤ 1048576) (hS0 : Seg w a0 X0 n0) (hd0 : m0 ≤ d0) (hk0 : m0 ≤ 1048576) (hT0 : Seg w b0 Y0 m0) (hp : k ≤ 1000) (hD : Digs w) : Calls Tryz.prog 4 #[.agg #[.bool s0, .slice a0 n0 c0, .slice b0 m0 d0], .int .i64 (k : Nat)] w fun e w' => e = .returned (.bool true) ∧ Below w.heap.size w w' := by
  obtain ⟨Q, hQ⟩ : ∃ Q : Int, rn s0 X0 Y0 * ((10 ^ k : Nat) : Int) = Q := ⟨_, rfl⟩
  obtain ⟨M, hM⟩ : ∃ M, rnd Q ((rd Y0 : Nat) : Int) = M := ⟨_, rfl⟩
  obtain ⟨u, hu⟩ := isTx_ex (b := 10) (by omega) (by omega) (am M)
  have lM := dec_ln hS0.1 hm0 hp hQ hM
  have lp := ten_lnP hp
  have us := hu.size_le (by omega) (ln_lt (am M))
  have hP0 : 0 < 10 ^ k := Nat.pow_pos (by omega)
  have hA : (⟨s0, a0, n0, c0, X0, b0, m0, d0, Y0⟩ : RatV).ok w := ⟨hS0, hc0, by show n0 ≤ _; omega, hT0, hd0, by show m0 ≤ _; omega⟩
  obtain ⟨V, hV⟩ : ∃ V : RatV, V = ⟨s0, a0, n0, c0, X0, b0, m0, d0, Y0⟩ := ⟨_, rfl⟩
  have hVal : V.val * (((10 ^ k : Nat) : Int) : Rat) = Rat.divInt Q ((rd Y0 : Nat) : Int) := by
    rw [hV, ← hQ, show (((10 ^ k : Nat) : Int) : Rat) = Rat.divInt ((10 ^ k : Nat) : Int) 1 from (Rat.num_divInt_den _).symm]
    unfold RatV.val
    rw [Rat.divInt_mul_divInt, Int.mul_one]
  have hrm := round_math (P := 10 ^ k) (by have := rd_pos Y0; omega) hP0 hM hVal
  obtain ⟨x, hx⟩ : ∃ x : Rat, Rat.divInt M ((10 ^ k : Nat) : Int) = x := ⟨_, rfl⟩
  have hlo : Low M ((10 ^ k : Nat) : Int) x.num x.den := low_of (by omega) hx.symm
  have yx : sz 1048704 x := ⟨Nat.le_trans (ln_le_of_lt (Nat.lt_of_le_of_lt hlo.le.1 (ln_lt (am M)))) lM, by
    have h := hlo.le.2
    rw [am_nat] at h
    exact Nat.le_trans (ln_le_of_lt (Nat.lt_of_le_of_lt h (ln_lt (10 ^ k)))) (by omega)⟩
  have yV : sz 1048577 V.val := by rw [hV]; exact szV hA (by show n0 ≤ _; omega) (by show m0 + 1 ≤ _; omega)
  have yT : sz 126 (((10 ^ k : Nat) : Int) : Rat) := sz_int (by rw [am_nat]; exact lp) (by omega)
  obtain ⟨S1, eS⟩ : ∃ S : Rat, x - V.val = S := ⟨_, rfl⟩
  have yS := sz_subY yx yV
  rw [eS] at yS
  obtain ⟨O1, eO⟩ : ∃ S : Rat, S1 * (((10 ^ k : Nat) : Int) : Rat) = S := ⟨_, rfl⟩
  have yO := sz_mulY yS yT
  rw [eO] at yO
  obtain ⟨AB, eA⟩ : ∃ S : Rat, absR O1 = S := ⟨_, rfl⟩
  have yA := sz_abs yO
  rw [eA] at yA
  rw [hx, eS, eO, eA] at hrm
  obtain ⟨C, hC⟩ : ∃ C, sR (AB - Rat.divInt 1 2) = C := ⟨_, rfl⟩
  rw [hC] at hrm
  have zS := hide' (yS.mono (show _ ≤ 100000000 by omega))
  have zO := hide' (yO.mono (show _ ≤ 100000000 by omega))
  have zA := hide' (yA.mono (show _ ≤ 100000000 by omega))
  have zx := hide' (yx.mono (show _ ≤ 100000000 by omega))
  obtain ⟨v, hv⟩ : ∃ v, decT (ng M) k u = v := ⟨_, rfl⟩
  have hR : Rd (bodyOf v) (some (am M, 10 ^ k)) := by rw [← hv, (dec_neg hu).2]; exact rd_dec hu
  have hL : Low (sg (negOf v) (am M)) ((10 ^ k : Nat) : Int) x.num x.den := by rw [← hv, (dec_neg hu).1, sg_na]; exact hlo
  have hlast := last_dec (s := ng M) (p := k) hu
  rw [hv] at hlast
  have vs : v.size ≤ 33562000 ∧ 1 ≤ v.size := by
    have h1 := pad_size k u
    have h2 := pt_size (p := k) (z := padT k u) (by omega)
    rw [← hv]; unfold decT
    split
    · rw [ByteArray.size_append]; show 1 + _ ≤ _ ∧ 1 ≤ 1 + _; split at h2 <;> omega
    · split at h2 <;> omega
  have G1 := hide' (fun w' k1 k2 => ltwin_is s0 a0 n0 c0 X0 b0 m0 d0 Y0 w' hc0 (by omega) k1 hd0 (by omega) k2)
  have G2' := fun w' p q k1 k2 kd => dec_is s0 p n0 n0 X0 q m0 m0 Y0 k M Q u w' (Nat.le_refl _) (by omega) k1 (Nat.le_refl _) (by omega) k2 hp kd noughts (pow10 noughts) hQ hM (by omega) hu
  rw [hv] at G2'
  have G2 := hide' G2'
  clear G2'
  have G3 := hide' (fun w' kd => qParse_some v (am M) (10 ^ k) x.den x.num (by omega) (pow10 noughts) hR hL w' kd)
  have G5 := hide' (fun w' a k1 => rPow10 a k w' hp k1)
  have G6 := hide' (fun w' p1 q1 (k1 : (nR x p1 q1).ok w') (k2 : V.ok w') => vsubQ (nR x p1 q1) V S1 w' k1 k2 ⟨zx.out.1, zx.out.2, by rw [hV]; show n0 ≤ _; omega, by rw [hV]; show m0 ≤ _; omega⟩ (by rw [nR_val]; exact eS) zS.out)
  have G7 := hide' (fun w' a k1 => vintN (10 ^ k) a w' (by omega) k1)
  have G8 := hide' (fun w' p1 q1 p2 q2 (k1 : (nR S1 p1 q1).ok w') (k2 : (nR (((10 ^ k : Nat) : Int) : Rat) p2 q2).ok w') => vmulQ (nR S1 p1 q1) (nR (((10 ^ k : Nat) : Int) : Rat) p2 q2) O1 w' k1 k2 ⟨zS.out.1, zS.out.2, Nat.le_trans yT.1 (by omega), Nat.le_trans yT.2 (by omega)⟩ (by rw [nR_val, nR_val]; exact eO) zO.out)
  have G9 := hide' (fun w' p1 q1 (k1 : (nR O1 p1 q1).ok w') => vabsQ (nR O1 p1 q1) AB w' k1 (by rw [nR_val]; exact eA) zA.out ⟨zO.out.1, zO.out.2⟩)
  have GA := hide' (fun w' p1 q1 pa pb (k0 : (nR AB p1 q1).ok w') (k1 : Seg w' (some ⟨pa, 0, none⟩) 1 1) (k2 : Seg w' (some ⟨pb, 0, none⟩) 2 1) => vcmpQ (nR AB p1 q1) ⟨false, some ⟨pa, 0, none⟩, 1, 1, 1, some ⟨pb, 0, none⟩, 1, 1, 2⟩ w' k0 ⟨k1, Nat.le_refl _, by show (1 : Nat) ≤ _; omega, k2, Nat.le_refl _, by show (1 : Nat) ≤ _; omega⟩ ⟨zA.out.1, zA.out.2, by show (1 : Nat) ≤ _; omega, by show (1 : Nat) ≤ _; omega⟩ C (by rw [nR_val]; exact hC))
  replace hD := hide' hD
  replace hrm := hide' hrm
  replace hlast := hide' hlast
  replace vs := hide' vs
  replace lp := hide' lp
  have i1 : ¬ ((k : Int) < 0) := by omega
  have i2 : ¬ ((1000 : Int) < (k : Int)) := by omega
  have xk1 : ln (am x.num) ≤ 100000000 := zx.out.1
  have xk2 : ln x.den ≤ 100000000 := zx.out.2
  replace xk1 := hide' xk1
  replace xk2 := hide' xk2
  subst hV
  clear hQ hM hu lM us hP0 hVal hx hlo yx yV yT eS yS eO yO eA yA hC hR hL hv hS0 hT0
  have bel : Below w.heap.size w w := Below.refl _ _
  have bb := below_alloc (w := w) (.cells #[.bool s0, .slice a0 n0 c0, .slice b0 m0 d0] 27)
  replace hA := hA.on bb
  replace bel := bel.trans (bb.mono bel.size)
  clear bb
  have qP := Blk.new w #[.bool s0, .slice a0 n0 c0, .slice b0 m0 d0] 27
  go_enter Tryz.func4, Tryz.ntmps4
  go_wp2_with fail
  obtain ⟨W0, hW⟩ : ∃ W, (w.alloc (.cells #[.bool s0, .slice a0 n0 c0, .slice b0 m0 d0] 27)) = W := ⟨_, rfl⟩
  rw [hW] at bel qP hA ⊢
  clear hW
  refine (G1.out _ hA.1 hA.2.2.2.1).mono ?_
  rintro e w1 ⟨p, q, rfl, np, nq⟩
  have bb := np.below
  replace qP := qP.later bb
  replace hA := hA.on bb
  replace bel := bel.trans (bb.mono bel.size)
  clear bb
  have kp := np.seg
  have kq := nq.seg
  clear np nq
  go_wp2_with fail
  refine (G2.out _ p q kp kq (hD.out.below bel)).mono ?_
  rintro e w2 ⟨rfl, b2⟩
  have bb := b2
  replace qP := qP.later bb
  replace kp := kp.later bb
  replace kq := kq.later bb
  replace hA := hA.on bb
  replace bel := bel.trans (bb.mono bel.size)
  clear bb
  clear b2
  clear kp kq
  go_wp2_with fail
  refine (G3.out _ (hD.out.below bel)).mono ?_
  rintro e w3 ⟨px, qx, rfl, b3, kx, ky⟩
  have bb := b3
  replace qP := qP.later bb
  replace hA := hA.on bb
  replace bel := bel.trans (bb.mono bel.size)
  clear bb
  clear b3
  have lq7qP := qP.lt
  have bb := below_alloc (w := w3) (.cells #[.bool (ng x.num), .slice px (ln (am x.num)) (ln (am x.num)), .slice qx (ln x.den) (ln x.den)] 27)
  replace qP := qP.later bb
  replace kx := kx.later bb
  replace ky := ky.later bb
  replace hA := hA.on bb
  replace bel := bel.trans (bb.mono bel.size)
  clear bb
  have q7 := Blk.new w3 #[.bool (ng x.num), .slice px (ln (am x.num)) (ln (am x.num)), .slice qx (ln x.den) (ln x.den)] 27
  go_wp2_with fail
  refine (half_is _ (five (hD.out.below bel))).mono ?_
  rintro e w4 ⟨rfl, b4⟩
  have bb := b4
  replace qP := qP.later bb
  replace kx := kx.later bb
  replace ky := ky.later bb
  replace q7 := q7.later bb
  replace hA := hA.on bb
  replace bel := bel.trans (bb.mono bel.size)
  clear bb
  clear b4
  have ox : (nR x px qx).ok _ := ⟨kx, Nat.le_refl _, by show ln (am x.num) ≤ _; have := xk1.out; omega, ky, Nat.le_refl _, by show ln x.den ≤ _; have := xk2.out; omega⟩
  clear kx ky
  go_wp2_with fail
  have n7 := single_new w4 10 38 10 (by omega) rfl
  have k7 := n7.seg
  have bb := n7.below
  clear n7
  replace qP := qP.later bb
  replace q7 := q7.later bb
  replace hA := hA.on bb
  replace ox := ox.on bb
  replace bel := bel.trans (bb.mono bel.size)
  clear bb
  refine (G5.out _ _ k7).mono ?_
  rintro e w5 ⟨aT, rfl, nT⟩
  have bb := nT.below
  replace qP := qP.later bb
  replace q7 := q7.later bb
  replace hA := hA.on bb
  replace ox := ox.on bb
  replace bel := bel.trans (bb.mono bel.size)
  clear bb
  have kT := nT.seg
  clear nT
  clear k7
  have q7_0 := q7.cell 0
  have q7_1 := q7.cell 1
  have q7_2 := q7.cell 2
  have qP_0 := qP.cell 0
  have qP_1 := qP.cell 1
  have qP_2 := qP.cell 2
  simp only [List.getElem?_toArray, List.getElem?_cons_zero, List.getElem?_cons_succ] at q7_0 q7_1 q7_2 qP_0 qP_1 qP_2
  go_wp2_with fail
  clear q7_0 q7_1 q7_2 qP_0 qP_1 qP_2
  refine (G6.out _ px qx ox hA).mono ?_
  rintro e w6 ⟨pS, qS, rfl, bS, oS⟩
  have bb := bS
  replace qP := qP.later bb
  replace q7 := q7.later bb
  replace kT := kT.later bb
  replace hA := hA.on bb
  replace ox := ox.on bb
  replace bel := bel.trans (bb.mono bel.size)
  clear bb
  clear bS
  go_wp2_with fail
  refine (G7.out _ aT kT).mono ?_
  rintro e w7 ⟨pt, qt, rfl, bt9, ot⟩
  have bb := bt9
  replace qP := qP.later bb
  replace q7 := q7.later bb
  replace kT := kT.later bb
  replace hA := hA.on bb
  replace ox := ox.on bb
  replace oS := oS.on bb
  replace bel := bel.trans (bb.mono bel.size)
  clear bb
  clear bt9
  go_wp2_with fail
  refine (G8.out _ pS qS pt qt oS ot).mono ?_
  rintro e w8 ⟨pO, qO, rfl, bO, oO⟩
  have bb := bO
  replace qP := qP.later bb
  replace q7 := q7.later bb
  replace kT := kT.later bb
  replace hA := hA.on bb
  replace ox := ox.on bb
  replace oS := oS.on bb
  replace ot := ot.on bb
  replace bel := bel.trans (bb.mono bel.size)
  clear bb
  clear bO
  clear oS ot kT ox hA
  have lqoqP := qP.lt
  have lqoq7 := q7.lt
  have bb := below_alloc (w := w8) (.cells #[.bool (ng O1.num), .slice pO (ln (am O1.num)) (ln (am O1.num)), .slice qO (ln O1.den) (ln O1.den)] 27)
  replace qP := qP.later bb
  replace q7 := q7.later bb
  replace oO := oO.on bb
  replace bel := bel.trans (bb.mono bel.size)
  clear bb
  have qo := Blk.new w8 #[.bool (ng O1.num), .slice pO (ln (am O1.num)) (ln (am O1.num)), .slice qO (ln O1.den) (ln O1.den)] 27
  go_wp2_with fail
  refine (G9.out _ pO qO oO).mono ?_
  rintro e w9 ⟨pA, qA, rfl, bA, oA⟩
  have bb := bA
  replace qP := qP.later bb
  replace q7 := q7.later bb
  replace qo := qo.later bb
  replace oO := oO.on bb
  replace bel := bel.trans (bb.mono bel.size)
  clear bb
  clear bA
  clear oO
  go_wp2_with fail
  have n8 := single_new w9 1 38 1 (by omega) rfl
  have k8 := n8.seg
  have bb := n8.below
  clear n8
  replace qP := qP.later bb
  replace q7 := q7.later bb
  replace qo := qo.later bb
  replace oA := oA.on bb
  replace bel := bel.trans (bb.mono bel.size)
  clear bb
  have n8 := single_new (w9.alloc (.cells #[.int .u32 1] 38)) 2 38 2 (by omega) rfl
  simp only [World.size_alloc] at n8
  have k9 := n8.seg
  clear n8
  have bb := below_alloc (w := (w9.alloc (.cells #[.int .u32 1] 38))) (.cells #[.int .u32 2] 38)
  replace qP := qP.later bb
  replace q7 := q7.later bb
  replace qo := qo.later bb
  replace k8 := k8.later bb
  replace oA := oA.on bb
  replace bel := bel.trans (bb.mono bel.size)
  clear bb
  refine (GA.out _ pA qA _ _ oA k8 k9).mono ?_
  rintro e w10 ⟨rfl, bC⟩
  have bb := bC
  replace qP := qP.later bb
  replace q7 := q7.later bb
  replace qo := qo.later bb
  replace k8 := k8.later bb
  replace k9 := k9.later bb
  replace oA := oA.on bb
  replace bel := bel.trans (bb.mono bel.size)
  clear bb
  clear bC
  clear k8 k9 oA
  have vs2 := vs.out
  have j1 : (v.size : Int) - 1 = ((v.size - 1 : Nat) : Int) := by omega
  have j2 : v.size - 1 < v.size := by omega
  obtain ⟨l, hl⟩ : ∃ l, v.size - 1 = l := ⟨_, rfl⟩
  rw [hl] at j1 j2
  replace hl := hide' hl
  have j3 : ((l : Int) < (v.size : Int)) := by omega
  have j4 : l ≤ 33562000 := by omega
  clear vs2
  have hlb : v[l].toNat = 48 + am M % 10 := by have h := hlast.out; rw [hl.out, byt_of j2] at h; exact h
  rcases hrm.out with h9 | ⟨h9, h8⟩
  · subst h9
    clear hlb
    go_wp2
    go_ret
    exact ⟨rfl, bel⟩
  · subst h9
    have hd5 : v[l].toNat = 48 ∨ v[l].toNat = 50 ∨ v[l].toNat = 52 ∨ v[l].toNat = 54 ∨ v[l].toNat = 56 := by have : am M % 2 = 0 := (by unfold am; omega); omega
    clear hlb h8
    rcases hd5 with h7 | h7 | h7 | h7 | h7
    · go_wp2
      go_ret
      exact ⟨by simp, bel⟩
    · go_wp2
      go_ret
      exact ⟨by simp, bel⟩
    · go_wp2
      go_ret
      exact ⟨by simp, bel⟩
    · go_wp2
      go_ret
      exact ⟨by simp, bel⟩
    · go_wp2
      go_ret
      exact ⟨by simp, bel⟩
theorem walk (s0 : Bool) (a0 : Option Addr) (n0 c0 X0 : Nat) (b0 : Option Addr) (m0 d0 Y0 : Nat) (z : Int) (w : World) (hc0 : n0 ≤ c0) (hm0 : n0 ≤ 1048576) (hS0 : Seg w a0 X0 n0) (hd0 : m0 ≤ d0) (hk0 : m0 ≤ 1048576) (hT0 : Seg w b0 Y0 m0) (h1 : -9223372036854775808 ≤ z) (h2 : z ≤ 9223372036854775807) (hD : Digs w) : Calls Tryz.prog 4 #[.agg #[.bool s0, .slice a0 n0 c0, .slice b0 m0 d0], .int .i64 z] w fun e w' => e = .returned (.bool true) ∧ Below w.heap.size w w' := by
  by_cases hz : z < 0 ∨ 1000 < z
  · exact walk_no s0 a0 n0 c0 X0 b0 m0 d0 Y0 z w hc0 hm0 hS0 hd0 hk0 hT0 h1 h2 hz hD
  · obtain ⟨k, rfl⟩ : ∃ k : Nat, z = (k : Int) := ⟨z.toNat, by omega⟩
    exact walk_ok s0 a0 n0 c0 X0 b0 m0 d0 Y0 k w hc0 hm0 hS0 hd0 hk0 hT0 (by omega) hD
theorem gTab : Tryz.prog.globalNamed "fulcrum/nat.digits" = some 0 := by kernel_rfl
theorem gTabType : (Tryz.prog.globals[0]?).map (·.type) = some 114 := by kernel_rfl
theorem cellsA : Tryz.prog.cellsOf 114 = 16 := by kernel_rfl
theorem cells8 : Tryz.prog.cellsOf 5 = 1 := by kernel_rfl
theorem table {W : World} (h : laidMetH Tryz.prog Rows.ratioRoundsUptoRow.laid W) : Lib.TabIs Tryz.prog W "fulcrum/nat.digits" .u8 [48, 49, 50, 51, 52, 53, 54, 55, 56, 57, 97, 98, 99, 100, 101, 102] :=
  Lib.tabIs_of_head (rest := []) gTab gTabType Tryz.underlying114 Tryz.underlying5 cells8 cellsA h
theorem digs_of {W : World} (h : laidMetH Tryz.prog Rows.ratioRoundsUptoRow.laid W) : Digs W
  | 0, _ => (table h).cell gTab 0 (by decide)
  | 1, _ => (table h).cell gTab 1 (by decide)
  | 2, _ => (table h).cell gTab 2 (by decide)
  | 3, _ => (table h).cell gTab 3 (by decide)
  | 4, _ => (table h).cell gTab 4 (by decide)
  | 5, _ => (table h).cell gTab 5 (by decide)
  | 6, _ => (table h).cell gTab 6 (by decide)
  | 7, _ => (table h).cell gTab 7 (by decide)
  | 8, _ => (table h).cell gTab 8 (by decide)
  | 9, _ => (table h).cell gTab 9 (by decide)
  | 10, _ => (table h).cell gTab 10 (by decide)
  | 11, _ => (table h).cell gTab 11 (by decide)
  | 12, _ => (table h).cell gTab 12 (by decide)
  | 13, _ => (table h).cell gTab 13 (by decide)
  | 14, _ => (table h).cell gTab 14 (by decide)
  | 15, _ => (table h).cell gTab 15 (by decide)
  | k + 16, hk => absurd hk (by omega)
set_option maxRecDepth 100000 in
theorem contract (H : Type) (enc : TypeId × Value → H) (W : World) (base : Nat) (args : Array Value) (ds gs : List (DataW H)) (before : List MemPlace)
    (hval : ∀ (j : Nat) t v, Tryz.f4.params[j]? = some t → args[j]? = some v → Value.okWide Tryz.prog W .any base t v)
    (hW : DataW.Whole enc Tryz.prog Tryz.f4.params.toList Rows.ratioRoundsSpec.vars false W args.toList ds gs before)
    (hsz : (DataW.weightsEach Tryz.prog (Tryz.f4.params.toList ++ Rows.ratioRoundsSpec.plain.varTypes Tryz.prog) (ds ++ gs)).all (· ≤ reachBytes) = true) (hk : Rows.uptoSmall H (ds ++ gs) = true) (hL : laidMetH Tryz.prog Rows.ratioRoundsUptoRow.laid W) :
    Calls Tryz.prog 4 args W fun e W' => ∃ v, e = .returned v ∧ Rows.ratioRoundsSpec.post enc Tryz.prog Tryz.f4 false true false false W args v W' := by
  have hW' := hW
  obtain ⟨p, q, hA0, hV, rfl, hfz, hnd⟩ := hW
  have hA : DataW.TrodAll enc Tryz.prog W 0 (fun _ => true) true Tryz.f4.params.toList args.toList ds p := hA0
  rw [Tryz.params4] at hA hval hsz
  obtain ⟨v0, vs0, d0, ds0, p0, q0, hargs, rfl, rfl, h0, r0⟩ := trodAll_cons hA
  obtain ⟨v1, vs1, d1, ds1, p1, q1, rfl, rfl, rfl, h1, r1⟩ := trodAll_cons r0
  obtain ⟨rfl, rfl, rfl⟩ := trodAll_nil r1
  obtain rfl : args = #[v0, v1] := by cases args; simp_all
  obtain ⟨rfl, rfl⟩ := trodVars_none hV
  have lt0 : ∀ x ∈ p0, x.block < W.heap.size := by obtain ⟨m, hm⟩ := h0; exact DataW.trod_lt m _ _ _ hm
  obtain ⟨rs0, ra0, rn0, rc0, rX0, rb0, rm0, re0, rY0, rfl, hS0, hc0, hb0, hT0, hd0, hk0, hu0, hv0⟩ := open_Rat (hval 0 27 v0 rfl rfl) h0 (sized_at 0 hsz rfl rfl)
  obtain ⟨z1, rfl, rfl, rfl, w1⟩ := open_int Tryz.underlying3 (hval 1 3 v1 rfl rfl) h1
  have bz1 := bounds_i64 w1
  clear hA0
  have hbulk := of_decide_eq_true hk
  simp only [List.append_nil, Rows.uptoBulkAll] at hbulk
  replace hb0 : rn0 ≤ 1048576 := by omega
  replace hk0 : rm0 ≤ 1048576 := by omega
  simp only [List.append_nil] at hW'
  refine (walk rs0 ra0 rn0 rc0 rX0 rb0 rm0 re0 rY0 z1 W hc0 hb0 hS0 hd0 hk0 hT0 (by omega) (by omega) (digs_of hL)).mono fun e W' ⟨he, bel⟩ => ?_
  subst he
  exact ⟨_, rfl, _, _, _, [], _, [], hW', trodAll_mk1 (shut_bool Tryz.underlying4 _), (trodAll_cons_mk (Below.trod laidOut (by kernel_rfl) (of_decide_eq_true (by kernel_rfl)) h0 bel lt0) (trodAll_cons_mk (shut_int Tryz.underlying3 w1) trodAll_mk0)), rfl, bel.frame _, fun h => by cases h⟩
def setCells (cs : Array Value) : Obj → Obj
  | .cells _ t frozen => .cells cs t frozen
  | o => o
set_option maxRecDepth 100000 in
noncomputable def laidWorld (os : Os) : World :=
  { World.holding Tryz.prog os ⟨#[], #[], []⟩ with heap := ((World.holding Tryz.prog os ⟨#[], #[], []⟩).heap.modify 0 (setCells #[.int .u8 48, .int .u8 49, .int .u8 50, .int .u8 51, .int .u8 52, .int .u8 53, .int .u8 54, .int .u8 55, .int .u8 56, .int .u8 57, .int .u8 97, .int .u8 98, .int .u8 99, .int .u8 100, .int .u8 101, .int .u8 102])) }
set_option maxRecDepth 100000 in
theorem laid_met (os : Os) : laidMet Tryz.prog Rows.ratioRoundsUptoRow.laid ((laidWorld os).forCall (fun _ _ => 0) ⟨#[], #[.agg #[.bool false, .slice none 0 0, .slice none 0 0], .int .i64 0], []⟩).memory :=
  laidMet_of_run' 8 (by kernel_rfl) (by kernel_rfl)
theorem reads (os : Os) {H : Type} (enc : TypeId × Value → H) : ∃ places, DataW.whole enc Tryz.prog ((laidWorld os).forCall (fun _ _ => 0) ⟨#[], #[.agg #[.bool false, .slice none 0 0, .slice none 0 0], .int .i64 0], []⟩).memory Tryz.f4.params.toList Rows.ratioRoundsSpec.vars false [Value.agg #[.bool false, .slice none 0 0, .slice none 0 0], Value.int .i64 0] 8 = some ([.agg [.agg [.lit (.bool false), .nil], .nil], .lit (.int .i64 0)], [], places) :=
  ⟨[], by kernel_rfl⟩
set_option maxRecDepth 100000 in
theorem liftedUpto (os : Os) (started : os.Started) (H : Type) (enc : TypeId × Value → H) (F : Stop.Interp) :
    ReturnsInHanded {} Tryz.checked os 4 .any ((Rows.OpenSpec.upto Rows.ratioRoundsSpec).preRow enc Tryz.prog Tryz.f4 Rows.ratioRoundsUptoRow.domain false Rows.ratioRoundsUptoRow.laid) (((Rows.OpenSpec.upto Rows.ratioRoundsSpec).at F).post enc Tryz.prog Tryz.f4 false true false false) := by
  obtain ⟨places, hx⟩ := reads os enc
  refine returnsInHanded_of_row (C := Tryz.checked) (s := Rows.OpenSpec.upto Rows.ratioRoundsSpec) own started (by kernel_rfl) Tryz.func4
    (witness_row_at (enc := enc) (C := Tryz.checked) false (laidWorld os) #[.agg #[.bool false, .slice none 0 0, .slice none 0 0], .int .i64 0] rfl (by kernel_rfl) (by kernel_rfl) (by kernel_rfl)
      (OpenSpec.preRow_of_cond 8 hx (by kernel_rfl) (fun k hk => by cases hk; kernel_rfl) (by kernel_rfl) (laid_met os))) ?_
  intro W base args ds gs before hval hW _ hk hsz hL hSh _
  exact contract H enc W base args ds gs before hval hW hsz (hk _ rfl) hL
theorem saidUpto : Rows.RatioRoundsUptoSaid :=
  OpenClaim.holds_of_cond 4 Tryz.f4 rfl rfl rfl rfl rfl rfl rfl ⟨rfl, rfl, rfl, rfl, rfl⟩ rfl rfl rfl rfl rfl (by kernel_rfl) Tryz.func4 (by kernel_rfl)
    (of_decide_eq_true (by kernel_rfl)) (by unfold Func.isWrapper; first | (rw [if_pos (by decide +kernel)]; kernel_rfl) | (rw [if_neg (by decide +kernel)]; exact ⟨rfl, rfl⟩))
    (fun os started H enc _ F => by rw [OpenClaim.pre_eq_preRow]; exact liftedUpto os started H enc F)
theorem plain (f : FuncId) (fn : Func) (hf : Tryz.pinned.checked.prog.funcNamed "fulcrum/fulcrumlaw03.RatioRounds" = some f) (hfn : Tryz.pinned.checked.prog.funcs[f]? = some fn) :
    false = Tryz.pinned.checked.prog.looks [] ∧ ∀ (j : Nat) t, fn.params[j]? = some t → Tryz.pinned.checked.prog.wantsStandIn t = false := by
  obtain rfl : f = 4 := Option.some.inj ((show Tryz.prog.funcNamed "fulcrum/fulcrumlaw03.RatioRounds" = some 4 by kernel_rfl).symm.trans hf) |>.symm
  obtain rfl : fn = Tryz.f4 := (Option.some.inj (Tryz.func4.symm.trans hfn)).symm
  refine ⟨by kernel_rfl, fun j t ht => ?_⟩
  rw [Tryz.params4] at ht
  have hm := Array.mem_of_getElem? ht
  simp only [List.mem_toArray, List.mem_cons, List.not_mem_nil, or_false] at hm
  rcases hm with rfl | rfl
  · exact (show Tryz.prog.wantsStandIn 27 = false by kernel_rfl)
  · exact (show Tryz.prog.wantsStandIn 3 = false by kernel_rfl)
theorem cardUpto : Rows.RatioRoundsUptoCardSaid :=
  Claim7.holds_tied_plain_at .later [] _ _ _ _ saidUpto (fun _ h => by cases h) (by kernel_rfl) (fun _ h => by cases h) ratioRoundsUpto_row_tie rfl ⟨rfl, rfl⟩ (by kernel_rfl) rfl plain (by kernel_rfl)
end Go.Proofs.YtnoiiphgpjifgaaGreatDoor.ratioRounds
namespace Go.Proofs.YtnoiiphgpjifgaaGreatDoor
theorem ratioRounds_holds : Rows.RatioRoundsUptoCardSaid := ratioRounds.cardUpto
#print axioms ratioRounds_holds
end Go.Proofs.YtnoiiphgpjifgaaGreatDoor
