/-
  ApproxBeside.
-/
import Derived.Test.YticdpbkbnflgbaaWFE
import Derived.Test.YticdpbkbnflgbaaWF1
import Derived.Test.YticdpbkbnflgbaaOpenQ
namespace Go.Proofs.Yticdpbkbnflgbaa.approxBeside
open Go.ChangeShapes Go.WideShapes Go.ChangeAt Go.RowKit Go.Proofs.Yticdpbkbnflgbaa
set_option linter.unusedVariables false

theorem nx_pos {k : Nat} (h : k < FI) : nxE (fB false k) = 0 ∧ nxF (fB false k) = fB false (k + 1) := by
  have e1 := FIv
  have e2 := SBv
  have h0 : nxE (fB false k) = 0 := by
    refine nxE_no ?_ ?_
    · rw [fB_mod (by omega)]; omega
    · unfold fB; simp; omega
  refine ⟨h0, ?_⟩
  rw [nxF_of h0]
  unfold nxt
  rw [fB_mod (by omega)]
  unfold fB
  simp only [Bool.false_eq_true, if_false]
  split
  · omega
  · rw [if_pos (by omega)]
theorem nx_neg {k : Nat} (h : k < FI) : nxE (fB true (k + 1)) = 0 ∧ nxF (fB true (k + 1)) = fB true k := by
  have e1 := FIv
  have e2 := SBv
  have h0 : nxE (fB true (k + 1)) = 0 := by
    refine nxE_no ?_ ?_
    · rw [fB_mod (by omega)]; omega
    · unfold fB; simp; omega
  refine ⟨h0, ?_⟩
  rw [nxF_of h0]
  unfold nxt
  rw [fB_mod (by omega)]
  unfold fB
  simp only [if_true]
  rw [if_neg (by omega), if_neg (by omega)]
  omega
theorem int_lt {a b c d : Nat} (h : a * b < c * d) : (a : Int) * (b : Int) < (c : Int) * (d : Int) := by
  have : ((a * b : Nat) : Int) < ((c * d : Nat) : Int) := by omega
  rwa [Int.natCast_mul, Int.natCast_mul] at this
theorem beside_ne {T : Nat} {s : Bool} {X Y k : Nat} (C : Cut T (rN X Y) (rd Y) k) (hr : rst T (rN X Y) (rd Y) k ≠ 0) :
    downB T s X Y k < 18446744073709551616 ∧ upB T s X Y k < 18446744073709551616 ∧ downB T s X Y k % SB ≤ FI ∧ upB T s X Y k % SB ≤ FI ∧ fkey (downB T s X Y k) < fkey (upB T s X Y k) ∧
    nxE (downB T s X Y k) = 0 ∧ nxF (downB T s X Y k) = upB T s X Y k ∧ (nearB T s X Y k = downB T s X Y k ∨ nearB T s X Y k = upB T s X Y k) ∧
    (downB T s X Y k % SB < FI → sgn (fv (downB T s X Y k) * ((rd Y : Nat) : Int) - rn s X Y * (T : Int)) = -1) ∧
    (upB T s X Y k % SB < FI → sgn (fv (upB T s X Y k) * ((rd Y : Nat) : Int) - rn s X Y * (T : Int)) = 1) ∧
    (downB T s X Y k % SB < FI ∨ upB T s X Y k % SB < FI) := by
  have hk := C.1
  have ha : am (rn s X Y) = rN X Y := rN_am s X Y
  have c1 := C.2.1
  have c2 := C.2.2
  have hne : rN X Y * T ≠ amt k * rd Y := fun h => hr (rst_zero.2 h)
  unfold downB upB nearB
  generalize rn s X Y = A at ha
  generalize rN X Y = N at ha c1 c2 hne hr
  generalize rd Y = D at c1 c2 hne hr
  have i1 := int_lt (a := amt k) (b := D) (c := N) (d := T) (by omega)
  have i2 : k + 1 < FI → (N : Int) * (T : Int) < ((amt (k + 1) : Nat) : Int) * (D : Int) := fun h => int_lt (c2.resolve_left (by omega))
  by_cases hA : A < 0
  · have hAN : A = -(N : Int) := by unfold am at ha; omega
    simp only [hr, hA, decide_true, ne_eq, not_false_eq_true, not_true, and_true, and_false, if_true, if_false]
    have hn := nx_neg hk
    refine ⟨fB_lt (by omega), fB_lt (by omega), by rw [fB_mod (by omega)]; omega, by rw [fB_mod (by omega)]; omega, ?_, hn.1, hn.2, ?_, fun h => ?_, fun h => ?_, Or.inr (by rw [fB_mod (by omega)]; omega)⟩
    · rw [fkey_fB (by omega), fkey_fB (by omega)]; simp; omega
    · split
      · exact Or.inl rfl
      · exact Or.inr rfl
    · rw [fB_mod (by omega)] at h
      rw [fv_fB (by omega), hAN]
      have := i2 h
      refine sgn_neg ?_
      simp only [sg, if_true, Int.neg_mul]; omega
    · rw [fv_fB (by omega), hAN]
      refine sgn_pos ?_
      simp only [sg, if_true, Int.neg_mul]; omega
  · have hAN : A = (N : Int) := by unfold am at ha; omega
    simp only [hr, hA, decide_false, ne_eq, not_false_eq_true, and_true, and_false, if_true, if_false]
    have hn := nx_pos hk
    refine ⟨fB_lt (by omega), fB_lt (by omega), by rw [fB_mod (by omega)]; omega, by rw [fB_mod (by omega)]; omega, ?_, hn.1, hn.2, ?_, fun h => ?_, fun h => ?_, Or.inl (by rw [fB_mod (by omega)]; omega)⟩
    · rw [fkey_fB (by omega), fkey_fB (by omega)]; simp; omega
    · split
      · exact Or.inr rfl
      · exact Or.inl rfl
    · rw [fv_fB (by omega), hAN]
      refine sgn_neg ?_
      simp only [sg, Bool.false_eq_true, if_false]; omega
    · rw [fB_mod (by omega)] at h
      rw [fv_fB (by omega), hAN]
      have := i2 h
      refine sgn_pos ?_
      simp only [sg, Bool.false_eq_true, if_false]; omega
theorem beside_eq {T : Nat} {s : Bool} {X Y k : Nat} (C : Cut T (rN X Y) (rd Y) k) (hr : rst T (rN X Y) (rd Y) k = 0) :
    downB T s X Y k < 18446744073709551616 ∧ downB T s X Y k % SB < FI ∧ nearB T s X Y k = downB T s X Y k ∧ upB T s X Y k = downB T s X Y k ∧ sgn (fv (downB T s X Y k) * ((rd Y : Nat) : Int) - rn s X Y * (T : Int)) = 0 := by
  have hk := C.1
  have ha : am (rn s X Y) = rN X Y := rN_am s X Y
  have he := rst_zero.1 hr
  have hu : nup T (rN X Y) (rd Y) k = false := by unfold nup; rw [hr]; simp
  unfold downB upB nearB
  rw [hu]
  simp only [hr, ne_eq, not_true, false_and, if_false, Bool.false_eq_true]
  refine ⟨fB_lt (by omega), by rw [fB_mod (by omega)]; exact hk, trivial, trivial, ?_⟩
  rw [fv_fB (by omega)]
  generalize rn s X Y = A at ha
  generalize rN X Y = N at ha he
  generalize rd Y = D at he
  have hi : (N : Int) * (T : Int) = ((amt k : Nat) : Int) * (D : Int) := by
    have : ((N * T : Nat) : Int) = ((amt k * D : Nat) : Int) := by omega
    rwa [Int.natCast_mul, Int.natCast_mul] at this
  have hz : sg (decide (A < 0)) (amt k) * (D : Int) - A * (T : Int) = 0 := by
    by_cases hA : A < 0
    · have hAN : A = -(N : Int) := by unfold am at ha; omega
      rw [hAN] at hA ⊢
      rw [decide_eq_true hA]
      simp only [sg, if_true, Int.neg_mul]; omega
    · have hAN : A = (N : Int) := by unfold am at ha; omega
      rw [hAN] at hA ⊢
      rw [decide_eq_false hA]
      simp only [sg, Bool.false_eq_true, if_false]; omega
  rw [hz]; rfl

set_option maxHeartbeats 8000000 in
set_option maxRecDepth 100000 in
theorem walk (s0 : Bool) (a0 : Option Addr) (n0 c0 X0 : Nat) (b0 : Option Addr) (m0 d0 Y0 : Nat) (w : World) (hc0 : n0 ≤ c0) (hm0 : n0 ≤ 35184372087808) (hS0 : Seg w a0 X0 n0) (hd0 : m0 ≤ d0) (hk0 : m0 ≤ 35184372087808) (hT0 : Seg w b0 Y0 m0) :
    Calls Try.prog 5 #[Value.agg #[Value.bool s0, Value.slice a0 n0 c0, Value.slice b0 m0 d0]] w fun e w' => e = .returned (.bool true) ∧ Below w.heap.size w w' := by
  obtain ⟨z, hz⟩ : ∃ z : Nat, z = 1074 := ⟨_, rfl⟩
  obtain ⟨T, hT⟩ : ∃ T : Nat, T = 2 ^ z := ⟨_, rfl⟩
  have Hnear := hide' (fun w' k1 k2 => near_is s0 a0 n0 c0 X0 b0 m0 d0 Y0 z T w' hc0 (by omega) k1 hd0 (by omega) k2 hz hT)
  have Hdown := hide' (fun w' k1 k2 => down_is s0 a0 n0 c0 X0 b0 m0 d0 Y0 z T w' hc0 (by omega) k1 hd0 (by omega) k2 hz hT)
  have Hup := hide' (fun w' k1 k2 => up_is s0 a0 n0 c0 X0 b0 m0 d0 Y0 z T w' hc0 (by omega) k1 hd0 (by omega) k2 hz hT)
  have HZ := hide' hz
  have HT := hide' hT
  clear hz hT
  go_enter Try.func5, Try.ntmps5
  go_wp2_with fail
  obtain ⟨W, hW⟩ : ∃ W, (w.alloc (.cells #[.bool s0, .slice a0 n0 c0, .slice b0 m0 d0] 27)) = W := ⟨_, rfl⟩
  have q00 : W.cell? ⟨w.heap.size, 0, none⟩ = some (.bool s0) := by subst hW; go_simp
  have q01 : W.cell? ⟨w.heap.size, 1, none⟩ = some (.slice a0 n0 c0) := by subst hW; go_simp
  have q02 : W.cell? ⟨w.heap.size, 2, none⟩ = some (.slice b0 m0 d0) := by subst hW; go_simp
  have hB : Below w.heap.size w W := by subst hW; exact ((Below.refl _ _).alloc (by (try simp only [World.size_alloc]); omega) _)
  have hz : W.heap.size = w.heap.size + 1 := by subst hW; simp only [World.size_alloc]
  rw [hW]
  clear hW
  have hBW : Below W.heap.size W W := Below.refl _ _
  refine (Hdown.out _ (sb hS0 hB hBW) (sb hT0 hB hBW)).mono ?_
  rintro e w5 ⟨k, rfl, hC, bb5⟩
  have b5 := bb5
  replace hBW := hBW.trans (b5.mono hBW.size)
  replace q00 := below_cell b5 q00
  replace q01 := below_cell b5 q01
  replace q02 := below_cell b5 q02
  go_wp2_with fail
  refine (Hnear.out _ (sb hS0 hB hBW) (sb hT0 hB hBW)).mono ?_
  rintro e w6 ⟨k2, rfl, hC2, bb6⟩
  have b6 := bb6
  replace hBW := hBW.trans (b6.mono hBW.size)
  replace q00 := below_cell b6 q00
  replace q01 := below_cell b6 q01
  replace q02 := below_cell b6 q02
  obtain rfl := hC.uniq hC2
  clear hC2
  go_wp2_with fail
  refine (Hup.out _ (sb hS0 hB hBW) (sb hT0 hB hBW)).mono ?_
  rintro e w7 ⟨k3, rfl, hC3, bb7⟩
  have b7 := bb7
  replace hBW := hBW.trans (b7.mono hBW.size)
  replace q00 := below_cell b7 q00
  replace q01 := below_cell b7 q01
  replace q02 := below_cell b7 q02
  obtain rfl := hC.uniq hC3
  clear hC3 Hdown Hnear Hup
  by_cases hr : rst T (rN X0 Y0) (rd Y0) k = 0
  · obtain ⟨e1, e2, e3, e4, e5⟩ := beside_eq (s := s0) hC hr
    rw [e3, e4]
    clear e3 e4 hr hC
    generalize downB T s0 X0 Y0 k = d at e1 e2 e5 ⊢
    have hdd := ord_eq (b := d) (by omega)
    obtain ⟨Zd, Vd, hLd⟩ := low_ex (fv d) (T : Int) (by rw [HT.out]; have := Nat.two_pow_pos z; omega)
    have lzd := low_fl HZ.out HT.out (by unfold fv; rw [am_sg]; exact amt_ln e2) hLd
    obtain ⟨lad, lbd⟩ := lzd
    have hcc := cmp_num HT.out hLd e5
    have hVp := hLd.pos
    have hcd : sgn (rn (ng Zd) (am Zd) Vd * ((rd Y0 : Nat) : Int) - rn s0 X0 Y0 * ((rd Vd : Nat) : Int)) = 0 := by rw [rn_nf hVp, rd_nf hVp]; exact hcc
    have HNd := hide' (fun w' => lnumber_is z T d Zd Vd w' HZ.out HT.out e1 e2 hLd)
    have HCd := hide' (fun w' p q k1 k2 k3 k4 => vqCmp_is (ng Zd) p (ln (am Zd)) (ln (am Zd)) (am Zd) q (ln Vd) (ln Vd) Vd s0 a0 n0 c0 X0 b0 m0 d0 Y0 (0) w' (Nat.le_refl _) (by omega) k1 (Nat.le_refl _) (by omega) k2 hc0 (by omega) k3 hd0 (by omega) k4 hcd)
    clear hcc hcd hVp hLd
    clear e1 e2 e5
    go_wp2_with fail
    replace hBW := hBW.drew
    first
      | go_region_held3 (fun w' => w'.cell? ⟨w.heap.size, 0, none⟩ = some (.bool s0) ∧ w'.cell? ⟨w.heap.size, 1, none⟩ = some (.slice a0 n0 c0) ∧ w'.cell? ⟨w.heap.size, 2, none⟩ = some (.slice b0 m0 d0) ∧ Below w.heap.size w w')
          (first | exact ⟨q00, q01, q02, hB.trans (hBW.mono hB.size)⟩ | exact kp3 b11 (by assumption) | exact kp3 b12 (by assumption) | exact kp3 (below_alloc _) (by assumption))
          (first
            | (go_at_call 21; (fail_if_success clear b11); refine (HNd.out _).mono ?_; rintro e w11 ⟨p11, q11, rfl, hp11, hq11⟩; have b11 := hp11.below; replace hp11 := hp11.back hBW; replace hq11 := hq11.back hBW; replace hBW := hBW.trans (b11.mono hBW.size); replace q00 := below_cell b11 q00; replace q01 := below_cell b11 q01; replace q02 := below_cell b11 q02)
            | (go_at_call 22; (fail_if_success clear b12); refine (HCd.out _ _ _ hp11.seg hq11.seg (sb hS0 hB hBW) (sb hT0 hB hBW)).mono ?_; rintro e w12 ⟨rfl, bb12⟩; have b12 := bb12; replace hBW := hBW.trans (b12.mono hBW.size); replace q00 := below_cell b12 q00; replace q01 := below_cell b12 q01; replace q02 := below_cell b12 q02; replace hp11 := hp11.later b12; replace hq11 := hq11.later b12))
      | fail
    go_wp2
    go_ret
    exact ⟨rfl, hB.trans (hBW.mono hB.size)⟩
  · obtain ⟨e1, e2, e3, e4, e5, e6, e7, e8, e9, e10, e11⟩ := beside_ne (s := s0) hC hr
    clear hr hC
    generalize downB T s0 X0 Y0 k = d at *
    generalize upB T s0 X0 Y0 k = u at *
    generalize nearB T s0 X0 Y0 k = n at *
    have hdd := ord_eq e3
    have huu := ord_eq e4
    have hdu := ord_lt e3 e4 e5
    have hud := ord_gt e4 e3 e5
    have HX := hide' (fun w' => next_any d w' e1)
    rw [e6, e7] at HX
    clear e6 e7
    by_cases hfd : d % SB < FI
    · by_cases hfu : u % SB < FI
      · skip
        have HFd := hide' (fun w' => lfinite_is d true w' e1 (decide_eq_true hfd))
        have HFu := hide' (fun w' => lfinite_is u true w' e2 (decide_eq_true hfu))
        obtain ⟨Zd, Vd, hLd⟩ := low_ex (fv d) (T : Int) (by rw [HT.out]; have := Nat.two_pow_pos z; omega)
        have lzd := low_fl HZ.out HT.out (by unfold fv; rw [am_sg]; exact amt_ln hfd) hLd
        obtain ⟨lad, lbd⟩ := lzd
        have hcc := cmp_num HT.out hLd (e9 hfd)
        have hVp := hLd.pos
        have hcd : sgn (rn (ng Zd) (am Zd) Vd * ((rd Y0 : Nat) : Int) - rn s0 X0 Y0 * ((rd Vd : Nat) : Int)) = -1 := by rw [rn_nf hVp, rd_nf hVp]; exact hcc
        have HNd := hide' (fun w' => lnumber_is z T d Zd Vd w' HZ.out HT.out e1 hfd hLd)
        have HCd := hide' (fun w' p q k1 k2 k3 k4 => vqCmp_is (ng Zd) p (ln (am Zd)) (ln (am Zd)) (am Zd) q (ln Vd) (ln Vd) Vd s0 a0 n0 c0 X0 b0 m0 d0 Y0 (-1) w' (Nat.le_refl _) (by omega) k1 (Nat.le_refl _) (by omega) k2 hc0 (by omega) k3 hd0 (by omega) k4 hcd)
        clear hcc hcd hVp hLd
        obtain ⟨Zu, Vu, hLu⟩ := low_ex (fv u) (T : Int) (by rw [HT.out]; have := Nat.two_pow_pos z; omega)
        have lzu := low_fl HZ.out HT.out (by unfold fv; rw [am_sg]; exact amt_ln hfu) hLu
        obtain ⟨lau, lbu⟩ := lzu
        have hcc := cmp_num HT.out hLu (e10 hfu)
        have hVp := hLu.pos
        have hcd : sgn (rn (ng Zu) (am Zu) Vu * ((rd Y0 : Nat) : Int) - rn s0 X0 Y0 * ((rd Vu : Nat) : Int)) = 1 := by rw [rn_nf hVp, rd_nf hVp]; exact hcc
        have HNu := hide' (fun w' => lnumber_is z T u Zu Vu w' HZ.out HT.out e2 hfu hLu)
        have HCu := hide' (fun w' p q k1 k2 k3 k4 => vqCmp_is (ng Zu) p (ln (am Zu)) (ln (am Zu)) (am Zu) q (ln Vu) (ln Vu) Vu s0 a0 n0 c0 X0 b0 m0 d0 Y0 (1) w' (Nat.le_refl _) (by omega) k1 (Nat.le_refl _) (by omega) k2 hc0 (by omega) k3 hd0 (by omega) k4 hcd)
        clear hcc hcd hVp hLu
        clear e1 e2 e3 e4 e5 e9 e10 e11 hfd hfu HZ HT
        rcases e8 with rfl | rfl
        · go_wp2_with fail
          refine (HX.out _).mono ?_
          rintro e w9 ⟨rfl, rfl⟩
          go_wp2_with fail
          replace hBW := hBW.drew
          first
            | go_region_held3 (fun w' => w'.cell? ⟨w.heap.size, 0, none⟩ = some (.bool s0) ∧ w'.cell? ⟨w.heap.size, 1, none⟩ = some (.slice a0 n0 c0) ∧ w'.cell? ⟨w.heap.size, 2, none⟩ = some (.slice b0 m0 d0) ∧ Below w.heap.size w w')
                (first | exact ⟨q00, q01, q02, hB.trans (hBW.mono hB.size)⟩ | exact kp3 b11 (by assumption) | exact kp3 b12 (by assumption) | exact kp3 b13 (by assumption) | exact kp3 (below_alloc _) (by assumption))
                (first
                  | (go_at_call 13; (fail_if_success clear b11); refine (HFd.out _).mono ?_; rintro e w11 ⟨rfl, bb11⟩; have b11 := bb11; replace hBW := hBW.trans (b11.mono hBW.size); replace q00 := below_cell b11 q00; replace q01 := below_cell b11 q01; replace q02 := below_cell b11 q02)
                  | (go_at_call 21; (fail_if_success clear b12); refine (HNd.out _).mono ?_; rintro e w12 ⟨p12, q12, rfl, hp12, hq12⟩; have b12 := hp12.below; replace hp12 := hp12.back hBW; replace hq12 := hq12.back hBW; replace hBW := hBW.trans (b12.mono hBW.size); replace q00 := below_cell b12 q00; replace q01 := below_cell b12 q01; replace q02 := below_cell b12 q02)
                  | (go_at_call 22; (fail_if_success clear b13); refine (HCd.out _ _ _ hp12.seg hq12.seg (sb hS0 hB hBW) (sb hT0 hB hBW)).mono ?_; rintro e w13 ⟨rfl, bb13⟩; have b13 := bb13; replace hBW := hBW.trans (b13.mono hBW.size); replace q00 := below_cell b13 q00; replace q01 := below_cell b13 q01; replace q02 := below_cell b13 q02; replace hp12 := hp12.later b13; replace hq12 := hq12.later b13))
            | fail
          go_wp2_with fail
          replace hBW := hBW.drew
          replace hp12 := hp12.drew
          replace hq12 := hq12.drew
          first
            | go_region_held3 (fun w' => w'.cell? ⟨w.heap.size, 0, none⟩ = some (.bool s0) ∧ w'.cell? ⟨w.heap.size, 1, none⟩ = some (.slice a0 n0 c0) ∧ w'.cell? ⟨w.heap.size, 2, none⟩ = some (.slice b0 m0 d0) ∧ Below w.heap.size w w')
                (first | exact ⟨q00, q01, q02, hB.trans (hBW.mono hB.size)⟩ | exact kp3 b21 (by assumption) | exact kp3 b22 (by assumption) | exact kp3 b23 (by assumption) | exact kp3 (below_alloc _) (by assumption))
                (first
                  | (go_at_call 13; (fail_if_success clear b21); refine (HFu.out _).mono ?_; rintro e w21 ⟨rfl, bb21⟩; have b21 := bb21; replace hBW := hBW.trans (b21.mono hBW.size); replace q00 := below_cell b21 q00; replace q01 := below_cell b21 q01; replace q02 := below_cell b21 q02; replace hp12 := hp12.later b21; replace hq12 := hq12.later b21)
                  | (go_at_call 21; (fail_if_success clear b22); refine (HNu.out _).mono ?_; rintro e w22 ⟨p22, q22, rfl, hp22, hq22⟩; have b22 := hp22.below; replace hp22 := hp22.back hBW; replace hq22 := hq22.back hBW; replace hBW := hBW.trans (b22.mono hBW.size); replace q00 := below_cell b22 q00; replace q01 := below_cell b22 q01; replace q02 := below_cell b22 q02; replace hp12 := hp12.later b22; replace hq12 := hq12.later b22)
                  | (go_at_call 22; (fail_if_success clear b23); refine (HCu.out _ _ _ hp22.seg hq22.seg (sb hS0 hB hBW) (sb hT0 hB hBW)).mono ?_; rintro e w23 ⟨rfl, bb23⟩; have b23 := bb23; replace hBW := hBW.trans (b23.mono hBW.size); replace q00 := below_cell b23 q00; replace q01 := below_cell b23 q01; replace q02 := below_cell b23 q02; replace hp12 := hp12.later b23; replace hq12 := hq12.later b23; replace hp22 := hp22.later b23; replace hq22 := hq22.later b23))
            | fail
          go_wp2
          go_ret
          exact ⟨rfl, hB.trans (hBW.mono hB.size)⟩
        · go_wp2_with fail
          refine (HX.out _).mono ?_
          rintro e w9 ⟨rfl, rfl⟩
          go_wp2_with fail
          replace hBW := hBW.drew
          first
            | go_region_held3 (fun w' => w'.cell? ⟨w.heap.size, 0, none⟩ = some (.bool s0) ∧ w'.cell? ⟨w.heap.size, 1, none⟩ = some (.slice a0 n0 c0) ∧ w'.cell? ⟨w.heap.size, 2, none⟩ = some (.slice b0 m0 d0) ∧ Below w.heap.size w w')
                (first | exact ⟨q00, q01, q02, hB.trans (hBW.mono hB.size)⟩ | exact kp3 b11 (by assumption) | exact kp3 b12 (by assumption) | exact kp3 b13 (by assumption) | exact kp3 (below_alloc _) (by assumption))
                (first
                  | (go_at_call 13; (fail_if_success clear b11); refine (HFd.out _).mono ?_; rintro e w11 ⟨rfl, bb11⟩; have b11 := bb11; replace hBW := hBW.trans (b11.mono hBW.size); replace q00 := below_cell b11 q00; replace q01 := below_cell b11 q01; replace q02 := below_cell b11 q02)
                  | (go_at_call 21; (fail_if_success clear b12); refine (HNd.out _).mono ?_; rintro e w12 ⟨p12, q12, rfl, hp12, hq12⟩; have b12 := hp12.below; replace hp12 := hp12.back hBW; replace hq12 := hq12.back hBW; replace hBW := hBW.trans (b12.mono hBW.size); replace q00 := below_cell b12 q00; replace q01 := below_cell b12 q01; replace q02 := below_cell b12 q02)
                  | (go_at_call 22; (fail_if_success clear b13); refine (HCd.out _ _ _ hp12.seg hq12.seg (sb hS0 hB hBW) (sb hT0 hB hBW)).mono ?_; rintro e w13 ⟨rfl, bb13⟩; have b13 := bb13; replace hBW := hBW.trans (b13.mono hBW.size); replace q00 := below_cell b13 q00; replace q01 := below_cell b13 q01; replace q02 := below_cell b13 q02; replace hp12 := hp12.later b13; replace hq12 := hq12.later b13))
            | fail
          go_wp2_with fail
          replace hBW := hBW.drew
          replace hp12 := hp12.drew
          replace hq12 := hq12.drew
          first
            | go_region_held3 (fun w' => w'.cell? ⟨w.heap.size, 0, none⟩ = some (.bool s0) ∧ w'.cell? ⟨w.heap.size, 1, none⟩ = some (.slice a0 n0 c0) ∧ w'.cell? ⟨w.heap.size, 2, none⟩ = some (.slice b0 m0 d0) ∧ Below w.heap.size w w')
                (first | exact ⟨q00, q01, q02, hB.trans (hBW.mono hB.size)⟩ | exact kp3 b21 (by assumption) | exact kp3 b22 (by assumption) | exact kp3 b23 (by assumption) | exact kp3 (below_alloc _) (by assumption))
                (first
                  | (go_at_call 13; (fail_if_success clear b21); refine (HFu.out _).mono ?_; rintro e w21 ⟨rfl, bb21⟩; have b21 := bb21; replace hBW := hBW.trans (b21.mono hBW.size); replace q00 := below_cell b21 q00; replace q01 := below_cell b21 q01; replace q02 := below_cell b21 q02; replace hp12 := hp12.later b21; replace hq12 := hq12.later b21)
                  | (go_at_call 21; (fail_if_success clear b22); refine (HNu.out _).mono ?_; rintro e w22 ⟨p22, q22, rfl, hp22, hq22⟩; have b22 := hp22.below; replace hp22 := hp22.back hBW; replace hq22 := hq22.back hBW; replace hBW := hBW.trans (b22.mono hBW.size); replace q00 := below_cell b22 q00; replace q01 := below_cell b22 q01; replace q02 := below_cell b22 q02; replace hp12 := hp12.later b22; replace hq12 := hq12.later b22)
                  | (go_at_call 22; (fail_if_success clear b23); refine (HCu.out _ _ _ hp22.seg hq22.seg (sb hS0 hB hBW) (sb hT0 hB hBW)).mono ?_; rintro e w23 ⟨rfl, bb23⟩; have b23 := bb23; replace hBW := hBW.trans (b23.mono hBW.size); replace q00 := below_cell b23 q00; replace q01 := below_cell b23 q01; replace q02 := below_cell b23 q02; replace hp12 := hp12.later b23; replace hq12 := hq12.later b23; replace hp22 := hp22.later b23; replace hq22 := hq22.later b23))
            | fail
          go_wp2
          go_ret
          exact ⟨rfl, hB.trans (hBW.mono hB.size)⟩
      · skip
        have HFd := hide' (fun w' => lfinite_is d true w' e1 (decide_eq_true hfd))
        have HFu := hide' (fun w' => lfinite_is u false w' e2 (decide_eq_false hfu))
        obtain ⟨Zd, Vd, hLd⟩ := low_ex (fv d) (T : Int) (by rw [HT.out]; have := Nat.two_pow_pos z; omega)
        have lzd := low_fl HZ.out HT.out (by unfold fv; rw [am_sg]; exact amt_ln hfd) hLd
        obtain ⟨lad, lbd⟩ := lzd
        have hcc := cmp_num HT.out hLd (e9 hfd)
        have hVp := hLd.pos
        have hcd : sgn (rn (ng Zd) (am Zd) Vd * ((rd Y0 : Nat) : Int) - rn s0 X0 Y0 * ((rd Vd : Nat) : Int)) = -1 := by rw [rn_nf hVp, rd_nf hVp]; exact hcc
        have HNd := hide' (fun w' => lnumber_is z T d Zd Vd w' HZ.out HT.out e1 hfd hLd)
        have HCd := hide' (fun w' p q k1 k2 k3 k4 => vqCmp_is (ng Zd) p (ln (am Zd)) (ln (am Zd)) (am Zd) q (ln Vd) (ln Vd) Vd s0 a0 n0 c0 X0 b0 m0 d0 Y0 (-1) w' (Nat.le_refl _) (by omega) k1 (Nat.le_refl _) (by omega) k2 hc0 (by omega) k3 hd0 (by omega) k4 hcd)
        clear hcc hcd hVp hLd
        clear e1 e2 e3 e4 e5 e9 e10 e11 hfd hfu HZ HT
        rcases e8 with rfl | rfl
        · go_wp2_with fail
          refine (HX.out _).mono ?_
          rintro e w9 ⟨rfl, rfl⟩
          go_wp2_with fail
          replace hBW := hBW.drew
          first
            | go_region_held3 (fun w' => w'.cell? ⟨w.heap.size, 0, none⟩ = some (.bool s0) ∧ w'.cell? ⟨w.heap.size, 1, none⟩ = some (.slice a0 n0 c0) ∧ w'.cell? ⟨w.heap.size, 2, none⟩ = some (.slice b0 m0 d0) ∧ Below w.heap.size w w')
                (first | exact ⟨q00, q01, q02, hB.trans (hBW.mono hB.size)⟩ | exact kp3 b11 (by assumption) | exact kp3 b12 (by assumption) | exact kp3 b13 (by assumption) | exact kp3 (below_alloc _) (by assumption))
                (first
                  | (go_at_call 13; (fail_if_success clear b11); refine (HFd.out _).mono ?_; rintro e w11 ⟨rfl, bb11⟩; have b11 := bb11; replace hBW := hBW.trans (b11.mono hBW.size); replace q00 := below_cell b11 q00; replace q01 := below_cell b11 q01; replace q02 := below_cell b11 q02)
                  | (go_at_call 21; (fail_if_success clear b12); refine (HNd.out _).mono ?_; rintro e w12 ⟨p12, q12, rfl, hp12, hq12⟩; have b12 := hp12.below; replace hp12 := hp12.back hBW; replace hq12 := hq12.back hBW; replace hBW := hBW.trans (b12.mono hBW.size); replace q00 := below_cell b12 q00; replace q01 := below_cell b12 q01; replace q02 := below_cell b12 q02)
                  | (go_at_call 22; (fail_if_success clear b13); refine (HCd.out _ _ _ hp12.seg hq12.seg (sb hS0 hB hBW) (sb hT0 hB hBW)).mono ?_; rintro e w13 ⟨rfl, bb13⟩; have b13 := bb13; replace hBW := hBW.trans (b13.mono hBW.size); replace q00 := below_cell b13 q00; replace q01 := below_cell b13 q01; replace q02 := below_cell b13 q02; replace hp12 := hp12.later b13; replace hq12 := hq12.later b13))
            | fail
          go_wp2_with fail
          replace hBW := hBW.drew
          replace hp12 := hp12.drew
          replace hq12 := hq12.drew
          refine wp_region_held_drew (S := (fun w' => w'.cell? ⟨w.heap.size, 0, none⟩ = some (.bool s0) ∧ w'.cell? ⟨w.heap.size, 1, none⟩ = some (.slice a0 n0 c0) ∧ w'.cell? ⟨w.heap.size, 2, none⟩ = some (.slice b0 m0 d0) ∧ Below w.heap.size w w')) (by kernel_rfl) ⟨q00, q01, q02, hB.trans (hBW.mono hB.size)⟩ (fun hHeld => ?_)
          refine take' 0 (v := ?_) rfl (by kernel_rfl) (by kernel_rfl) (by kernel_rfl) (fun _ _ _ h => h) (Or.inl ⟨by rfl, ?_⟩) (by assumption) ?_
          rotate_left
          · intro w9 hSw
            go_simp
            first | done | with_reducible rfl
          simp only [Act.put, List.setIfInBounds_toArray, List.set_cons_zero, List.set_cons_succ]
          refine wpAnyH_ready (rs := [1]) (by kernel_rfl) (by simp) ?_
          refine cons' rfl (fun K hK => ?_)
          go_simp
          refine (HFu.out _).mono ?_
          rintro e w21 ⟨rfl, b21⟩
          go_wp2_with fail
          refine hK.out _ _ (kp3 b21 hHeld) ?_
          clear hHeld
          intro hHeld
          clear hK K
          replace hBW := hBW.trans (b21.mono hBW.size)
          replace q00 := below_cell b21 q00
          replace q01 := below_cell b21 q01
          replace q02 := below_cell b21 q02
          replace hp12 := hp12.later b21
          replace hq12 := hq12.later b21
          refine take' 2 (v := ?_) rfl (by kernel_rfl) (by kernel_rfl) (by kernel_rfl) (fun _ _ _ h => h) (Or.inl ⟨by rfl, ?_⟩) (by assumption) ?_
          rotate_left
          · intro w9 hSw
            go_simp
            first | done | with_reducible rfl
          simp only [Act.put, List.setIfInBounds_toArray, List.set_cons_zero, List.set_cons_succ]
          refine take' 3 (v := ?_) rfl (by kernel_rfl) (by kernel_rfl) (by kernel_rfl) (fun _ _ _ h => h) (Or.inl ⟨by rfl, ?_⟩) (by assumption) ?_
          rotate_left
          · intro w9 hSw
            go_simp
            first | done | with_reducible rfl
          simp only [Act.put, List.setIfInBounds_toArray, List.set_cons_zero, List.set_cons_succ]
          refine take' 4 (v := undef) rfl (by kernel_rfl) (by kernel_rfl) (by kernel_rfl) (fun _ _ _ h => h) (Or.inr ⟨by rfl, rfl⟩) (by assumption) ?_
          simp only [Act.put, List.setIfInBounds_toArray, List.set_cons_zero, List.set_cons_succ]
          refine take' 5 (v := undef) rfl (by kernel_rfl) (by kernel_rfl) (by kernel_rfl) (fun _ _ _ h => h) (Or.inr ⟨by rfl, rfl⟩) (by assumption) ?_
          simp only [Act.put, List.setIfInBounds_toArray, List.set_cons_zero, List.set_cons_succ]
          refine take' 6 (v := undef) rfl (by kernel_rfl) (by kernel_rfl) (by kernel_rfl) (fun _ _ _ h => h) (Or.inr ⟨by rfl, rfl⟩) (by assumption) ?_
          simp only [Act.put, List.setIfInBounds_toArray, List.set_cons_zero, List.set_cons_succ]
          refine take' 7 (v := undef) rfl (by kernel_rfl) (by kernel_rfl) (by kernel_rfl) (fun _ _ _ h => h) (Or.inr ⟨by rfl, rfl⟩) (by assumption) ?_
          simp only [Act.put, List.setIfInBounds_toArray, List.set_cons_zero, List.set_cons_succ]
          refine take' 8 (v := undef) rfl (by kernel_rfl) (by kernel_rfl) (by kernel_rfl) (fun _ _ _ h => h) (Or.inr ⟨by rfl, rfl⟩) (by assumption) ?_
          simp only [Act.put, List.setIfInBounds_toArray, List.set_cons_zero, List.set_cons_succ]
          refine take' 9 (v := ?_) rfl (by kernel_rfl) (by kernel_rfl) (by kernel_rfl) (fun _ _ _ h => h) (Or.inl ⟨by rfl, ?_⟩) (by assumption) ?_
          rotate_left
          · intro w9 hSw
            go_simp
            first | done | with_reducible rfl
          simp only [Act.put, List.setIfInBounds_toArray, List.set_cons_zero, List.set_cons_succ]
          refine take' 10 (v := ?_) rfl (by kernel_rfl) (by kernel_rfl) (by kernel_rfl) (fun _ _ _ h => h) (Or.inl ⟨by rfl, ?_⟩) (by assumption) ?_
          rotate_left
          · intro w9 hSw
            go_simp
            first | done | with_reducible rfl
          simp only [Act.put, List.setIfInBounds_toArray, List.set_cons_zero, List.set_cons_succ]
          refine wpAnyH_done (by kernel_rfl) ?_ _
          go_wp2
          go_ret
          exact ⟨rfl, hB.trans (hBW.mono hB.size)⟩
        · go_wp2_with fail
          refine (HX.out _).mono ?_
          rintro e w9 ⟨rfl, rfl⟩
          go_wp2_with fail
          replace hBW := hBW.drew
          first
            | go_region_held3 (fun w' => w'.cell? ⟨w.heap.size, 0, none⟩ = some (.bool s0) ∧ w'.cell? ⟨w.heap.size, 1, none⟩ = some (.slice a0 n0 c0) ∧ w'.cell? ⟨w.heap.size, 2, none⟩ = some (.slice b0 m0 d0) ∧ Below w.heap.size w w')
                (first | exact ⟨q00, q01, q02, hB.trans (hBW.mono hB.size)⟩ | exact kp3 b11 (by assumption) | exact kp3 b12 (by assumption) | exact kp3 b13 (by assumption) | exact kp3 (below_alloc _) (by assumption))
                (first
                  | (go_at_call 13; (fail_if_success clear b11); refine (HFd.out _).mono ?_; rintro e w11 ⟨rfl, bb11⟩; have b11 := bb11; replace hBW := hBW.trans (b11.mono hBW.size); replace q00 := below_cell b11 q00; replace q01 := below_cell b11 q01; replace q02 := below_cell b11 q02)
                  | (go_at_call 21; (fail_if_success clear b12); refine (HNd.out _).mono ?_; rintro e w12 ⟨p12, q12, rfl, hp12, hq12⟩; have b12 := hp12.below; replace hp12 := hp12.back hBW; replace hq12 := hq12.back hBW; replace hBW := hBW.trans (b12.mono hBW.size); replace q00 := below_cell b12 q00; replace q01 := below_cell b12 q01; replace q02 := below_cell b12 q02)
                  | (go_at_call 22; (fail_if_success clear b13); refine (HCd.out _ _ _ hp12.seg hq12.seg (sb hS0 hB hBW) (sb hT0 hB hBW)).mono ?_; rintro e w13 ⟨rfl, bb13⟩; have b13 := bb13; replace hBW := hBW.trans (b13.mono hBW.size); replace q00 := below_cell b13 q00; replace q01 := below_cell b13 q01; replace q02 := below_cell b13 q02; replace hp12 := hp12.later b13; replace hq12 := hq12.later b13))
            | fail
          go_wp2_with fail
          replace hBW := hBW.drew
          replace hp12 := hp12.drew
          replace hq12 := hq12.drew
          refine wp_region_held_drew (S := (fun w' => w'.cell? ⟨w.heap.size, 0, none⟩ = some (.bool s0) ∧ w'.cell? ⟨w.heap.size, 1, none⟩ = some (.slice a0 n0 c0) ∧ w'.cell? ⟨w.heap.size, 2, none⟩ = some (.slice b0 m0 d0) ∧ Below w.heap.size w w')) (by kernel_rfl) ⟨q00, q01, q02, hB.trans (hBW.mono hB.size)⟩ (fun hHeld => ?_)
          refine take' 0 (v := ?_) rfl (by kernel_rfl) (by kernel_rfl) (by kernel_rfl) (fun _ _ _ h => h) (Or.inl ⟨by rfl, ?_⟩) (by assumption) ?_
          rotate_left
          · intro w9 hSw
            go_simp
            first | done | with_reducible rfl
          simp only [Act.put, List.setIfInBounds_toArray, List.set_cons_zero, List.set_cons_succ]
          refine wpAnyH_ready (rs := [1]) (by kernel_rfl) (by simp) ?_
          refine cons' rfl (fun K hK => ?_)
          go_simp
          refine (HFu.out _).mono ?_
          rintro e w21 ⟨rfl, b21⟩
          go_wp2_with fail
          refine hK.out _ _ (kp3 b21 hHeld) ?_
          clear hHeld
          intro hHeld
          clear hK K
          replace hBW := hBW.trans (b21.mono hBW.size)
          replace q00 := below_cell b21 q00
          replace q01 := below_cell b21 q01
          replace q02 := below_cell b21 q02
          replace hp12 := hp12.later b21
          replace hq12 := hq12.later b21
          refine take' 2 (v := ?_) rfl (by kernel_rfl) (by kernel_rfl) (by kernel_rfl) (fun _ _ _ h => h) (Or.inl ⟨by rfl, ?_⟩) (by assumption) ?_
          rotate_left
          · intro w9 hSw
            go_simp
            first | done | with_reducible rfl
          simp only [Act.put, List.setIfInBounds_toArray, List.set_cons_zero, List.set_cons_succ]
          refine take' 3 (v := ?_) rfl (by kernel_rfl) (by kernel_rfl) (by kernel_rfl) (fun _ _ _ h => h) (Or.inl ⟨by rfl, ?_⟩) (by assumption) ?_
          rotate_left
          · intro w9 hSw
            go_simp
            first | done | with_reducible rfl
          simp only [Act.put, List.setIfInBounds_toArray, List.set_cons_zero, List.set_cons_succ]
          refine take' 4 (v := undef) rfl (by kernel_rfl) (by kernel_rfl) (by kernel_rfl) (fun _ _ _ h => h) (Or.inr ⟨by rfl, rfl⟩) (by assumption) ?_
          simp only [Act.put, List.setIfInBounds_toArray, List.set_cons_zero, List.set_cons_succ]
          refine take' 5 (v := undef) rfl (by kernel_rfl) (by kernel_rfl) (by kernel_rfl) (fun _ _ _ h => h) (Or.inr ⟨by rfl, rfl⟩) (by assumption) ?_
          simp only [Act.put, List.setIfInBounds_toArray, List.set_cons_zero, List.set_cons_succ]
          refine take' 6 (v := undef) rfl (by kernel_rfl) (by kernel_rfl) (by kernel_rfl) (fun _ _ _ h => h) (Or.inr ⟨by rfl, rfl⟩) (by assumption) ?_
          simp only [Act.put, List.setIfInBounds_toArray, List.set_cons_zero, List.set_cons_succ]
          refine take' 7 (v := undef) rfl (by kernel_rfl) (by kernel_rfl) (by kernel_rfl) (fun _ _ _ h => h) (Or.inr ⟨by rfl, rfl⟩) (by assumption) ?_
          simp only [Act.put, List.setIfInBounds_toArray, List.set_cons_zero, List.set_cons_succ]
          refine take' 8 (v := undef) rfl (by kernel_rfl) (by kernel_rfl) (by kernel_rfl) (fun _ _ _ h => h) (Or.inr ⟨by rfl, rfl⟩) (by assumption) ?_
          simp only [Act.put, List.setIfInBounds_toArray, List.set_cons_zero, List.set_cons_succ]
          refine take' 9 (v := ?_) rfl (by kernel_rfl) (by kernel_rfl) (by kernel_rfl) (fun _ _ _ h => h) (Or.inl ⟨by rfl, ?_⟩) (by assumption) ?_
          rotate_left
          · intro w9 hSw
            go_simp
            first | done | with_reducible rfl
          simp only [Act.put, List.setIfInBounds_toArray, List.set_cons_zero, List.set_cons_succ]
          refine take' 10 (v := ?_) rfl (by kernel_rfl) (by kernel_rfl) (by kernel_rfl) (fun _ _ _ h => h) (Or.inl ⟨by rfl, ?_⟩) (by assumption) ?_
          rotate_left
          · intro w9 hSw
            go_simp
            first | done | with_reducible rfl
          simp only [Act.put, List.setIfInBounds_toArray, List.set_cons_zero, List.set_cons_succ]
          refine wpAnyH_done (by kernel_rfl) ?_ _
          go_wp2
          go_ret
          exact ⟨rfl, hB.trans (hBW.mono hB.size)⟩
    · have hfu : u % SB < FI := e11.resolve_left hfd
      have HFd := hide' (fun w' => lfinite_is d false w' e1 (decide_eq_false hfd))
      have HFu := hide' (fun w' => lfinite_is u true w' e2 (decide_eq_true hfu))
      obtain ⟨Zu, Vu, hLu⟩ := low_ex (fv u) (T : Int) (by rw [HT.out]; have := Nat.two_pow_pos z; omega)
      have lzu := low_fl HZ.out HT.out (by unfold fv; rw [am_sg]; exact amt_ln hfu) hLu
      obtain ⟨lau, lbu⟩ := lzu
      have hcc := cmp_num HT.out hLu (e10 hfu)
      have hVp := hLu.pos
      have hcd : sgn (rn (ng Zu) (am Zu) Vu * ((rd Y0 : Nat) : Int) - rn s0 X0 Y0 * ((rd Vu : Nat) : Int)) = 1 := by rw [rn_nf hVp, rd_nf hVp]; exact hcc
      have HNu := hide' (fun w' => lnumber_is z T u Zu Vu w' HZ.out HT.out e2 hfu hLu)
      have HCu := hide' (fun w' p q k1 k2 k3 k4 => vqCmp_is (ng Zu) p (ln (am Zu)) (ln (am Zu)) (am Zu) q (ln Vu) (ln Vu) Vu s0 a0 n0 c0 X0 b0 m0 d0 Y0 (1) w' (Nat.le_refl _) (by omega) k1 (Nat.le_refl _) (by omega) k2 hc0 (by omega) k3 hd0 (by omega) k4 hcd)
      clear hcc hcd hVp hLu
      clear e1 e2 e3 e4 e5 e9 e10 e11 hfd hfu HZ HT
      rcases e8 with rfl | rfl
      · go_wp2_with fail
        refine (HX.out _).mono ?_
        rintro e w9 ⟨rfl, rfl⟩
        go_wp2_with fail
        replace hBW := hBW.drew
        refine wp_region_held_drew (S := (fun w' => w'.cell? ⟨w.heap.size, 0, none⟩ = some (.bool s0) ∧ w'.cell? ⟨w.heap.size, 1, none⟩ = some (.slice a0 n0 c0) ∧ w'.cell? ⟨w.heap.size, 2, none⟩ = some (.slice b0 m0 d0) ∧ Below w.heap.size w w')) (by kernel_rfl) ⟨q00, q01, q02, hB.trans (hBW.mono hB.size)⟩ (fun hHeld => ?_)
        refine take' 0 (v := ?_) rfl (by kernel_rfl) (by kernel_rfl) (by kernel_rfl) (fun _ _ _ h => h) (Or.inl ⟨by rfl, ?_⟩) (by assumption) ?_
        rotate_left
        · intro w9 hSw
          go_simp
          first | done | with_reducible rfl
        simp only [Act.put, List.setIfInBounds_toArray, List.set_cons_zero, List.set_cons_succ]
        refine wpAnyH_ready (rs := [1]) (by kernel_rfl) (by simp) ?_
        refine cons' rfl (fun K hK => ?_)
        go_simp
        refine (HFd.out _).mono ?_
        rintro e w11 ⟨rfl, b11⟩
        go_wp2_with fail
        refine hK.out _ _ (kp3 b11 hHeld) ?_
        clear hHeld
        intro hHeld
        clear hK K
        replace hBW := hBW.trans (b11.mono hBW.size)
        replace q00 := below_cell b11 q00
        replace q01 := below_cell b11 q01
        replace q02 := below_cell b11 q02
        refine take' 2 (v := ?_) rfl (by kernel_rfl) (by kernel_rfl) (by kernel_rfl) (fun _ _ _ h => h) (Or.inl ⟨by rfl, ?_⟩) (by assumption) ?_
        rotate_left
        · intro w9 hSw
          go_simp
          first | done | with_reducible rfl
        simp only [Act.put, List.setIfInBounds_toArray, List.set_cons_zero, List.set_cons_succ]
        refine take' 3 (v := undef) rfl (by kernel_rfl) (by kernel_rfl) (by kernel_rfl) (fun _ _ _ h => h) (Or.inr ⟨by rfl, rfl⟩) (by assumption) ?_
        simp only [Act.put, List.setIfInBounds_toArray, List.set_cons_zero, List.set_cons_succ]
        refine take' 4 (v := undef) rfl (by kernel_rfl) (by kernel_rfl) (by kernel_rfl) (fun _ _ _ h => h) (Or.inr ⟨by rfl, rfl⟩) (by assumption) ?_
        simp only [Act.put, List.setIfInBounds_toArray, List.set_cons_zero, List.set_cons_succ]
        refine take' 5 (v := undef) rfl (by kernel_rfl) (by kernel_rfl) (by kernel_rfl) (fun _ _ _ h => h) (Or.inr ⟨by rfl, rfl⟩) (by assumption) ?_
        simp only [Act.put, List.setIfInBounds_toArray, List.set_cons_zero, List.set_cons_succ]
        refine take' 6 (v := undef) rfl (by kernel_rfl) (by kernel_rfl) (by kernel_rfl) (fun _ _ _ h => h) (Or.inr ⟨by rfl, rfl⟩) (by assumption) ?_
        simp only [Act.put, List.setIfInBounds_toArray, List.set_cons_zero, List.set_cons_succ]
        refine take' 7 (v := undef) rfl (by kernel_rfl) (by kernel_rfl) (by kernel_rfl) (fun _ _ _ h => h) (Or.inr ⟨by rfl, rfl⟩) (by assumption) ?_
        simp only [Act.put, List.setIfInBounds_toArray, List.set_cons_zero, List.set_cons_succ]
        refine take' 8 (v := ?_) rfl (by kernel_rfl) (by kernel_rfl) (by kernel_rfl) (fun _ _ _ h => h) (Or.inl ⟨by rfl, ?_⟩) (by assumption) ?_
        rotate_left
        · intro w9 hSw
          go_simp
          first | done | with_reducible rfl
        simp only [Act.put, List.setIfInBounds_toArray, List.set_cons_zero, List.set_cons_succ]
        refine wpAnyH_done (by kernel_rfl) ?_ _
        go_wp2_with fail
        replace hBW := hBW.drew
        first
          | go_region_held3 (fun w' => w'.cell? ⟨w.heap.size, 0, none⟩ = some (.bool s0) ∧ w'.cell? ⟨w.heap.size, 1, none⟩ = some (.slice a0 n0 c0) ∧ w'.cell? ⟨w.heap.size, 2, none⟩ = some (.slice b0 m0 d0) ∧ Below w.heap.size w w')
              (first | exact ⟨q00, q01, q02, hB.trans (hBW.mono hB.size)⟩ | exact kp3 b21 (by assumption) | exact kp3 b22 (by assumption) | exact kp3 b23 (by assumption) | exact kp3 (below_alloc _) (by assumption))
              (first
                | (go_at_call 13; (fail_if_success clear b21); refine (HFu.out _).mono ?_; rintro e w21 ⟨rfl, bb21⟩; have b21 := bb21; replace hBW := hBW.trans (b21.mono hBW.size); replace q00 := below_cell b21 q00; replace q01 := below_cell b21 q01; replace q02 := below_cell b21 q02)
                | (go_at_call 21; (fail_if_success clear b22); refine (HNu.out _).mono ?_; rintro e w22 ⟨p22, q22, rfl, hp22, hq22⟩; have b22 := hp22.below; replace hp22 := hp22.back hBW; replace hq22 := hq22.back hBW; replace hBW := hBW.trans (b22.mono hBW.size); replace q00 := below_cell b22 q00; replace q01 := below_cell b22 q01; replace q02 := below_cell b22 q02)
                | (go_at_call 22; (fail_if_success clear b23); refine (HCu.out _ _ _ hp22.seg hq22.seg (sb hS0 hB hBW) (sb hT0 hB hBW)).mono ?_; rintro e w23 ⟨rfl, bb23⟩; have b23 := bb23; replace hBW := hBW.trans (b23.mono hBW.size); replace q00 := below_cell b23 q00; replace q01 := below_cell b23 q01; replace q02 := below_cell b23 q02; replace hp22 := hp22.later b23; replace hq22 := hq22.later b23))
          | fail
        go_wp2
        go_ret
        exact ⟨rfl, hB.trans (hBW.mono hB.size)⟩
      · go_wp2_with fail
        refine (HX.out _).mono ?_
        rintro e w9 ⟨rfl, rfl⟩
        go_wp2_with fail
        replace hBW := hBW.drew
        refine wp_region_held_drew (S := (fun w' => w'.cell? ⟨w.heap.size, 0, none⟩ = some (.bool s0) ∧ w'.cell? ⟨w.heap.size, 1, none⟩ = some (.slice a0 n0 c0) ∧ w'.cell? ⟨w.heap.size, 2, none⟩ = some (.slice b0 m0 d0) ∧ Below w.heap.size w w')) (by kernel_rfl) ⟨q00, q01, q02, hB.trans (hBW.mono hB.size)⟩ (fun hHeld => ?_)
        refine take' 0 (v := ?_) rfl (by kernel_rfl) (by kernel_rfl) (by kernel_rfl) (fun _ _ _ h => h) (Or.inl ⟨by rfl, ?_⟩) (by assumption) ?_
        rotate_left
        · intro w9 hSw
          go_simp
          first | done | with_reducible rfl
        simp only [Act.put, List.setIfInBounds_toArray, List.set_cons_zero, List.set_cons_succ]
        refine wpAnyH_ready (rs := [1]) (by kernel_rfl) (by simp) ?_
        refine cons' rfl (fun K hK => ?_)
        go_simp
        refine (HFd.out _).mono ?_
        rintro e w11 ⟨rfl, b11⟩
        go_wp2_with fail
        refine hK.out _ _ (kp3 b11 hHeld) ?_
        clear hHeld
        intro hHeld
        clear hK K
        replace hBW := hBW.trans (b11.mono hBW.size)
        replace q00 := below_cell b11 q00
        replace q01 := below_cell b11 q01
        replace q02 := below_cell b11 q02
        refine take' 2 (v := ?_) rfl (by kernel_rfl) (by kernel_rfl) (by kernel_rfl) (fun _ _ _ h => h) (Or.inl ⟨by rfl, ?_⟩) (by assumption) ?_
        rotate_left
        · intro w9 hSw
          go_simp
          first | done | with_reducible rfl
        simp only [Act.put, List.setIfInBounds_toArray, List.set_cons_zero, List.set_cons_succ]
        refine take' 3 (v := undef) rfl (by kernel_rfl) (by kernel_rfl) (by kernel_rfl) (fun _ _ _ h => h) (Or.inr ⟨by rfl, rfl⟩) (by assumption) ?_
        simp only [Act.put, List.setIfInBounds_toArray, List.set_cons_zero, List.set_cons_succ]
        refine take' 4 (v := undef) rfl (by kernel_rfl) (by kernel_rfl) (by kernel_rfl) (fun _ _ _ h => h) (Or.inr ⟨by rfl, rfl⟩) (by assumption) ?_
        simp only [Act.put, List.setIfInBounds_toArray, List.set_cons_zero, List.set_cons_succ]
        refine take' 5 (v := undef) rfl (by kernel_rfl) (by kernel_rfl) (by kernel_rfl) (fun _ _ _ h => h) (Or.inr ⟨by rfl, rfl⟩) (by assumption) ?_
        simp only [Act.put, List.setIfInBounds_toArray, List.set_cons_zero, List.set_cons_succ]
        refine take' 6 (v := undef) rfl (by kernel_rfl) (by kernel_rfl) (by kernel_rfl) (fun _ _ _ h => h) (Or.inr ⟨by rfl, rfl⟩) (by assumption) ?_
        simp only [Act.put, List.setIfInBounds_toArray, List.set_cons_zero, List.set_cons_succ]
        refine take' 7 (v := undef) rfl (by kernel_rfl) (by kernel_rfl) (by kernel_rfl) (fun _ _ _ h => h) (Or.inr ⟨by rfl, rfl⟩) (by assumption) ?_
        simp only [Act.put, List.setIfInBounds_toArray, List.set_cons_zero, List.set_cons_succ]
        refine take' 8 (v := ?_) rfl (by kernel_rfl) (by kernel_rfl) (by kernel_rfl) (fun _ _ _ h => h) (Or.inl ⟨by rfl, ?_⟩) (by assumption) ?_
        rotate_left
        · intro w9 hSw
          go_simp
          first | done | with_reducible rfl
        simp only [Act.put, List.setIfInBounds_toArray, List.set_cons_zero, List.set_cons_succ]
        refine wpAnyH_done (by kernel_rfl) ?_ _
        go_wp2_with fail
        replace hBW := hBW.drew
        first
          | go_region_held3 (fun w' => w'.cell? ⟨w.heap.size, 0, none⟩ = some (.bool s0) ∧ w'.cell? ⟨w.heap.size, 1, none⟩ = some (.slice a0 n0 c0) ∧ w'.cell? ⟨w.heap.size, 2, none⟩ = some (.slice b0 m0 d0) ∧ Below w.heap.size w w')
              (first | exact ⟨q00, q01, q02, hB.trans (hBW.mono hB.size)⟩ | exact kp3 b21 (by assumption) | exact kp3 b22 (by assumption) | exact kp3 b23 (by assumption) | exact kp3 (below_alloc _) (by assumption))
              (first
                | (go_at_call 13; (fail_if_success clear b21); refine (HFu.out _).mono ?_; rintro e w21 ⟨rfl, bb21⟩; have b21 := bb21; replace hBW := hBW.trans (b21.mono hBW.size); replace q00 := below_cell b21 q00; replace q01 := below_cell b21 q01; replace q02 := below_cell b21 q02)
                | (go_at_call 21; (fail_if_success clear b22); refine (HNu.out _).mono ?_; rintro e w22 ⟨p22, q22, rfl, hp22, hq22⟩; have b22 := hp22.below; replace hp22 := hp22.back hBW; replace hq22 := hq22.back hBW; replace hBW := hBW.trans (b22.mono hBW.size); replace q00 := below_cell b22 q00; replace q01 := below_cell b22 q01; replace q02 := below_cell b22 q02)
                | (go_at_call 22; (fail_if_success clear b23); refine (HCu.out _ _ _ hp22.seg hq22.seg (sb hS0 hB hBW) (sb hT0 hB hBW)).mono ?_; rintro e w23 ⟨rfl, bb23⟩; have b23 := bb23; replace hBW := hBW.trans (b23.mono hBW.size); replace q00 := below_cell b23 q00; replace q01 := below_cell b23 q01; replace q02 := below_cell b23 q02; replace hp22 := hp22.later b23; replace hq22 := hq22.later b23))
          | fail
        go_wp2
        go_ret
        exact ⟨rfl, hB.trans (hBW.mono hB.size)⟩

set_option maxRecDepth 100000 in
theorem contract (H : Type) (enc : TypeId × Value → H) (W : World) (base : Nat) (args : Array Value) (ds gs : List (DataW H)) (before : List MemPlace)
    (hval : ∀ (j : Nat) t v, Try.f5.params[j]? = some t → args[j]? = some v → Value.okWide Try.prog W .any base t v)
    (hW : DataW.Whole enc Try.prog Try.f5.params.toList Rows.approxBesideSpec.vars false W args.toList ds gs before)
    (hsz : (DataW.weightsEach Try.prog (Try.f5.params.toList ++ Rows.approxBesideSpec.plain.varTypes Try.prog) (ds ++ gs)).all (· ≤ reachBytes) = true) :
    Calls Try.prog 5 args W fun e W' => ∃ v, e = .returned v ∧ Rows.approxBesideSpec.post enc Try.prog Try.f5 false true false false W args v W' := by
  have hW' := hW
  obtain ⟨p, q, hA0, hV, rfl, hfz, hnd⟩ := hW
  have hA : DataW.TrodAll enc Try.prog W 0 (fun _ => true) true Try.f5.params.toList args.toList ds p := hA0
  rw [Try.params5] at hA hval hsz
  obtain ⟨v0, vs0, d0, ds0, p0, q0, hargs, rfl, rfl, h0, r0⟩ := trodAll_cons hA
  obtain ⟨rfl, rfl, rfl⟩ := trodAll_nil r0
  obtain rfl : args = #[v0] := by cases args; simp_all
  obtain ⟨rfl, rfl⟩ := trodVars_none hV
  have lt0 : ∀ x ∈ p0, x.block < W.heap.size := by obtain ⟨m, hm⟩ := h0; exact DataW.trod_lt m _ _ _ hm
  obtain ⟨rs0, ra0, rn0, rc0, rX0, rb0, rm0, re0, rY0, rfl, hS0, hc0, hb0, hT0, hd0, hk0, hu0, hv0⟩ := open_Rat (hval 0 27 v0 rfl rfl) h0 (sized_at 0 hsz rfl rfl)
  clear hA0
  simp only [List.append_nil] at hW'
  refine (walk rs0 ra0 rn0 rc0 rX0 rb0 rm0 re0 rY0 W hc0 hb0 hS0 hd0 hk0 hT0).mono fun e W' ⟨he, bel⟩ => ?_
  subst he
  exact ⟨_, rfl, _, _, _, [], _, [], hW', trodAll_mk1 (shut_bool Try.underlying4 _), (trodAll_cons_mk (Below.trod laidOut (by kernel_rfl) (of_decide_eq_true (by kernel_rfl)) h0 bel lt0) trodAll_mk0), rfl, bel.frame _, fun h => by cases h⟩

set_option maxRecDepth 100000 in
theorem lifted (os : Os) (started : os.Started) (H : Type) (enc : TypeId × Value → H) :
    ReturnsInHanded {} Try.checked os 5 .any (Rows.approxBesideSpec.pre6 enc Try.prog Try.f5 Rows.approxBesideRow.domain false) (Rows.approxBesideSpec.post enc Try.prog Try.f5 false true false false) := by
  refine returnsInHanded_of_change_sized (C := Try.checked) own started (by kernel_rfl) Try.func5
    (ChangeSpec.witness6 (enc := enc) (C := Try.checked) false ⟨#[], #[.agg #[.bool false, .slice none 0 0, .slice none 0 0]], []⟩ 8 (by kernel_rfl) (by kernel_rfl) (by kernel_rfl) (by kernel_rfl)) ?_
  intro W base args ds gs before hval hW _ hsz _
  exact contract H enc W base args ds gs before hval hW hsz

theorem over : Rows.approxBesideRow.holds Try.pinned (OpenSpec.ofChange Rows.approxBesideSpec) :=
  OpenClaim.holds_of_wide 5 Try.f5 rfl rfl rfl rfl rfl rfl rfl ⟨rfl, rfl, rfl, rfl, rfl⟩ rfl rfl rfl rfl rfl (by kernel_rfl) Try.func5 (by kernel_rfl)
    (of_decide_eq_true (by kernel_rfl)) (by unfold Func.isWrapper; first | (rw [if_pos (by decide +kernel)]; kernel_rfl) | (rw [if_neg (by decide +kernel)]; exact ⟨rfl, rfl⟩))
    (fun os started H enc _ => lifted os started H enc)

end Go.Proofs.Yticdpbkbnflgbaa.approxBeside
namespace Go.Proofs.Yticdpbkbnflgbaa
theorem approxBeside_holds : Rows.ApproxBesideSaid := approxBeside.over
#print axioms approxBeside_holds
end Go.Proofs.Yticdpbkbnflgbaa
