/-
  RatioField, over rational numbers.
-/
import Derived.Test.YtppjfghaboeceaaGreatDoorWY2
import Derived.Test.YtppjfghaboeceaaGreatDoorWH
import Derived.Test.YtppjfghaboeceaaGreatDoorOpenQ
namespace Go.Proofs.YtppjfghaboeceaaGreatDoor.ratioField
open Go.ChangeShapes Go.WideShapes Go.ChangeAt Go.RowKit Go.Proofs.YtppjfghaboeceaaGreatDoor
set_option linter.unusedVariables false
set_option linter.unusedSimpArgs false

theorem sz_invY {N : Nat} {t : Rat} (h : sz N t) (h0 : t ≠ 0) : sz N (t⁻¹) := by
  have hl := (low_of (A := (t.den : Int)) (D := t.num) (r := t⁻¹) (fun e => h0 (Rat.num_eq_zero.1 e)) (Rat.inv_def t)).le
  exact ⟨Nat.le_trans (ln_mono hl.1) (by rw [am_nat]; exact h.2), Nat.le_trans (ln_mono hl.2) h.1⟩
theorem sR_rng (r : Rat) : -1 ≤ sR r ∧ sR r ≤ 1 := by unfold sR; have h := sgn_range r.num; omega
set_option maxHeartbeats 16000000 in
set_option maxRecDepth 100000 in
theorem walk_zero (A B C : RatV) (w : World) (hA : A.ok w) (hBv : B.ok w) (hC : C.ok w) (hn : A.n ≤ 1048576 ∧ A.m ≤ 1048576 ∧ B.n ≤ 1048576 ∧ B.m ≤ 1048576 ∧ C.n ≤ 1048576 ∧ C.m ≤ 1048576) (hDg : Digits w) (h0 : C.val = 0) :
    Calls Tryz.prog 3 #[.agg #[.bool A.s, .slice A.a A.n A.c, .slice A.b A.m A.e], .agg #[.bool B.s, .slice B.a B.n B.c, .slice B.b B.m B.e], .agg #[.bool C.s, .slice C.a C.n C.c, .slice C.b C.m C.e]] w fun e w' => e = .returned (.bool true) ∧ Below w.heap.size w w' := by
  have GTA := hide' (fun w' (hb : Below w.heap.size w w') => twinQ A w' (hA.on hb))
  have GTB := hide' (fun w' (hb : Below w.heap.size w w') => twinQ B w' (hBv.on hb))
  have GTC := hide' (fun w' (hb : Below w.heap.size w w') => twinQ C w' (hC.on hb))
  have ya : sz 1048577 A.val := szV hA (by omega) (by omega)
  have yb : sz 1048577 B.val := szV hBv (by omega) (by omega)
  have yc : sz 1048577 C.val := szV hC (by omega) (by omega)
  have sA : A.n ≤ 100000000 ∧ A.m ≤ 100000000 := ⟨by omega, by omega⟩
  have sB : B.n ≤ 100000000 ∧ B.m ≤ 100000000 := ⟨by omega, by omega⟩
  have sC : C.n ≤ 100000000 ∧ C.m ≤ 100000000 := ⟨by omega, by omega⟩
  obtain ⟨N1, eN1⟩ : ∃ N1 : Rat, A.val = N1 := ⟨_, rfl⟩
  have yN1 := ya
  rw [eN1] at yN1
  obtain ⟨S, eS⟩ : ∃ S : Rat, A.val + B.val = S := ⟨_, rfl⟩
  have yS := sz_addY ya yb
  rw [eS] at yS
  obtain ⟨M, eM⟩ : ∃ M : Rat, A.val * B.val = M := ⟨_, rfl⟩
  have yM := sz_mulY ya yb
  rw [eM] at yM
  obtain ⟨U, eU⟩ : ∃ U : Rat, B.val + C.val = U := ⟨_, rfl⟩
  have yU := sz_addY yb yc
  rw [eU] at yU
  obtain ⟨Q, eQ⟩ : ∃ Q : Rat, B.val * C.val = Q := ⟨_, rfl⟩
  have yQ := sz_mulY yb yc
  rw [eQ] at yQ
  obtain ⟨X, eX⟩ : ∃ X : Rat, A.val * C.val = X := ⟨_, rfl⟩
  have yX := sz_mulY ya yc
  rw [eX] at yX
  obtain ⟨Y, eY⟩ : ∃ Y : Rat, A.val + C.val = Y := ⟨_, rfl⟩
  have yY := sz_addY ya yc
  rw [eY] at yY
  obtain ⟨T, eT⟩ : ∃ T : Rat, S + C.val = T := ⟨_, rfl⟩
  have yT := sz_addY yS yc
  rw [eT] at yT
  obtain ⟨P, eP⟩ : ∃ P : Rat, M * C.val = P := ⟨_, rfl⟩
  have yP := sz_mulY yM yc
  rw [eP] at yP
  obtain ⟨R, eR⟩ : ∃ R : Rat, S * C.val = R := ⟨_, rfl⟩
  have yR := sz_mulY yS yc
  rw [eR] at yR
  have zN1 := hide' (yN1.mono (show _ ≤ 100000000 by omega))
  have zS := hide' (yS.mono (show _ ≤ 100000000 by omega))
  have zM := hide' (yM.mono (show _ ≤ 100000000 by omega))
  have zU := hide' (yU.mono (show _ ≤ 100000000 by omega))
  have zQ := hide' (yQ.mono (show _ ≤ 100000000 by omega))
  have zX := hide' (yX.mono (show _ ≤ 100000000 by omega))
  have zY := hide' (yY.mono (show _ ≤ 100000000 by omega))
  have zT := hide' (yT.mono (show _ ≤ 100000000 by omega))
  have zP := hide' (yP.mono (show _ ≤ 100000000 by omega))
  have zR := hide' (yR.mono (show _ ≤ 100000000 by omega))
  have fS := hide' (show B.val + A.val = S by rw [← eS]; grind)
  have fM := hide' (show B.val * A.val = M by rw [← eM]; grind)
  have fT := hide' (show A.val + U = T by rw [← eT, ← eS, ← eU]; grind)
  have fP := hide' (show A.val * Q = P by rw [← eP, ← eM, ← eQ]; grind)
  have fR := hide' (show X + Q = R by rw [← eR, ← eS, ← eX, ← eQ]; grind)
  have fB := hide' (show S - B.val = N1 by rw [← eS, ← eN1]; grind)
  obtain ⟨Cx, kX⟩ : ∃ Cx, sR (A.val - B.val) = Cx := ⟨_, rfl⟩
  obtain ⟨Cy, kY⟩ : ∃ Cy, sR (B.val - A.val) = Cy := ⟨_, rfl⟩
  obtain ⟨Cc, kC⟩ : ∃ Cc, sR C.val = Cc := ⟨_, rfl⟩
  have rx := sR_rng (A.val - B.val)
  have rc := sR_rng C.val
  rw [kX] at rx
  rw [kC] at rc
  have hyx : -Cy = Cx := by rw [← kX, ← kY, ← sR_neg]; congr 1; grind
  have kZ : sR (Y - U) = Cx := by rw [← kX, ← eY, ← eU]; congr 1; grind
  have kW : sR (X - Q) = Cx * Cc := by rw [← kX, ← kC, ← sR_mul, ← eX, ← eQ]; congr 1; grind
  obtain ⟨Cw, hCw⟩ : ∃ Cw, Cx * Cc = Cw := ⟨_, rfl⟩
  rw [hCw] at kW
  have rw_ : -1 ≤ Cw ∧ Cw ≤ 1 := by have h := sR_rng (X - Q); rw [kW] at h; exact h
  have mm1 : IntKind.i64.wrap (-Cy) = Cx := by rw [hyx, IntKind.wrap_i64]; omega
  have mm2 : IntKind.i64.wrap (Cx * Cc) = Cw := by rw [hCw, IntKind.wrap_i64]; omega
  have mm3 : wrap64 (-Cy) = Cx := by rw [hyx]; unfold wrap64; omega
  have mm4 : wrap64 (Cx * Cc) = Cw := by rw [hCw]; unfold wrap64; omega
  have hcc : (Cc != 0) = false := by rw [← kC]; rw [h0]; rfl
  replace eS := hide' eS
  replace eM := hide' eM
  replace eU := hide' eU
  replace eQ := hide' eQ
  replace eX := hide' eX
  replace eY := hide' eY
  replace eT := hide' eT
  replace eP := hide' eP
  replace eR := hide' eR
  replace eN1 := hide' eN1
  replace kX := hide' kX
  replace kY := hide' kY
  replace kZ := hide' kZ
  replace kW := hide' kW
  replace kC := hide' kC
  replace h0 := hide' h0
  have DG := hide' hDg
  clear hA hBv hC hn hDg ya yb yc yN1 yS yM yU yQ yX yY yT yP yR rx rc rw_ hyx hCw
  go_enter Tryz.func3, Tryz.ntmps3
  go_wp2_with fail
  obtain ⟨wA, hwA⟩ : ∃ wA, (((w.alloc (.cells #[.bool A.s, .slice A.a A.n A.c, .slice A.b A.m A.e] 27)).alloc (.cells #[.bool B.s, .slice B.a B.n B.c, .slice B.b B.m B.e] 27)).alloc (.cells #[.bool C.s, .slice C.a C.n C.c, .slice C.b C.m C.e] 27)) = wA := ⟨_, rfl⟩
  have hB : Below w.heap.size w wA := by subst hwA; exact ((below_alloc _).trans ((below_alloc _).mono (below_alloc _).size)).trans ((below_alloc _).mono ((below_alloc _).trans ((below_alloc _).mono (below_alloc _).size)).size)
  have hs3 : wA.heap.size = w.heap.size + 3 := by subst hwA; rw [size_alloc, size_alloc, size_alloc]
  have ca0 : wA.cell? ⟨w.heap.size, 0, none⟩ = some (.bool A.s) := by subst hwA; go_simp
  have ca1 : wA.cell? ⟨w.heap.size, 1, none⟩ = some (.slice A.a A.n A.c) := by subst hwA; go_simp
  have ca2 : wA.cell? ⟨w.heap.size, 2, none⟩ = some (.slice A.b A.m A.e) := by subst hwA; go_simp
  have cb0 : wA.cell? ⟨w.heap.size + 1, 0, none⟩ = some (.bool B.s) := by subst hwA; go_simp
  have cb1 : wA.cell? ⟨w.heap.size + 1, 1, none⟩ = some (.slice B.a B.n B.c) := by subst hwA; go_simp
  have cb2 : wA.cell? ⟨w.heap.size + 1, 2, none⟩ = some (.slice B.b B.m B.e) := by subst hwA; go_simp
  have cc0 : wA.cell? ⟨w.heap.size + 1 + 1, 0, none⟩ = some (.bool C.s) := by subst hwA; go_simp
  have cc1 : wA.cell? ⟨w.heap.size + 1 + 1, 1, none⟩ = some (.slice C.a C.n C.c) := by subst hwA; go_simp
  have cc2 : wA.cell? ⟨w.heap.size + 1 + 1, 2, none⟩ = some (.slice C.b C.m C.e) := by subst hwA; go_simp
  rw [hwA]
  clear hwA
  have hs4 : w.heap.size + 3 ≤ wA.heap.size := by omega
  clear hs3
  refine (half_is _ (DG.out.below hB)).mono ?_
  rintro e wH ⟨rfl, bH⟩
  replace ca0 := below_cell bH ca0
  replace ca1 := below_cell bH ca1
  replace ca2 := below_cell bH ca2
  replace cb0 := below_cell bH cb0
  replace cb1 := below_cell bH cb1
  replace cb2 := below_cell bH cb2
  replace cc0 := below_cell bH cc0
  replace cc1 := below_cell bH cc1
  replace cc2 := below_cell bH cc2
  have hsz := bH.size
  replace hB := hB.trans (bH.mono hB.size)
  clear bH
  replace hs4 := Nat.le_trans hs4 hsz
  clear hsz
  go_wp2_with fail
  refine (GTA.out _ hB).mono ?_
  rintro e w1 ⟨p1, q1, rfl, b1, t1⟩
  replace ca0 := below_cell b1 ca0
  replace ca1 := below_cell b1 ca1
  replace ca2 := below_cell b1 ca2
  replace cb0 := below_cell b1 cb0
  replace cb1 := below_cell b1 cb1
  replace cb2 := below_cell b1 cb2
  replace cc0 := below_cell b1 cc0
  replace cc1 := below_cell b1 cc1
  replace cc2 := below_cell b1 cc2
  have hsz := b1.size
  replace hB := hB.trans (b1.mono hB.size)
  clear b1
  replace hs4 := Nat.le_trans hs4 hsz
  clear hsz
  go_wp2_with fail
  refine (normQ (twR A p1 q1) N1 _ t1 eN1.out zN1.out).mono ?_
  rintro e w2 ⟨pN, qN, rfl, b2, okN⟩
  replace ca0 := below_cell b2 ca0
  replace ca1 := below_cell b2 ca1
  replace ca2 := below_cell b2 ca2
  replace cb0 := below_cell b2 cb0
  replace cb1 := below_cell b2 cb1
  replace cb2 := below_cell b2 cb2
  replace cc0 := below_cell b2 cc0
  replace cc1 := below_cell b2 cc1
  replace cc2 := below_cell b2 cc2
  have hsz := b2.size
  replace hB := hB.trans (b2.mono hB.size)
  clear b2
  replace hs4 := Nat.le_trans hs4 hsz
  clear hsz t1
  obtain ⟨wB, hwB⟩ : ∃ wB, w2.alloc (.cells #[.bool (ng N1.num), .slice pN (ln (am N1.num)) (ln (am N1.num)), .slice qN (ln N1.den) (ln N1.den)] 27) = wB := ⟨_, rfl⟩
  have bB : Below w2.heap.size w2 wB := by subst hwB; exact below_alloc _
  have cn0 : wB.cell? ⟨w2.heap.size, 0, none⟩ = some (.bool (ng N1.num)) := by subst hwB; go_simp
  have cn1 : wB.cell? ⟨w2.heap.size, 1, none⟩ = some (.slice pN (ln (am N1.num)) (ln (am N1.num))) := by subst hwB; go_simp
  have cn2 : wB.cell? ⟨w2.heap.size, 2, none⟩ = some (.slice qN (ln N1.den) (ln N1.den)) := by subst hwB; go_simp
  replace ca0 := below_cell bB ca0
  replace ca1 := below_cell bB ca1
  replace ca2 := below_cell bB ca2
  replace cb0 := below_cell bB cb0
  replace cb1 := below_cell bB cb1
  replace cb2 := below_cell bB cb2
  replace cc0 := below_cell bB cc0
  replace cc1 := below_cell bB cc1
  replace cc2 := below_cell bB cc2
  replace okN := okN.on bB
  have hsz := bB.size
  replace hB := hB.trans (bB.mono hB.size)
  clear bB
  replace hs4 := Nat.le_trans hs4 hsz
  clear hsz
  go_wp2_with fail
  clear hwB
  have hs6 : w.heap.size + 1 + 1 < wB.heap.size := World.block_lt_of_cell? wB _ cc0
  replace hs4 : w.heap.size + 3 ≤ wB.heap.size := by omega
  clear hs6
  have bW : Below wB.heap.size wB wB := Below.refl _ _
  go_cut [8] from 18 to 22 (fun s8_ wx => ∃ c p q, s8_ = .pointer (some ⟨c, 0, none⟩) ∧ wB.heap.size ≤ c ∧ wx.cell? ⟨c, 0, none⟩ = some (.bool (ng S.num)) ∧ wx.cell? ⟨c, 1, none⟩ = some (.slice p (ln (am S.num)) (ln (am S.num))) ∧ wx.cell? ⟨c, 2, none⟩ = some (.slice q (ln S.den) (ln S.den)) ∧ (nR S p q).ok wx ∧ Below wB.heap.size wB wx)
  case first =>
    have bD : Below wB.heap.size wB wB.drew := (Below.refl _ _).drew
    have kca0 := below_cell bD ca0
    have kca1 := below_cell bD ca1
    have kca2 := below_cell bD ca2
    have kcb0 := below_cell bD cb0
    have kcb1 := below_cell bD cb1
    have kcb2 := below_cell bD cb2
    replace hB := hB.trans (bD.mono hB.size)
    replace bW := bW.trans (bD.mono bW.size)
    refine wp_region_held_drew (S := fun w' => w'.cell? ⟨w.heap.size, 0, none⟩ = some (.bool A.s) ∧ w'.cell? ⟨w.heap.size, 1, none⟩ = some (.slice A.a A.n A.c) ∧ w'.cell? ⟨w.heap.size, 2, none⟩ = some (.slice A.b A.m A.e) ∧ w'.cell? ⟨w.heap.size + 1, 0, none⟩ = some (.bool B.s) ∧ w'.cell? ⟨w.heap.size + 1, 1, none⟩ = some (.slice B.a B.n B.c) ∧ w'.cell? ⟨w.heap.size + 1, 2, none⟩ = some (.slice B.b B.m B.e)) (by kernel_rfl) ⟨kca0, kca1, kca2, kcb0, kcb1, kcb2⟩ (fun hHeld => ?_)
    clear kca0 kca1 kca2 kcb0 kcb1 kcb2
    generalize wB.drew = w0 at bD hB bW hHeld ⊢
    refine take' 0 (v := ?_) rfl (by kernel_rfl) (by kernel_rfl) (by kernel_rfl) (fun _ _ _ h => h) (Or.inl ⟨by rfl, ?_⟩) (by assumption) ?_
    rotate_left
    · intro w9 hSw
      go_simp
      first | done | with_reducible rfl
    simp only [Act.put, List.setIfInBounds_toArray, List.set_cons_zero, List.set_cons_succ]
    refine take' 2 (v := ?_) rfl (by kernel_rfl) (by kernel_rfl) (by kernel_rfl) (fun _ _ _ h => h) (Or.inl ⟨by rfl, ?_⟩) (by assumption) ?_
    rotate_left
    · intro w9 hSw
      go_simp
      first | done | with_reducible rfl
    simp only [Act.put, List.setIfInBounds_toArray, List.set_cons_zero, List.set_cons_succ]
    refine wpAnyH_ready (rs := [1, 5]) (by kernel_rfl) (by simp) ?_
    refine consT rfl (fun KK hKK => ?_) ?_
    · skip
      go_simp
      refine (GTA.out _ hB).mono ?_
      rintro e v1 ⟨p1, q1, rfl, b1, t1⟩
      have bC := b1
      replace hB := hB.trans (bC.mono hB.size)
      replace bW := bW.trans (bC.mono bW.size)
      replace hHeld := (⟨below_cell bC hHeld.1, below_cell bC hHeld.2.1, below_cell bC hHeld.2.2.1, below_cell bC hHeld.2.2.2.1, below_cell bC hHeld.2.2.2.2.1, below_cell bC hHeld.2.2.2.2.2⟩ : _ ∧ _ ∧ _ ∧ _ ∧ _ ∧ _)
      clear bC
      go_wp2_with fail
      clear b1
      refine hKK.out _ _ hHeld ?_
      clear hHeld
      intro hHeld
      clear hKK KK
      try simp only [Act.put, List.setIfInBounds_toArray, List.set_cons_zero, List.set_cons_succ]
      refine wpAnyH_ready (rs := [3, 5]) (by kernel_rfl) (by simp) ?_
      refine consT rfl (fun KK hKK => ?_) ?_
      · skip
        go_simp
        refine (GTB.out _ hB).mono ?_
        rintro e v2 ⟨p2, q2, rfl, b2, t2⟩
        have bC := b2
        replace t1 := t1.on bC
        replace hB := hB.trans (bC.mono hB.size)
        replace bW := bW.trans (bC.mono bW.size)
        replace hHeld := (⟨below_cell bC hHeld.1, below_cell bC hHeld.2.1, below_cell bC hHeld.2.2.1, below_cell bC hHeld.2.2.2.1, below_cell bC hHeld.2.2.2.2.1, below_cell bC hHeld.2.2.2.2.2⟩ : _ ∧ _ ∧ _ ∧ _ ∧ _ ∧ _)
        clear bC
        go_wp2_with fail
        clear b2
        refine hKK.out _ _ hHeld ?_
        clear hHeld
        intro hHeld
        clear hKK KK
        try simp only [Act.put, List.setIfInBounds_toArray, List.set_cons_zero, List.set_cons_succ]
        refine wpAnyH_ready (rs := [4, 5]) (by kernel_rfl) (by simp) ?_
        refine consT rfl (fun KK hKK => ?_) ?_
        · skip
          go_simp
          refine (addQ (twR A p1 q1) (twR B p2 q2) S _ t1 t2 ⟨sA.1, sA.2, sB.1, sB.2⟩ eS.out zS.out).mono ?_
          rintro e v3 ⟨p3, q3, rfl, b3, r3⟩
          have bC := b3
          replace t1 := t1.on bC
          replace t2 := t2.on bC
          replace hB := hB.trans (bC.mono hB.size)
          replace bW := bW.trans (bC.mono bW.size)
          replace hHeld := (⟨below_cell bC hHeld.1, below_cell bC hHeld.2.1, below_cell bC hHeld.2.2.1, below_cell bC hHeld.2.2.2.1, below_cell bC hHeld.2.2.2.2.1, below_cell bC hHeld.2.2.2.2.2⟩ : _ ∧ _ ∧ _ ∧ _ ∧ _ ∧ _)
          clear bC
          go_wp2_with fail
          clear b3
          clear t1
          clear t2
          refine hKK.out _ _ hHeld ?_
          clear hHeld
          intro hHeld
          clear hKK KK
          try simp only [Act.put, List.setIfInBounds_toArray, List.set_cons_zero, List.set_cons_succ]
          refine wpAnyH_ready (rs := [5]) (by kernel_rfl) (by simp) ?_
          refine cons' rfl (fun KK hKK => ?_)
          go_simp
          have y0 : (v3.alloc (.cells #[.bool false, .slice none 0 0, .slice none 0 0] 27)).cell? ⟨v3.heap.size, 0, none⟩ = some (.bool false) := by go_simp
          have y1 : (v3.alloc (.cells #[.bool false, .slice none 0 0, .slice none 0 0] 27)).cell? ⟨v3.heap.size, 1, none⟩ = some (.slice none 0 0) := by go_simp
          have y2 : (v3.alloc (.cells #[.bool false, .slice none 0 0, .slice none 0 0] 27)).cell? ⟨v3.heap.size, 2, none⟩ = some (.slice none 0 0) := by go_simp
          have yR := row_new v3 #[.bool false, .slice none 0 0, .slice none 0 0] 27
          have yb := bW.size
          have b3 := below_alloc (w := v3) (.cells #[.bool false, .slice none 0 0, .slice none 0 0] 27)
          generalize v3.alloc (.cells #[.bool false, .slice none 0 0, .slice none 0 0] 27) = x4 at y0 y1 y2 yR b3 ⊢
          replace r3 := r3.on b3
          replace hB := hB.trans (b3.mono hB.size)
          replace bW := bW.trans (b3.mono bW.size)
          replace hHeld := (⟨below_cell b3 hHeld.1, below_cell b3 hHeld.2.1, below_cell b3 hHeld.2.2.1, below_cell b3 hHeld.2.2.2.1, below_cell b3 hHeld.2.2.2.2.1, below_cell b3 hHeld.2.2.2.2.2⟩ : _ ∧ _ ∧ _ ∧ _ ∧ _ ∧ _)
          clear b3
          refine hKK.out _ _ hHeld ?_
          clear hHeld
          intro hHeld
          clear hKK KK
          try simp only [Act.put, List.setIfInBounds_toArray, List.set_cons_zero, List.set_cons_succ]
          refine wpAnyH_ready (rs := [6]) (by kernel_rfl) (by simp) ?_
          refine cons' rfl (fun KK hKK => ?_)
          have fz := fun o => yR.frozen o
          have kA := st3_at (u0 := .bool (ng S.num)) (u1 := .slice p3 (ln (am S.num)) (ln (am S.num))) (u2 := .slice q3 (ln S.den) (ln S.den)) y0 y1 y2
          have kO := st3_ok (u0 := .bool (ng S.num)) (u1 := .slice p3 (ln (am S.num)) (ln (am S.num))) (u2 := .slice q3 (ln S.den) (ln S.den)) r3 y0 y1 y2
          have kB := st3_bel (u0 := .bool (ng S.num)) (u1 := .slice p3 (ln (am S.num)) (ln (am S.num))) (u2 := .slice q3 (ln S.den) (ln S.den)) bW yb
          have hH2 := (⟨st3_far (c := v3.heap.size) (u0 := .bool (ng S.num)) (u1 := .slice p3 (ln (am S.num)) (ln (am S.num))) (u2 := .slice q3 (ln S.den) (ln S.den)) hHeld.1 (by have := hs4; omega), st3_far (c := v3.heap.size) (u0 := .bool (ng S.num)) (u1 := .slice p3 (ln (am S.num)) (ln (am S.num))) (u2 := .slice q3 (ln S.den) (ln S.den)) hHeld.2.1 (by have := hs4; omega), st3_far (c := v3.heap.size) (u0 := .bool (ng S.num)) (u1 := .slice p3 (ln (am S.num)) (ln (am S.num))) (u2 := .slice q3 (ln S.den) (ln S.den)) hHeld.2.2.1 (by have := hs4; omega), st3_far (c := v3.heap.size) (u0 := .bool (ng S.num)) (u1 := .slice p3 (ln (am S.num)) (ln (am S.num))) (u2 := .slice q3 (ln S.den) (ln S.den)) hHeld.2.2.2.1 (by have := hs4; omega), st3_far (c := v3.heap.size) (u0 := .bool (ng S.num)) (u1 := .slice p3 (ln (am S.num)) (ln (am S.num))) (u2 := .slice q3 (ln S.den) (ln S.den)) hHeld.2.2.2.2.1 (by have := hs4; omega), st3_far (c := v3.heap.size) (u0 := .bool (ng S.num)) (u1 := .slice p3 (ln (am S.num)) (ln (am S.num))) (u2 := .slice q3 (ln S.den) (ln S.den)) hHeld.2.2.2.2.2 (by have := hs4; omega)⟩ : _ ∧ _ ∧ _ ∧ _ ∧ _ ∧ _)
          unfold st3 at kA kB hH2 kO
          go_simp
          refine hKK.out _ _ hH2 ?_
          clear hHeld
          intro hHeld
          clear hKK KK
          try simp only [Act.put, List.setIfInBounds_toArray, List.set_cons_zero, List.set_cons_succ]
          refine wpAnyH_done (by kernel_rfl) ?_ _
          go_wp2_with fail
          go_meet
          exact ⟨_, _, _, rfl, yb, kA.1, kA.2.1, kA.2.2, kO, kB⟩
        refine consT rfl (fun KK hKK => ?_) ?_
        · skip
          go_simp
          have y0 : (v2.alloc (.cells #[.bool false, .slice none 0 0, .slice none 0 0] 27)).cell? ⟨v2.heap.size, 0, none⟩ = some (.bool false) := by go_simp
          have y1 : (v2.alloc (.cells #[.bool false, .slice none 0 0, .slice none 0 0] 27)).cell? ⟨v2.heap.size, 1, none⟩ = some (.slice none 0 0) := by go_simp
          have y2 : (v2.alloc (.cells #[.bool false, .slice none 0 0, .slice none 0 0] 27)).cell? ⟨v2.heap.size, 2, none⟩ = some (.slice none 0 0) := by go_simp
          have yR := row_new v2 #[.bool false, .slice none 0 0, .slice none 0 0] 27
          have yb := bW.size
          have b3 := below_alloc (w := v2) (.cells #[.bool false, .slice none 0 0, .slice none 0 0] 27)
          generalize v2.alloc (.cells #[.bool false, .slice none 0 0, .slice none 0 0] 27) = x5 at y0 y1 y2 yR b3 ⊢
          replace t1 := t1.on b3
          replace t2 := t2.on b3
          replace hB := hB.trans (b3.mono hB.size)
          replace bW := bW.trans (b3.mono bW.size)
          replace hHeld := (⟨below_cell b3 hHeld.1, below_cell b3 hHeld.2.1, below_cell b3 hHeld.2.2.1, below_cell b3 hHeld.2.2.2.1, below_cell b3 hHeld.2.2.2.2.1, below_cell b3 hHeld.2.2.2.2.2⟩ : _ ∧ _ ∧ _ ∧ _ ∧ _ ∧ _)
          clear b3
          refine hKK.out _ _ hHeld ?_
          clear hHeld
          intro hHeld
          clear hKK KK
          try simp only [Act.put, List.setIfInBounds_toArray, List.set_cons_zero, List.set_cons_succ]
          refine wpAnyH_ready (rs := [4]) (by kernel_rfl) (by simp) ?_
          refine cons' rfl (fun KK hKK => ?_)
          go_simp
          refine (addQ (twR A p1 q1) (twR B p2 q2) S _ t1 t2 ⟨sA.1, sA.2, sB.1, sB.2⟩ eS.out zS.out).mono ?_
          rintro e v6 ⟨p6, q6, rfl, b6, r6⟩
          have bC := b6
          replace t1 := t1.on bC
          replace t2 := t2.on bC
          replace hB := hB.trans (bC.mono hB.size)
          replace bW := bW.trans (bC.mono bW.size)
          replace y0 := below_cell bC y0
          replace y1 := below_cell bC y1
          replace y2 := below_cell bC y2
          replace yR := below_row bC yR
          replace hHeld := (⟨below_cell bC hHeld.1, below_cell bC hHeld.2.1, below_cell bC hHeld.2.2.1, below_cell bC hHeld.2.2.2.1, below_cell bC hHeld.2.2.2.2.1, below_cell bC hHeld.2.2.2.2.2⟩ : _ ∧ _ ∧ _ ∧ _ ∧ _ ∧ _)
          clear bC
          go_wp2_with fail
          clear b6
          clear t1
          clear t2
          refine hKK.out _ _ hHeld ?_
          clear hHeld
          intro hHeld
          clear hKK KK
          try simp only [Act.put, List.setIfInBounds_toArray, List.set_cons_zero, List.set_cons_succ]
          refine wpAnyH_ready (rs := [6]) (by kernel_rfl) (by simp) ?_
          refine cons' rfl (fun KK hKK => ?_)
          have fz := fun o => yR.frozen o
          have kA := st3_at (u0 := .bool (ng S.num)) (u1 := .slice p6 (ln (am S.num)) (ln (am S.num))) (u2 := .slice q6 (ln S.den) (ln S.den)) y0 y1 y2
          have kO := st3_ok (u0 := .bool (ng S.num)) (u1 := .slice p6 (ln (am S.num)) (ln (am S.num))) (u2 := .slice q6 (ln S.den) (ln S.den)) r6 y0 y1 y2
          have kB := st3_bel (u0 := .bool (ng S.num)) (u1 := .slice p6 (ln (am S.num)) (ln (am S.num))) (u2 := .slice q6 (ln S.den) (ln S.den)) bW yb
          have hH2 := (⟨st3_far (c := v2.heap.size) (u0 := .bool (ng S.num)) (u1 := .slice p6 (ln (am S.num)) (ln (am S.num))) (u2 := .slice q6 (ln S.den) (ln S.den)) hHeld.1 (by have := hs4; omega), st3_far (c := v2.heap.size) (u0 := .bool (ng S.num)) (u1 := .slice p6 (ln (am S.num)) (ln (am S.num))) (u2 := .slice q6 (ln S.den) (ln S.den)) hHeld.2.1 (by have := hs4; omega), st3_far (c := v2.heap.size) (u0 := .bool (ng S.num)) (u1 := .slice p6 (ln (am S.num)) (ln (am S.num))) (u2 := .slice q6 (ln S.den) (ln S.den)) hHeld.2.2.1 (by have := hs4; omega), st3_far (c := v2.heap.size) (u0 := .bool (ng S.num)) (u1 := .slice p6 (ln (am S.num)) (ln (am S.num))) (u2 := .slice q6 (ln S.den) (ln S.den)) hHeld.2.2.2.1 (by have := hs4; omega), st3_far (c := v2.heap.size) (u0 := .bool (ng S.num)) (u1 := .slice p6 (ln (am S.num)) (ln (am S.num))) (u2 := .slice q6 (ln S.den) (ln S.den)) hHeld.2.2.2.2.1 (by have := hs4; omega), st3_far (c := v2.heap.size) (u0 := .bool (ng S.num)) (u1 := .slice p6 (ln (am S.num)) (ln (am S.num))) (u2 := .slice q6 (ln S.den) (ln S.den)) hHeld.2.2.2.2.2 (by have := hs4; omega)⟩ : _ ∧ _ ∧ _ ∧ _ ∧ _ ∧ _)
          unfold st3 at kA kB hH2 kO
          go_simp
          refine hKK.out _ _ hH2 ?_
          clear hHeld
          intro hHeld
          clear hKK KK
          try simp only [Act.put, List.setIfInBounds_toArray, List.set_cons_zero, List.set_cons_succ]
          refine wpAnyH_done (by kernel_rfl) ?_ _
          go_wp2_with fail
          go_meet
          exact ⟨_, _, _, rfl, yb, kA.1, kA.2.1, kA.2.2, kO, kB⟩
        exact AllReadyH.nil
      refine consT rfl (fun KK hKK => ?_) ?_
      · skip
        go_simp
        have y0 : (v1.alloc (.cells #[.bool false, .slice none 0 0, .slice none 0 0] 27)).cell? ⟨v1.heap.size, 0, none⟩ = some (.bool false) := by go_simp
        have y1 : (v1.alloc (.cells #[.bool false, .slice none 0 0, .slice none 0 0] 27)).cell? ⟨v1.heap.size, 1, none⟩ = some (.slice none 0 0) := by go_simp
        have y2 : (v1.alloc (.cells #[.bool false, .slice none 0 0, .slice none 0 0] 27)).cell? ⟨v1.heap.size, 2, none⟩ = some (.slice none 0 0) := by go_simp
        have yR := row_new v1 #[.bool false, .slice none 0 0, .slice none 0 0] 27
        have yb := bW.size
        have b3 := below_alloc (w := v1) (.cells #[.bool false, .slice none 0 0, .slice none 0 0] 27)
        generalize v1.alloc (.cells #[.bool false, .slice none 0 0, .slice none 0 0] 27) = x7 at y0 y1 y2 yR b3 ⊢
        replace t1 := t1.on b3
        replace hB := hB.trans (b3.mono hB.size)
        replace bW := bW.trans (b3.mono bW.size)
        replace hHeld := (⟨below_cell b3 hHeld.1, below_cell b3 hHeld.2.1, below_cell b3 hHeld.2.2.1, below_cell b3 hHeld.2.2.2.1, below_cell b3 hHeld.2.2.2.2.1, below_cell b3 hHeld.2.2.2.2.2⟩ : _ ∧ _ ∧ _ ∧ _ ∧ _ ∧ _)
        clear b3
        refine hKK.out _ _ hHeld ?_
        clear hHeld
        intro hHeld
        clear hKK KK
        try simp only [Act.put, List.setIfInBounds_toArray, List.set_cons_zero, List.set_cons_succ]
        refine wpAnyH_ready (rs := [3]) (by kernel_rfl) (by simp) ?_
        refine cons' rfl (fun KK hKK => ?_)
        go_simp
        refine (GTB.out _ hB).mono ?_
        rintro e v8 ⟨p8, q8, rfl, b8, t8⟩
        have bC := b8
        replace t1 := t1.on bC
        replace hB := hB.trans (bC.mono hB.size)
        replace bW := bW.trans (bC.mono bW.size)
        replace y0 := below_cell bC y0
        replace y1 := below_cell bC y1
        replace y2 := below_cell bC y2
        replace yR := below_row bC yR
        replace hHeld := (⟨below_cell bC hHeld.1, below_cell bC hHeld.2.1, below_cell bC hHeld.2.2.1, below_cell bC hHeld.2.2.2.1, below_cell bC hHeld.2.2.2.2.1, below_cell bC hHeld.2.2.2.2.2⟩ : _ ∧ _ ∧ _ ∧ _ ∧ _ ∧ _)
        clear bC
        go_wp2_with fail
        clear b8
        refine hKK.out _ _ hHeld ?_
        clear hHeld
        intro hHeld
        clear hKK KK
        try simp only [Act.put, List.setIfInBounds_toArray, List.set_cons_zero, List.set_cons_succ]
        refine wpAnyH_ready (rs := [4]) (by kernel_rfl) (by simp) ?_
        refine cons' rfl (fun KK hKK => ?_)
        go_simp
        refine (addQ (twR A p1 q1) (twR B p8 q8) S _ t1 t8 ⟨sA.1, sA.2, sB.1, sB.2⟩ eS.out zS.out).mono ?_
        rintro e v9 ⟨p9, q9, rfl, b9, r9⟩
        have bC := b9
        replace t1 := t1.on bC
        replace t8 := t8.on bC
        replace hB := hB.trans (bC.mono hB.size)
        replace bW := bW.trans (bC.mono bW.size)
        replace y0 := below_cell bC y0
        replace y1 := below_cell bC y1
        replace y2 := below_cell bC y2
        replace yR := below_row bC yR
        replace hHeld := (⟨below_cell bC hHeld.1, below_cell bC hHeld.2.1, below_cell bC hHeld.2.2.1, below_cell bC hHeld.2.2.2.1, below_cell bC hHeld.2.2.2.2.1, below_cell bC hHeld.2.2.2.2.2⟩ : _ ∧ _ ∧ _ ∧ _ ∧ _ ∧ _)
        clear bC
        go_wp2_with fail
        clear b9
        clear t1
        clear t8
        refine hKK.out _ _ hHeld ?_
        clear hHeld
        intro hHeld
        clear hKK KK
        try simp only [Act.put, List.setIfInBounds_toArray, List.set_cons_zero, List.set_cons_succ]
        refine wpAnyH_ready (rs := [6]) (by kernel_rfl) (by simp) ?_
        refine cons' rfl (fun KK hKK => ?_)
        have fz := fun o => yR.frozen o
        have kA := st3_at (u0 := .bool (ng S.num)) (u1 := .slice p9 (ln (am S.num)) (ln (am S.num))) (u2 := .slice q9 (ln S.den) (ln S.den)) y0 y1 y2
        have kO := st3_ok (u0 := .bool (ng S.num)) (u1 := .slice p9 (ln (am S.num)) (ln (am S.num))) (u2 := .slice q9 (ln S.den) (ln S.den)) r9 y0 y1 y2
        have kB := st3_bel (u0 := .bool (ng S.num)) (u1 := .slice p9 (ln (am S.num)) (ln (am S.num))) (u2 := .slice q9 (ln S.den) (ln S.den)) bW yb
        have hH2 := (⟨st3_far (c := v1.heap.size) (u0 := .bool (ng S.num)) (u1 := .slice p9 (ln (am S.num)) (ln (am S.num))) (u2 := .slice q9 (ln S.den) (ln S.den)) hHeld.1 (by have := hs4; omega), st3_far (c := v1.heap.size) (u0 := .bool (ng S.num)) (u1 := .slice p9 (ln (am S.num)) (ln (am S.num))) (u2 := .slice q9 (ln S.den) (ln S.den)) hHeld.2.1 (by have := hs4; omega), st3_far (c := v1.heap.size) (u0 := .bool (ng S.num)) (u1 := .slice p9 (ln (am S.num)) (ln (am S.num))) (u2 := .slice q9 (ln S.den) (ln S.den)) hHeld.2.2.1 (by have := hs4; omega), st3_far (c := v1.heap.size) (u0 := .bool (ng S.num)) (u1 := .slice p9 (ln (am S.num)) (ln (am S.num))) (u2 := .slice q9 (ln S.den) (ln S.den)) hHeld.2.2.2.1 (by have := hs4; omega), st3_far (c := v1.heap.size) (u0 := .bool (ng S.num)) (u1 := .slice p9 (ln (am S.num)) (ln (am S.num))) (u2 := .slice q9 (ln S.den) (ln S.den)) hHeld.2.2.2.2.1 (by have := hs4; omega), st3_far (c := v1.heap.size) (u0 := .bool (ng S.num)) (u1 := .slice p9 (ln (am S.num)) (ln (am S.num))) (u2 := .slice q9 (ln S.den) (ln S.den)) hHeld.2.2.2.2.2 (by have := hs4; omega)⟩ : _ ∧ _ ∧ _ ∧ _ ∧ _ ∧ _)
        unfold st3 at kA kB hH2 kO
        go_simp
        refine hKK.out _ _ hH2 ?_
        clear hHeld
        intro hHeld
        clear hKK KK
        try simp only [Act.put, List.setIfInBounds_toArray, List.set_cons_zero, List.set_cons_succ]
        refine wpAnyH_done (by kernel_rfl) ?_ _
        go_wp2_with fail
        go_meet
        exact ⟨_, _, _, rfl, yb, kA.1, kA.2.1, kA.2.2, kO, kB⟩
      exact AllReadyH.nil
    refine consT rfl (fun KK hKK => ?_) ?_
    · skip
      go_simp
      have y0 : (w0.alloc (.cells #[.bool false, .slice none 0 0, .slice none 0 0] 27)).cell? ⟨w0.heap.size, 0, none⟩ = some (.bool false) := by go_simp
      have y1 : (w0.alloc (.cells #[.bool false, .slice none 0 0, .slice none 0 0] 27)).cell? ⟨w0.heap.size, 1, none⟩ = some (.slice none 0 0) := by go_simp
      have y2 : (w0.alloc (.cells #[.bool false, .slice none 0 0, .slice none 0 0] 27)).cell? ⟨w0.heap.size, 2, none⟩ = some (.slice none 0 0) := by go_simp
      have yR := row_new w0 #[.bool false, .slice none 0 0, .slice none 0 0] 27
      have yb := bW.size
      have b3 := below_alloc (w := w0) (.cells #[.bool false, .slice none 0 0, .slice none 0 0] 27)
      generalize w0.alloc (.cells #[.bool false, .slice none 0 0, .slice none 0 0] 27) = x10 at y0 y1 y2 yR b3 ⊢
      replace hB := hB.trans (b3.mono hB.size)
      replace bW := bW.trans (b3.mono bW.size)
      replace hHeld := (⟨below_cell b3 hHeld.1, below_cell b3 hHeld.2.1, below_cell b3 hHeld.2.2.1, below_cell b3 hHeld.2.2.2.1, below_cell b3 hHeld.2.2.2.2.1, below_cell b3 hHeld.2.2.2.2.2⟩ : _ ∧ _ ∧ _ ∧ _ ∧ _ ∧ _)
      clear b3
      refine hKK.out _ _ hHeld ?_
      clear hHeld
      intro hHeld
      clear hKK KK
      try simp only [Act.put, List.setIfInBounds_toArray, List.set_cons_zero, List.set_cons_succ]
      refine wpAnyH_ready (rs := [1]) (by kernel_rfl) (by simp) ?_
      refine cons' rfl (fun KK hKK => ?_)
      go_simp
      refine (GTA.out _ hB).mono ?_
      rintro e v11 ⟨p11, q11, rfl, b11, t11⟩
      have bC := b11
      replace hB := hB.trans (bC.mono hB.size)
      replace bW := bW.trans (bC.mono bW.size)
      replace y0 := below_cell bC y0
      replace y1 := below_cell bC y1
      replace y2 := below_cell bC y2
      replace yR := below_row bC yR
      replace hHeld := (⟨below_cell bC hHeld.1, below_cell bC hHeld.2.1, below_cell bC hHeld.2.2.1, below_cell bC hHeld.2.2.2.1, below_cell bC hHeld.2.2.2.2.1, below_cell bC hHeld.2.2.2.2.2⟩ : _ ∧ _ ∧ _ ∧ _ ∧ _ ∧ _)
      clear bC
      go_wp2_with fail
      clear b11
      refine hKK.out _ _ hHeld ?_
      clear hHeld
      intro hHeld
      clear hKK KK
      try simp only [Act.put, List.setIfInBounds_toArray, List.set_cons_zero, List.set_cons_succ]
      refine wpAnyH_ready (rs := [3]) (by kernel_rfl) (by simp) ?_
      refine cons' rfl (fun KK hKK => ?_)
      go_simp
      refine (GTB.out _ hB).mono ?_
      rintro e v12 ⟨p12, q12, rfl, b12, t12⟩
      have bC := b12
      replace t11 := t11.on bC
      replace hB := hB.trans (bC.mono hB.size)
      replace bW := bW.trans (bC.mono bW.size)
      replace y0 := below_cell bC y0
      replace y1 := below_cell bC y1
      replace y2 := below_cell bC y2
      replace yR := below_row bC yR
      replace hHeld := (⟨below_cell bC hHeld.1, below_cell bC hHeld.2.1, below_cell bC hHeld.2.2.1, below_cell bC hHeld.2.2.2.1, below_cell bC hHeld.2.2.2.2.1, below_cell bC hHeld.2.2.2.2.2⟩ : _ ∧ _ ∧ _ ∧ _ ∧ _ ∧ _)
      clear bC
      go_wp2_with fail
      clear b12
      refine hKK.out _ _ hHeld ?_
      clear hHeld
      intro hHeld
      clear hKK KK
      try simp only [Act.put, List.setIfInBounds_toArray, List.set_cons_zero, List.set_cons_succ]
      refine wpAnyH_ready (rs := [4]) (by kernel_rfl) (by simp) ?_
      refine cons' rfl (fun KK hKK => ?_)
      go_simp
      refine (addQ (twR A p11 q11) (twR B p12 q12) S _ t11 t12 ⟨sA.1, sA.2, sB.1, sB.2⟩ eS.out zS.out).mono ?_
      rintro e v13 ⟨p13, q13, rfl, b13, r13⟩
      have bC := b13
      replace t11 := t11.on bC
      replace t12 := t12.on bC
      replace hB := hB.trans (bC.mono hB.size)
      replace bW := bW.trans (bC.mono bW.size)
      replace y0 := below_cell bC y0
      replace y1 := below_cell bC y1
      replace y2 := below_cell bC y2
      replace yR := below_row bC yR
      replace hHeld := (⟨below_cell bC hHeld.1, below_cell bC hHeld.2.1, below_cell bC hHeld.2.2.1, below_cell bC hHeld.2.2.2.1, below_cell bC hHeld.2.2.2.2.1, below_cell bC hHeld.2.2.2.2.2⟩ : _ ∧ _ ∧ _ ∧ _ ∧ _ ∧ _)
      clear bC
      go_wp2_with fail
      clear b13
      clear t11
      clear t12
      refine hKK.out _ _ hHeld ?_
      clear hHeld
      intro hHeld
      clear hKK KK
      try simp only [Act.put, List.setIfInBounds_toArray, List.set_cons_zero, List.set_cons_succ]
      refine wpAnyH_ready (rs := [6]) (by kernel_rfl) (by simp) ?_
      refine cons' rfl (fun KK hKK => ?_)
      have fz := fun o => yR.frozen o
      have kA := st3_at (u0 := .bool (ng S.num)) (u1 := .slice p13 (ln (am S.num)) (ln (am S.num))) (u2 := .slice q13 (ln S.den) (ln S.den)) y0 y1 y2
      have kO := st3_ok (u0 := .bool (ng S.num)) (u1 := .slice p13 (ln (am S.num)) (ln (am S.num))) (u2 := .slice q13 (ln S.den) (ln S.den)) r13 y0 y1 y2
      have kB := st3_bel (u0 := .bool (ng S.num)) (u1 := .slice p13 (ln (am S.num)) (ln (am S.num))) (u2 := .slice q13 (ln S.den) (ln S.den)) bW yb
      have hH2 := (⟨st3_far (c := w0.heap.size) (u0 := .bool (ng S.num)) (u1 := .slice p13 (ln (am S.num)) (ln (am S.num))) (u2 := .slice q13 (ln S.den) (ln S.den)) hHeld.1 (by have := hs4; omega), st3_far (c := w0.heap.size) (u0 := .bool (ng S.num)) (u1 := .slice p13 (ln (am S.num)) (ln (am S.num))) (u2 := .slice q13 (ln S.den) (ln S.den)) hHeld.2.1 (by have := hs4; omega), st3_far (c := w0.heap.size) (u0 := .bool (ng S.num)) (u1 := .slice p13 (ln (am S.num)) (ln (am S.num))) (u2 := .slice q13 (ln S.den) (ln S.den)) hHeld.2.2.1 (by have := hs4; omega), st3_far (c := w0.heap.size) (u0 := .bool (ng S.num)) (u1 := .slice p13 (ln (am S.num)) (ln (am S.num))) (u2 := .slice q13 (ln S.den) (ln S.den)) hHeld.2.2.2.1 (by have := hs4; omega), st3_far (c := w0.heap.size) (u0 := .bool (ng S.num)) (u1 := .slice p13 (ln (am S.num)) (ln (am S.num))) (u2 := .slice q13 (ln S.den) (ln S.den)) hHeld.2.2.2.2.1 (by have := hs4; omega), st3_far (c := w0.heap.size) (u0 := .bool (ng S.num)) (u1 := .slice p13 (ln (am S.num)) (ln (am S.num))) (u2 := .slice q13 (ln S.den) (ln S.den)) hHeld.2.2.2.2.2 (by have := hs4; omega)⟩ : _ ∧ _ ∧ _ ∧ _ ∧ _ ∧ _)
      unfold st3 at kA kB hH2 kO
      go_simp
      refine hKK.out _ _ hH2 ?_
      clear hHeld
      intro hHeld
      clear hKK KK
      try simp only [Act.put, List.setIfInBounds_toArray, List.set_cons_zero, List.set_cons_succ]
      refine wpAnyH_done (by kernel_rfl) ?_ _
      go_wp2_with fail
      go_meet
      exact ⟨_, _, _, rfl, yb, kA.1, kA.2.1, kA.2.2, kO, kB⟩
    exact AllReadyH.nil
  case rest =>
  obtain ⟨csc, csp, csq, rfl, csge, cs0, cs1, cs2, okcs, bW⟩ := hcut
  replace ca0 := below_cell bW ca0
  replace ca1 := below_cell bW ca1
  replace ca2 := below_cell bW ca2
  replace cb0 := below_cell bW cb0
  replace cb1 := below_cell bW cb1
  replace cb2 := below_cell bW cb2
  replace cc0 := below_cell bW cc0
  replace cc1 := below_cell bW cc1
  replace cc2 := below_cell bW cc2
  replace cn0 := below_cell bW cn0
  replace cn1 := below_cell bW cn1
  replace cn2 := below_cell bW cn2
  replace okN := okN.on bW
  have hsz := bW.size
  replace hB := hB.trans (bW.mono hB.size)
  replace hs4 := Nat.le_trans hs4 hsz
  clear bW hsz
  go_wp2_with fail
  have hs6 : w.heap.size + 1 + 1 < wc.heap.size := World.block_lt_of_cell? wc _ cc0
  replace hs4 : w.heap.size + 3 ≤ wc.heap.size := by omega
  clear hs6
  have bW : Below wc.heap.size wc wc := Below.refl _ _
  go_cut [9] from 23 to 27 (fun s9_ wx => ∃ c p q, s9_ = .pointer (some ⟨c, 0, none⟩) ∧ wc.heap.size ≤ c ∧ wx.cell? ⟨c, 0, none⟩ = some (.bool (ng M.num)) ∧ wx.cell? ⟨c, 1, none⟩ = some (.slice p (ln (am M.num)) (ln (am M.num))) ∧ wx.cell? ⟨c, 2, none⟩ = some (.slice q (ln M.den) (ln M.den)) ∧ (nR M p q).ok wx ∧ Below wc.heap.size wc wx)
  case first =>
    have bD : Below wc.heap.size wc wc.drew := (Below.refl _ _).drew
    have kca0 := below_cell bD ca0
    have kca1 := below_cell bD ca1
    have kca2 := below_cell bD ca2
    have kcb0 := below_cell bD cb0
    have kcb1 := below_cell bD cb1
    have kcb2 := below_cell bD cb2
    replace hB := hB.trans (bD.mono hB.size)
    replace bW := bW.trans (bD.mono bW.size)
    refine wp_region_held_drew (S := fun w' => w'.cell? ⟨w.heap.size, 0, none⟩ = some (.bool A.s) ∧ w'.cell? ⟨w.heap.size, 1, none⟩ = some (.slice A.a A.n A.c) ∧ w'.cell? ⟨w.heap.size, 2, none⟩ = some (.slice A.b A.m A.e) ∧ w'.cell? ⟨w.heap.size + 1, 0, none⟩ = some (.bool B.s) ∧ w'.cell? ⟨w.heap.size + 1, 1, none⟩ = some (.slice B.a B.n B.c) ∧ w'.cell? ⟨w.heap.size + 1, 2, none⟩ = some (.slice B.b B.m B.e)) (by kernel_rfl) ⟨kca0, kca1, kca2, kcb0, kcb1, kcb2⟩ (fun hHeld => ?_)
    clear kca0 kca1 kca2 kcb0 kcb1 kcb2
    generalize wc.drew = w0 at bD hB bW hHeld ⊢
    refine take' 0 (v := ?_) rfl (by kernel_rfl) (by kernel_rfl) (by kernel_rfl) (fun _ _ _ h => h) (Or.inl ⟨by rfl, ?_⟩) (by assumption) ?_
    rotate_left
    · intro w9 hSw
      go_simp
      first | done | with_reducible rfl
    simp only [Act.put, List.setIfInBounds_toArray, List.set_cons_zero, List.set_cons_succ]
    refine take' 2 (v := ?_) rfl (by kernel_rfl) (by kernel_rfl) (by kernel_rfl) (fun _ _ _ h => h) (Or.inl ⟨by rfl, ?_⟩) (by assumption) ?_
    rotate_left
    · intro w9 hSw
      go_simp
      first | done | with_reducible rfl
    simp only [Act.put, List.setIfInBounds_toArray, List.set_cons_zero, List.set_cons_succ]
    refine wpAnyH_ready (rs := [1, 5]) (by kernel_rfl) (by simp) ?_
    refine consT rfl (fun KK hKK => ?_) ?_
    · skip
      go_simp
      refine (GTA.out _ hB).mono ?_
      rintro e v14 ⟨p14, q14, rfl, b14, t14⟩
      have bC := b14
      replace hB := hB.trans (bC.mono hB.size)
      replace bW := bW.trans (bC.mono bW.size)
      replace hHeld := (⟨below_cell bC hHeld.1, below_cell bC hHeld.2.1, below_cell bC hHeld.2.2.1, below_cell bC hHeld.2.2.2.1, below_cell bC hHeld.2.2.2.2.1, below_cell bC hHeld.2.2.2.2.2⟩ : _ ∧ _ ∧ _ ∧ _ ∧ _ ∧ _)
      clear bC
      go_wp2_with fail
      clear b14
      refine hKK.out _ _ hHeld ?_
      clear hHeld
      intro hHeld
      clear hKK KK
      try simp only [Act.put, List.setIfInBounds_toArray, List.set_cons_zero, List.set_cons_succ]
      refine wpAnyH_ready (rs := [3, 5]) (by kernel_rfl) (by simp) ?_
      refine consT rfl (fun KK hKK => ?_) ?_
      · skip
        go_simp
        refine (GTB.out _ hB).mono ?_
        rintro e v15 ⟨p15, q15, rfl, b15, t15⟩
        have bC := b15
        replace t14 := t14.on bC
        replace hB := hB.trans (bC.mono hB.size)
        replace bW := bW.trans (bC.mono bW.size)
        replace hHeld := (⟨below_cell bC hHeld.1, below_cell bC hHeld.2.1, below_cell bC hHeld.2.2.1, below_cell bC hHeld.2.2.2.1, below_cell bC hHeld.2.2.2.2.1, below_cell bC hHeld.2.2.2.2.2⟩ : _ ∧ _ ∧ _ ∧ _ ∧ _ ∧ _)
        clear bC
        go_wp2_with fail
        clear b15
        refine hKK.out _ _ hHeld ?_
        clear hHeld
        intro hHeld
        clear hKK KK
        try simp only [Act.put, List.setIfInBounds_toArray, List.set_cons_zero, List.set_cons_succ]
        refine wpAnyH_ready (rs := [4, 5]) (by kernel_rfl) (by simp) ?_
        refine consT rfl (fun KK hKK => ?_) ?_
        · skip
          go_simp
          refine (mulQ (twR A p14 q14) (twR B p15 q15) M _ t14 t15 ⟨sA.1, sA.2, sB.1, sB.2⟩ eM.out zM.out).mono ?_
          rintro e v16 ⟨p16, q16, rfl, b16, r16⟩
          have bC := b16
          replace t14 := t14.on bC
          replace t15 := t15.on bC
          replace hB := hB.trans (bC.mono hB.size)
          replace bW := bW.trans (bC.mono bW.size)
          replace hHeld := (⟨below_cell bC hHeld.1, below_cell bC hHeld.2.1, below_cell bC hHeld.2.2.1, below_cell bC hHeld.2.2.2.1, below_cell bC hHeld.2.2.2.2.1, below_cell bC hHeld.2.2.2.2.2⟩ : _ ∧ _ ∧ _ ∧ _ ∧ _ ∧ _)
          clear bC
          go_wp2_with fail
          clear b16
          clear t14
          clear t15
          refine hKK.out _ _ hHeld ?_
          clear hHeld
          intro hHeld
          clear hKK KK
          try simp only [Act.put, List.setIfInBounds_toArray, List.set_cons_zero, List.set_cons_succ]
          refine wpAnyH_ready (rs := [5]) (by kernel_rfl) (by simp) ?_
          refine cons' rfl (fun KK hKK => ?_)
          go_simp
          have y0 : (v16.alloc (.cells #[.bool false, .slice none 0 0, .slice none 0 0] 27)).cell? ⟨v16.heap.size, 0, none⟩ = some (.bool false) := by go_simp
          have y1 : (v16.alloc (.cells #[.bool false, .slice none 0 0, .slice none 0 0] 27)).cell? ⟨v16.heap.size, 1, none⟩ = some (.slice none 0 0) := by go_simp
          have y2 : (v16.alloc (.cells #[.bool false, .slice none 0 0, .slice none 0 0] 27)).cell? ⟨v16.heap.size, 2, none⟩ = some (.slice none 0 0) := by go_simp
          have yR := row_new v16 #[.bool false, .slice none 0 0, .slice none 0 0] 27
          have yb := bW.size
          have b3 := below_alloc (w := v16) (.cells #[.bool false, .slice none 0 0, .slice none 0 0] 27)
          generalize v16.alloc (.cells #[.bool false, .slice none 0 0, .slice none 0 0] 27) = x17 at y0 y1 y2 yR b3 ⊢
          replace r16 := r16.on b3
          replace hB := hB.trans (b3.mono hB.size)
          replace bW := bW.trans (b3.mono bW.size)
          replace hHeld := (⟨below_cell b3 hHeld.1, below_cell b3 hHeld.2.1, below_cell b3 hHeld.2.2.1, below_cell b3 hHeld.2.2.2.1, below_cell b3 hHeld.2.2.2.2.1, below_cell b3 hHeld.2.2.2.2.2⟩ : _ ∧ _ ∧ _ ∧ _ ∧ _ ∧ _)
          clear b3
          refine hKK.out _ _ hHeld ?_
          clear hHeld
          intro hHeld
          clear hKK KK
          try simp only [Act.put, List.setIfInBounds_toArray, List.set_cons_zero, List.set_cons_succ]
          refine wpAnyH_ready (rs := [6]) (by kernel_rfl) (by simp) ?_
          refine cons' rfl (fun KK hKK => ?_)
          have fz := fun o => yR.frozen o
          have kA := st3_at (u0 := .bool (ng M.num)) (u1 := .slice p16 (ln (am M.num)) (ln (am M.num))) (u2 := .slice q16 (ln M.den) (ln M.den)) y0 y1 y2
          have kO := st3_ok (u0 := .bool (ng M.num)) (u1 := .slice p16 (ln (am M.num)) (ln (am M.num))) (u2 := .slice q16 (ln M.den) (ln M.den)) r16 y0 y1 y2
          have kB := st3_bel (u0 := .bool (ng M.num)) (u1 := .slice p16 (ln (am M.num)) (ln (am M.num))) (u2 := .slice q16 (ln M.den) (ln M.den)) bW yb
          have hH2 := (⟨st3_far (c := v16.heap.size) (u0 := .bool (ng M.num)) (u1 := .slice p16 (ln (am M.num)) (ln (am M.num))) (u2 := .slice q16 (ln M.den) (ln M.den)) hHeld.1 (by have := hs4; omega), st3_far (c := v16.heap.size) (u0 := .bool (ng M.num)) (u1 := .slice p16 (ln (am M.num)) (ln (am M.num))) (u2 := .slice q16 (ln M.den) (ln M.den)) hHeld.2.1 (by have := hs4; omega), st3_far (c := v16.heap.size) (u0 := .bool (ng M.num)) (u1 := .slice p16 (ln (am M.num)) (ln (am M.num))) (u2 := .slice q16 (ln M.den) (ln M.den)) hHeld.2.2.1 (by have := hs4; omega), st3_far (c := v16.heap.size) (u0 := .bool (ng M.num)) (u1 := .slice p16 (ln (am M.num)) (ln (am M.num))) (u2 := .slice q16 (ln M.den) (ln M.den)) hHeld.2.2.2.1 (by have := hs4; omega), st3_far (c := v16.heap.size) (u0 := .bool (ng M.num)) (u1 := .slice p16 (ln (am M.num)) (ln (am M.num))) (u2 := .slice q16 (ln M.den) (ln M.den)) hHeld.2.2.2.2.1 (by have := hs4; omega), st3_far (c := v16.heap.size) (u0 := .bool (ng M.num)) (u1 := .slice p16 (ln (am M.num)) (ln (am M.num))) (u2 := .slice q16 (ln M.den) (ln M.den)) hHeld.2.2.2.2.2 (by have := hs4; omega)⟩ : _ ∧ _ ∧ _ ∧ _ ∧ _ ∧ _)
          unfold st3 at kA kB hH2 kO
          go_simp
          refine hKK.out _ _ hH2 ?_
          clear hHeld
          intro hHeld
          clear hKK KK
          try simp only [Act.put, List.setIfInBounds_toArray, List.set_cons_zero, List.set_cons_succ]
          refine wpAnyH_done (by kernel_rfl) ?_ _
          go_wp2_with fail
          go_meet
          exact ⟨_, _, _, rfl, yb, kA.1, kA.2.1, kA.2.2, kO, kB⟩
        refine consT rfl (fun KK hKK => ?_) ?_
        · skip
          go_simp
          have y0 : (v15.alloc (.cells #[.bool false, .slice none 0 0, .slice none 0 0] 27)).cell? ⟨v15.heap.size, 0, none⟩ = some (.bool false) := by go_simp
          have y1 : (v15.alloc (.cells #[.bool false, .slice none 0 0, .slice none 0 0] 27)).cell? ⟨v15.heap.size, 1, none⟩ = some (.slice none 0 0) := by go_simp
          have y2 : (v15.alloc (.cells #[.bool false, .slice none 0 0, .slice none 0 0] 27)).cell? ⟨v15.heap.size, 2, none⟩ = some (.slice none 0 0) := by go_simp
          have yR := row_new v15 #[.bool false, .slice none 0 0, .slice none 0 0] 27
          have yb := bW.size
          have b3 := below_alloc (w := v15) (.cells #[.bool false, .slice none 0 0, .slice none 0 0] 27)
          generalize v15.alloc (.cells #[.bool false, .slice none 0 0, .slice none 0 0] 27) = x18 at y0 y1 y2 yR b3 ⊢
          replace t14 := t14.on b3
          replace t15 := t15.on b3
          replace hB := hB.trans (b3.mono hB.size)
          replace bW := bW.trans (b3.mono bW.size)
          replace hHeld := (⟨below_cell b3 hHeld.1, below_cell b3 hHeld.2.1, below_cell b3 hHeld.2.2.1, below_cell b3 hHeld.2.2.2.1, below_cell b3 hHeld.2.2.2.2.1, below_cell b3 hHeld.2.2.2.2.2⟩ : _ ∧ _ ∧ _ ∧ _ ∧ _ ∧ _)
          clear b3
          refine hKK.out _ _ hHeld ?_
          clear hHeld
          intro hHeld
          clear hKK KK
          try simp only [Act.put, List.setIfInBounds_toArray, List.set_cons_zero, List.set_cons_succ]
          refine wpAnyH_ready (rs := [4]) (by kernel_rfl) (by simp) ?_
          refine cons' rfl (fun KK hKK => ?_)
          go_simp
          refine (mulQ (twR A p14 q14) (twR B p15 q15) M _ t14 t15 ⟨sA.1, sA.2, sB.1, sB.2⟩ eM.out zM.out).mono ?_
          rintro e v19 ⟨p19, q19, rfl, b19, r19⟩
          have bC := b19
          replace t14 := t14.on bC
          replace t15 := t15.on bC
          replace hB := hB.trans (bC.mono hB.size)
          replace bW := bW.trans (bC.mono bW.size)
          replace y0 := below_cell bC y0
          replace y1 := below_cell bC y1
          replace y2 := below_cell bC y2
          replace yR := below_row bC yR
          replace hHeld := (⟨below_cell bC hHeld.1, below_cell bC hHeld.2.1, below_cell bC hHeld.2.2.1, below_cell bC hHeld.2.2.2.1, below_cell bC hHeld.2.2.2.2.1, below_cell bC hHeld.2.2.2.2.2⟩ : _ ∧ _ ∧ _ ∧ _ ∧ _ ∧ _)
          clear bC
          go_wp2_with fail
          clear b19
          clear t14
          clear t15
          refine hKK.out _ _ hHeld ?_
          clear hHeld
          intro hHeld
          clear hKK KK
          try simp only [Act.put, List.setIfInBounds_toArray, List.set_cons_zero, List.set_cons_succ]
          refine wpAnyH_ready (rs := [6]) (by kernel_rfl) (by simp) ?_
          refine cons' rfl (fun KK hKK => ?_)
          have fz := fun o => yR.frozen o
          have kA := st3_at (u0 := .bool (ng M.num)) (u1 := .slice p19 (ln (am M.num)) (ln (am M.num))) (u2 := .slice q19 (ln M.den) (ln M.den)) y0 y1 y2
          have kO := st3_ok (u0 := .bool (ng M.num)) (u1 := .slice p19 (ln (am M.num)) (ln (am M.num))) (u2 := .slice q19 (ln M.den) (ln M.den)) r19 y0 y1 y2
          have kB := st3_bel (u0 := .bool (ng M.num)) (u1 := .slice p19 (ln (am M.num)) (ln (am M.num))) (u2 := .slice q19 (ln M.den) (ln M.den)) bW yb
          have hH2 := (⟨st3_far (c := v15.heap.size) (u0 := .bool (ng M.num)) (u1 := .slice p19 (ln (am M.num)) (ln (am M.num))) (u2 := .slice q19 (ln M.den) (ln M.den)) hHeld.1 (by have := hs4; omega), st3_far (c := v15.heap.size) (u0 := .bool (ng M.num)) (u1 := .slice p19 (ln (am M.num)) (ln (am M.num))) (u2 := .slice q19 (ln M.den) (ln M.den)) hHeld.2.1 (by have := hs4; omega), st3_far (c := v15.heap.size) (u0 := .bool (ng M.num)) (u1 := .slice p19 (ln (am M.num)) (ln (am M.num))) (u2 := .slice q19 (ln M.den) (ln M.den)) hHeld.2.2.1 (by have := hs4; omega), st3_far (c := v15.heap.size) (u0 := .bool (ng M.num)) (u1 := .slice p19 (ln (am M.num)) (ln (am M.num))) (u2 := .slice q19 (ln M.den) (ln M.den)) hHeld.2.2.2.1 (by have := hs4; omega), st3_far (c := v15.heap.size) (u0 := .bool (ng M.num)) (u1 := .slice p19 (ln (am M.num)) (ln (am M.num))) (u2 := .slice q19 (ln M.den) (ln M.den)) hHeld.2.2.2.2.1 (by have := hs4; omega), st3_far (c := v15.heap.size) (u0 := .bool (ng M.num)) (u1 := .slice p19 (ln (am M.num)) (ln (am M.num))) (u2 := .slice q19 (ln M.den) (ln M.den)) hHeld.2.2.2.2.2 (by have := hs4; omega)⟩ : _ ∧ _ ∧ _ ∧ _ ∧ _ ∧ _)
          unfold st3 at kA kB hH2 kO
          go_simp
          refine hKK.out _ _ hH2 ?_
          clear hHeld
          intro hHeld
          clear hKK KK
          try simp only [Act.put, List.setIfInBounds_toArray, List.set_cons_zero, List.set_cons_succ]
          refine wpAnyH_done (by kernel_rfl) ?_ _
          go_wp2_with fail
          go_meet
          exact ⟨_, _, _, rfl, yb, kA.1, kA.2.1, kA.2.2, kO, kB⟩
        exact AllReadyH.nil
      refine consT rfl (fun KK hKK => ?_) ?_
      · skip
        go_simp
        have y0 : (v14.alloc (.cells #[.bool false, .slice none 0 0, .slice none 0 0] 27)).cell? ⟨v14.heap.size, 0, none⟩ = some (.bool false) := by go_simp
        have y1 : (v14.alloc (.cells #[.bool false, .slice none 0 0, .slice none 0 0] 27)).cell? ⟨v14.heap.size, 1, none⟩ = some (.slice none 0 0) := by go_simp
        have y2 : (v14.alloc (.cells #[.bool false, .slice none 0 0, .slice none 0 0] 27)).cell? ⟨v14.heap.size, 2, none⟩ = some (.slice none 0 0) := by go_simp
        have yR := row_new v14 #[.bool false, .slice none 0 0, .slice none 0 0] 27
        have yb := bW.size
        have b3 := below_alloc (w := v14) (.cells #[.bool false, .slice none 0 0, .slice none 0 0] 27)
        generalize v14.alloc (.cells #[.bool false, .slice none 0 0, .slice none 0 0] 27) = x20 at y0 y1 y2 yR b3 ⊢
        replace t14 := t14.on b3
        replace hB := hB.trans (b3.mono hB.size)
        replace bW := bW.trans (b3.mono bW.size)
        replace hHeld := (⟨below_cell b3 hHeld.1, below_cell b3 hHeld.2.1, below_cell b3 hHeld.2.2.1, below_cell b3 hHeld.2.2.2.1, below_cell b3 hHeld.2.2.2.2.1, below_cell b3 hHeld.2.2.2.2.2⟩ : _ ∧ _ ∧ _ ∧ _ ∧ _ ∧ _)
        clear b3
        refine hKK.out _ _ hHeld ?_
        clear hHeld
        intro hHeld
        clear hKK KK
        try simp only [Act.put, List.setIfInBounds_toArray, List.set_cons_zero, List.set_cons_succ]
        refine wpAnyH_ready (rs := [3]) (by kernel_rfl) (by simp) ?_
        refine cons' rfl (fun KK hKK => ?_)
        go_simp
        refine (GTB.out _ hB).mono ?_
        rintro e v21 ⟨p21, q21, rfl, b21, t21⟩
        have bC := b21
        replace t14 := t14.on bC
        replace hB := hB.trans (bC.mono hB.size)
        replace bW := bW.trans (bC.mono bW.size)
        replace y0 := below_cell bC y0
        replace y1 := below_cell bC y1
        replace y2 := below_cell bC y2
        replace yR := below_row bC yR
        replace hHeld := (⟨below_cell bC hHeld.1, below_cell bC hHeld.2.1, below_cell bC hHeld.2.2.1, below_cell bC hHeld.2.2.2.1, below_cell bC hHeld.2.2.2.2.1, below_cell bC hHeld.2.2.2.2.2⟩ : _ ∧ _ ∧ _ ∧ _ ∧ _ ∧ _)
        clear bC
        go_wp2_with fail
        clear b21
        refine hKK.out _ _ hHeld ?_
        clear hHeld
        intro hHeld
        clear hKK KK
        try simp only [Act.put, List.setIfInBounds_toArray, List.set_cons_zero, List.set_cons_succ]
        refine wpAnyH_ready (rs := [4]) (by kernel_rfl) (by simp) ?_
        refine cons' rfl (fun KK hKK => ?_)
        go_simp
        refine (mulQ (twR A p14 q14) (twR B p21 q21) M _ t14 t21 ⟨sA.1, sA.2, sB.1, sB.2⟩ eM.out zM.out).mono ?_
        rintro e v22 ⟨p22, q22, rfl, b22, r22⟩
        have bC := b22
        replace t14 := t14.on bC
        replace t21 := t21.on bC
        replace hB := hB.trans (bC.mono hB.size)
        replace bW := bW.trans (bC.mono bW.size)
        replace y0 := below_cell bC y0
        replace y1 := below_cell bC y1
        replace y2 := below_cell bC y2
        replace yR := below_row bC yR
        replace hHeld := (⟨below_cell bC hHeld.1, below_cell bC hHeld.2.1, below_cell bC hHeld.2.2.1, below_cell bC hHeld.2.2.2.1, below_cell bC hHeld.2.2.2.2.1, below_cell bC hHeld.2.2.2.2.2⟩ : _ ∧ _ ∧ _ ∧ _ ∧ _ ∧ _)
        clear bC
        go_wp2_with fail
        clear b22
        clear t14
        clear t21
        refine hKK.out _ _ hHeld ?_
        clear hHeld
        intro hHeld
        clear hKK KK
        try simp only [Act.put, List.setIfInBounds_toArray, List.set_cons_zero, List.set_cons_succ]
        refine wpAnyH_ready (rs := [6]) (by kernel_rfl) (by simp) ?_
        refine cons' rfl (fun KK hKK => ?_)
        have fz := fun o => yR.frozen o
        have kA := st3_at (u0 := .bool (ng M.num)) (u1 := .slice p22 (ln (am M.num)) (ln (am M.num))) (u2 := .slice q22 (ln M.den) (ln M.den)) y0 y1 y2
        have kO := st3_ok (u0 := .bool (ng M.num)) (u1 := .slice p22 (ln (am M.num)) (ln (am M.num))) (u2 := .slice q22 (ln M.den) (ln M.den)) r22 y0 y1 y2
        have kB := st3_bel (u0 := .bool (ng M.num)) (u1 := .slice p22 (ln (am M.num)) (ln (am M.num))) (u2 := .slice q22 (ln M.den) (ln M.den)) bW yb
        have hH2 := (⟨st3_far (c := v14.heap.size) (u0 := .bool (ng M.num)) (u1 := .slice p22 (ln (am M.num)) (ln (am M.num))) (u2 := .slice q22 (ln M.den) (ln M.den)) hHeld.1 (by have := hs4; omega), st3_far (c := v14.heap.size) (u0 := .bool (ng M.num)) (u1 := .slice p22 (ln (am M.num)) (ln (am M.num))) (u2 := .slice q22 (ln M.den) (ln M.den)) hHeld.2.1 (by have := hs4; omega), st3_far (c := v14.heap.size) (u0 := .bool (ng M.num)) (u1 := .slice p22 (ln (am M.num)) (ln (am M.num))) (u2 := .slice q22 (ln M.den) (ln M.den)) hHeld.2.2.1 (by have := hs4; omega), st3_far (c := v14.heap.size) (u0 := .bool (ng M.num)) (u1 := .slice p22 (ln (am M.num)) (ln (am M.num))) (u2 := .slice q22 (ln M.den) (ln M.den)) hHeld.2.2.2.1 (by have := hs4; omega), st3_far (c := v14.heap.size) (u0 := .bool (ng M.num)) (u1 := .slice p22 (ln (am M.num)) (ln (am M.num))) (u2 := .slice q22 (ln M.den) (ln M.den)) hHeld.2.2.2.2.1 (by have := hs4; omega), st3_far (c := v14.heap.size) (u0 := .bool (ng M.num)) (u1 := .slice p22 (ln (am M.num)) (ln (am M.num))) (u2 := .slice q22 (ln M.den) (ln M.den)) hHeld.2.2.2.2.2 (by have := hs4; omega)⟩ : _ ∧ _ ∧ _ ∧ _ ∧ _ ∧ _)
        unfold st3 at kA kB hH2 kO
        go_simp
        refine hKK.out _ _ hH2 ?_
        clear hHeld
        intro hHeld
        clear hKK KK
        try simp only [Act.put, List.setIfInBounds_toArray, List.set_cons_zero, List.set_cons_succ]
        refine wpAnyH_done (by kernel_rfl) ?_ _
        go_wp2_with fail
        go_meet
        exact ⟨_, _, _, rfl, yb, kA.1, kA.2.1, kA.2.2, kO, kB⟩
      exact AllReadyH.nil
    refine consT rfl (fun KK hKK => ?_) ?_
    · skip
      go_simp
      have y0 : (w0.alloc (.cells #[.bool false, .slice none 0 0, .slice none 0 0] 27)).cell? ⟨w0.heap.size, 0, none⟩ = some (.bool false) := by go_simp
      have y1 : (w0.alloc (.cells #[.bool false, .slice none 0 0, .slice none 0 0] 27)).cell? ⟨w0.heap.size, 1, none⟩ = some (.slice none 0 0) := by go_simp
      have y2 : (w0.alloc (.cells #[.bool false, .slice none 0 0, .slice none 0 0] 27)).cell? ⟨w0.heap.size, 2, none⟩ = some (.slice none 0 0) := by go_simp
      have yR := row_new w0 #[.bool false, .slice none 0 0, .slice none 0 0] 27
      have yb := bW.size
      have b3 := below_alloc (w := w0) (.cells #[.bool false, .slice none 0 0, .slice none 0 0] 27)
      generalize w0.alloc (.cells #[.bool false, .slice none 0 0, .slice none 0 0] 27) = x23 at y0 y1 y2 yR b3 ⊢
      replace hB := hB.trans (b3.mono hB.size)
      replace bW := bW.trans (b3.mono bW.size)
      replace hHeld := (⟨below_cell b3 hHeld.1, below_cell b3 hHeld.2.1, below_cell b3 hHeld.2.2.1, below_cell b3 hHeld.2.2.2.1, below_cell b3 hHeld.2.2.2.2.1, below_cell b3 hHeld.2.2.2.2.2⟩ : _ ∧ _ ∧ _ ∧ _ ∧ _ ∧ _)
      clear b3
      refine hKK.out _ _ hHeld ?_
      clear hHeld
      intro hHeld
      clear hKK KK
      try simp only [Act.put, List.setIfInBounds_toArray, List.set_cons_zero, List.set_cons_succ]
      refine wpAnyH_ready (rs := [1]) (by kernel_rfl) (by simp) ?_
      refine cons' rfl (fun KK hKK => ?_)
      go_simp
      refine (GTA.out _ hB).mono ?_
      rintro e v24 ⟨p24, q24, rfl, b24, t24⟩
      have bC := b24
      replace hB := hB.trans (bC.mono hB.size)
      replace bW := bW.trans (bC.mono bW.size)
      replace y0 := below_cell bC y0
      replace y1 := below_cell bC y1
      replace y2 := below_cell bC y2
      replace yR := below_row bC yR
      replace hHeld := (⟨below_cell bC hHeld.1, below_cell bC hHeld.2.1, below_cell bC hHeld.2.2.1, below_cell bC hHeld.2.2.2.1, below_cell bC hHeld.2.2.2.2.1, below_cell bC hHeld.2.2.2.2.2⟩ : _ ∧ _ ∧ _ ∧ _ ∧ _ ∧ _)
      clear bC
      go_wp2_with fail
      clear b24
      refine hKK.out _ _ hHeld ?_
      clear hHeld
      intro hHeld
      clear hKK KK
      try simp only [Act.put, List.setIfInBounds_toArray, List.set_cons_zero, List.set_cons_succ]
      refine wpAnyH_ready (rs := [3]) (by kernel_rfl) (by simp) ?_
      refine cons' rfl (fun KK hKK => ?_)
      go_simp
      refine (GTB.out _ hB).mono ?_
      rintro e v25 ⟨p25, q25, rfl, b25, t25⟩
      have bC := b25
      replace t24 := t24.on bC
      replace hB := hB.trans (bC.mono hB.size)
      replace bW := bW.trans (bC.mono bW.size)
      replace y0 := below_cell bC y0
      replace y1 := below_cell bC y1
      replace y2 := below_cell bC y2
      replace yR := below_row bC yR
      replace hHeld := (⟨below_cell bC hHeld.1, below_cell bC hHeld.2.1, below_cell bC hHeld.2.2.1, below_cell bC hHeld.2.2.2.1, below_cell bC hHeld.2.2.2.2.1, below_cell bC hHeld.2.2.2.2.2⟩ : _ ∧ _ ∧ _ ∧ _ ∧ _ ∧ _)
      clear bC
      go_wp2_with fail
      clear b25
      refine hKK.out _ _ hHeld ?_
      clear hHeld
      intro hHeld
      clear hKK KK
      try simp only [Act.put, List.setIfInBounds_toArray, List.set_cons_zero, List.set_cons_succ]
      refine wpAnyH_ready (rs := [4]) (by kernel_rfl) (by simp) ?_
      refine cons' rfl (fun KK hKK => ?_)
      go_simp
      refine (mulQ (twR A p24 q24) (twR B p25 q25) M _ t24 t25 ⟨sA.1, sA.2, sB.1, sB.2⟩ eM.out zM.out).mono ?_
      rintro e v26 ⟨p26, q26, rfl, b26, r26⟩
      have bC := b26
      replace t24 := t24.on bC
      replace t25 := t25.on bC
      replace hB := hB.trans (bC.mono hB.size)
      replace bW := bW.trans (bC.mono bW.size)
      replace y0 := below_cell bC y0
      replace y1 := below_cell bC y1
      replace y2 := below_cell bC y2
      replace yR := below_row bC yR
      replace hHeld := (⟨below_cell bC hHeld.1, below_cell bC hHeld.2.1, below_cell bC hHeld.2.2.1, below_cell bC hHeld.2.2.2.1, below_cell bC hHeld.2.2.2.2.1, below_cell bC hHeld.2.2.2.2.2⟩ : _ ∧ _ ∧ _ ∧ _ ∧ _ ∧ _)
      clear bC
      go_wp2_with fail
      clear b26
      clear t24
      clear t25
      refine hKK.out _ _ hHeld ?_
      clear hHeld
      intro hHeld
      clear hKK KK
      try simp only [Act.put, List.setIfInBounds_toArray, List.set_cons_zero, List.set_cons_succ]
      refine wpAnyH_ready (rs := [6]) (by kernel_rfl) (by simp) ?_
      refine cons' rfl (fun KK hKK => ?_)
      have fz := fun o => yR.frozen o
      have kA := st3_at (u0 := .bool (ng M.num)) (u1 := .slice p26 (ln (am M.num)) (ln (am M.num))) (u2 := .slice q26 (ln M.den) (ln M.den)) y0 y1 y2
      have kO := st3_ok (u0 := .bool (ng M.num)) (u1 := .slice p26 (ln (am M.num)) (ln (am M.num))) (u2 := .slice q26 (ln M.den) (ln M.den)) r26 y0 y1 y2
      have kB := st3_bel (u0 := .bool (ng M.num)) (u1 := .slice p26 (ln (am M.num)) (ln (am M.num))) (u2 := .slice q26 (ln M.den) (ln M.den)) bW yb
      have hH2 := (⟨st3_far (c := w0.heap.size) (u0 := .bool (ng M.num)) (u1 := .slice p26 (ln (am M.num)) (ln (am M.num))) (u2 := .slice q26 (ln M.den) (ln M.den)) hHeld.1 (by have := hs4; omega), st3_far (c := w0.heap.size) (u0 := .bool (ng M.num)) (u1 := .slice p26 (ln (am M.num)) (ln (am M.num))) (u2 := .slice q26 (ln M.den) (ln M.den)) hHeld.2.1 (by have := hs4; omega), st3_far (c := w0.heap.size) (u0 := .bool (ng M.num)) (u1 := .slice p26 (ln (am M.num)) (ln (am M.num))) (u2 := .slice q26 (ln M.den) (ln M.den)) hHeld.2.2.1 (by have := hs4; omega), st3_far (c := w0.heap.size) (u0 := .bool (ng M.num)) (u1 := .slice p26 (ln (am M.num)) (ln (am M.num))) (u2 := .slice q26 (ln M.den) (ln M.den)) hHeld.2.2.2.1 (by have := hs4; omega), st3_far (c := w0.heap.size) (u0 := .bool (ng M.num)) (u1 := .slice p26 (ln (am M.num)) (ln (am M.num))) (u2 := .slice q26 (ln M.den) (ln M.den)) hHeld.2.2.2.2.1 (by have := hs4; omega), st3_far (c := w0.heap.size) (u0 := .bool (ng M.num)) (u1 := .slice p26 (ln (am M.num)) (ln (am M.num))) (u2 := .slice q26 (ln M.den) (ln M.den)) hHeld.2.2.2.2.2 (by have := hs4; omega)⟩ : _ ∧ _ ∧ _ ∧ _ ∧ _ ∧ _)
      unfold st3 at kA kB hH2 kO
      go_simp
      refine hKK.out _ _ hH2 ?_
      clear hHeld
      intro hHeld
      clear hKK KK
      try simp only [Act.put, List.setIfInBounds_toArray, List.set_cons_zero, List.set_cons_succ]
      refine wpAnyH_done (by kernel_rfl) ?_ _
      go_wp2_with fail
      go_meet
      exact ⟨_, _, _, rfl, yb, kA.1, kA.2.1, kA.2.2, kO, kB⟩
    exact AllReadyH.nil
  case rest =>
  obtain ⟨cmc, cmp, cmq, rfl, cmge, cm0, cm1, cm2, okcm, bW⟩ := hcut
  replace ca0 := below_cell bW ca0
  replace ca1 := below_cell bW ca1
  replace ca2 := below_cell bW ca2
  replace cb0 := below_cell bW cb0
  replace cb1 := below_cell bW cb1
  replace cb2 := below_cell bW cb2
  replace cc0 := below_cell bW cc0
  replace cc1 := below_cell bW cc1
  replace cc2 := below_cell bW cc2
  replace cn0 := below_cell bW cn0
  replace cn1 := below_cell bW cn1
  replace cn2 := below_cell bW cn2
  replace cs0 := below_cell bW cs0
  replace cs1 := below_cell bW cs1
  replace cs2 := below_cell bW cs2
  replace okN := okN.on bW
  replace okcs := okcs.on bW
  have hsz := bW.size
  replace hB := hB.trans (bW.mono hB.size)
  replace hs4 := Nat.le_trans hs4 hsz
  clear bW hsz
  go_wp2_with fail
  have hs5 : w.heap.size ≤ w.heap.size := Nat.le_refl _
  clear hs5
  have bD : Below wc.heap.size wc wc.drew := (Below.refl _ _).drew
  have kca0 := below_cell bD ca0
  have kca1 := below_cell bD ca1
  have kca2 := below_cell bD ca2
  have kcb0 := below_cell bD cb0
  have kcb1 := below_cell bD cb1
  have kcb2 := below_cell bD cb2
  have kcs0 := below_cell bD cs0
  have kcs1 := below_cell bD cs1
  have kcs2 := below_cell bD cs2
  have kcm0 := below_cell bD cm0
  have kcm1 := below_cell bD cm1
  have kcm2 := below_cell bD cm2
  replace okN := okN.on bD
  replace okcs := okcs.on bD
  replace okcm := okcm.on bD
  replace hB := hB.trans (bD.mono hB.size)
  replace cc0 := below_cell bD cc0
  replace cc1 := below_cell bD cc1
  replace cc2 := below_cell bD cc2
  replace cn0 := below_cell bD cn0
  replace cn1 := below_cell bD cn1
  replace cn2 := below_cell bD cn2
  refine wp_region_held_drew (S := fun w' => w'.cell? ⟨w.heap.size, 0, none⟩ = some (.bool A.s) ∧ w'.cell? ⟨w.heap.size, 1, none⟩ = some (.slice A.a A.n A.c) ∧ w'.cell? ⟨w.heap.size, 2, none⟩ = some (.slice A.b A.m A.e) ∧ w'.cell? ⟨w.heap.size + 1, 0, none⟩ = some (.bool B.s) ∧ w'.cell? ⟨w.heap.size + 1, 1, none⟩ = some (.slice B.a B.n B.c) ∧ w'.cell? ⟨w.heap.size + 1, 2, none⟩ = some (.slice B.b B.m B.e) ∧ w'.cell? ⟨csc, 0, none⟩ = some (.bool (ng S.num)) ∧ w'.cell? ⟨csc, 1, none⟩ = some (.slice csp (ln (am S.num)) (ln (am S.num))) ∧ w'.cell? ⟨csc, 2, none⟩ = some (.slice csq (ln S.den) (ln S.den)) ∧ w'.cell? ⟨cmc, 0, none⟩ = some (.bool (ng M.num)) ∧ w'.cell? ⟨cmc, 1, none⟩ = some (.slice cmp (ln (am M.num)) (ln (am M.num))) ∧ w'.cell? ⟨cmc, 2, none⟩ = some (.slice cmq (ln M.den) (ln M.den))) (by kernel_rfl) ⟨kca0, kca1, kca2, kcb0, kcb1, kcb2, kcs0, kcs1, kcs2, kcm0, kcm1, kcm2⟩ (fun hHeld => ?_)
  clear kca0 kca1 kca2 kcb0 kcb1 kcb2 kcs0 kcs1 kcs2 kcm0 kcm1 kcm2
  generalize wc.drew = wr27 at bD okN okcs okcm cc0 cc1 cc2 cn0 cn1 cn2 hB hHeld ⊢
  clear ca0 ca1 ca2 cb0 cb1 cb2 cs0 cs1 cs2 cm0 cm1 cm2
  refine take' 0 (v := ?_) rfl (by kernel_rfl) (by kernel_rfl) (by kernel_rfl) (fun _ _ _ h => h) (Or.inl ⟨by rfl, ?_⟩) (by assumption) ?_
  rotate_left
  · intro w9 hSw
    go_simp
    first | done | with_reducible rfl
  simp only [Act.put, List.setIfInBounds_toArray, List.set_cons_zero, List.set_cons_succ]
  refine take' 1 (v := ?_) rfl (by kernel_rfl) (by kernel_rfl) (by kernel_rfl) (fun _ _ _ h => h) (Or.inl ⟨by rfl, ?_⟩) (by assumption) ?_
  rotate_left
  · intro w9 hSw
    go_simp
    first | done | with_reducible rfl
  simp only [Act.put, List.setIfInBounds_toArray, List.set_cons_zero, List.set_cons_succ]
  refine take' 3 (v := ?_) rfl (by kernel_rfl) (by kernel_rfl) (by kernel_rfl) (fun _ _ _ h => h) (Or.inl ⟨by rfl, ?_⟩) (by assumption) ?_
  rotate_left
  · intro w9 hSw
    go_simp
    first | done | with_reducible rfl
  simp only [Act.put, List.setIfInBounds_toArray, List.set_cons_zero, List.set_cons_succ]
  refine wpAnyH_ready (rs := [2]) (by kernel_rfl) (by simp) ?_
  refine cons' rfl (fun KK hKK => ?_)
  go_simp
  refine (GTB.out _ hB).mono ?_
  rintro e v28 ⟨p28, q28, rfl, b28, t28⟩
  have bC := b28
  replace okN := okN.on bC
  replace okcs := okcs.on bC
  replace okcm := okcm.on bC
  replace hB := hB.trans (bC.mono hB.size)
  replace cc0 := below_cell bC cc0
  replace cc1 := below_cell bC cc1
  replace cc2 := below_cell bC cc2
  replace cn0 := below_cell bC cn0
  replace cn1 := below_cell bC cn1
  replace cn2 := below_cell bC cn2
  replace hHeld := (⟨below_cell bC hHeld.1, below_cell bC hHeld.2.1, below_cell bC hHeld.2.2.1, below_cell bC hHeld.2.2.2.1, below_cell bC hHeld.2.2.2.2.1, below_cell bC hHeld.2.2.2.2.2.1, below_cell bC hHeld.2.2.2.2.2.2.1, below_cell bC hHeld.2.2.2.2.2.2.2.1, below_cell bC hHeld.2.2.2.2.2.2.2.2.1, below_cell bC hHeld.2.2.2.2.2.2.2.2.2.1, below_cell bC hHeld.2.2.2.2.2.2.2.2.2.2.1, below_cell bC hHeld.2.2.2.2.2.2.2.2.2.2.2⟩ : _ ∧ _ ∧ _ ∧ _ ∧ _ ∧ _ ∧ _ ∧ _ ∧ _ ∧ _ ∧ _ ∧ _)
  clear bC
  go_wp2_with fail
  clear b28
  refine hKK.out _ _ hHeld ?_
  clear hHeld
  intro hHeld
  clear hKK KK
  try simp only [Act.put, List.setIfInBounds_toArray, List.set_cons_zero, List.set_cons_succ]
  refine wpAnyH_ready (rs := [4]) (by kernel_rfl) (by simp) ?_
  refine cons' rfl (fun KK hKK => ?_)
  go_simp
  refine (GTA.out _ hB).mono ?_
  rintro e v29 ⟨p29, q29, rfl, b29, t29⟩
  have bC := b29
  replace okN := okN.on bC
  replace okcs := okcs.on bC
  replace okcm := okcm.on bC
  replace t28 := t28.on bC
  replace hB := hB.trans (bC.mono hB.size)
  replace cc0 := below_cell bC cc0
  replace cc1 := below_cell bC cc1
  replace cc2 := below_cell bC cc2
  replace cn0 := below_cell bC cn0
  replace cn1 := below_cell bC cn1
  replace cn2 := below_cell bC cn2
  replace hHeld := (⟨below_cell bC hHeld.1, below_cell bC hHeld.2.1, below_cell bC hHeld.2.2.1, below_cell bC hHeld.2.2.2.1, below_cell bC hHeld.2.2.2.2.1, below_cell bC hHeld.2.2.2.2.2.1, below_cell bC hHeld.2.2.2.2.2.2.1, below_cell bC hHeld.2.2.2.2.2.2.2.1, below_cell bC hHeld.2.2.2.2.2.2.2.2.1, below_cell bC hHeld.2.2.2.2.2.2.2.2.2.1, below_cell bC hHeld.2.2.2.2.2.2.2.2.2.2.1, below_cell bC hHeld.2.2.2.2.2.2.2.2.2.2.2⟩ : _ ∧ _ ∧ _ ∧ _ ∧ _ ∧ _ ∧ _ ∧ _ ∧ _ ∧ _ ∧ _ ∧ _)
  clear bC
  go_wp2_with fail
  clear b29
  refine hKK.out _ _ hHeld ?_
  clear hHeld
  intro hHeld
  clear hKK KK
  try simp only [Act.put, List.setIfInBounds_toArray, List.set_cons_zero, List.set_cons_succ]
  refine wpAnyH_ready (rs := [5]) (by kernel_rfl) (by simp) ?_
  refine cons' rfl (fun KK hKK => ?_)
  go_simp
  refine (addQ (twR B p28 q28) (twR A p29 q29) S _ t28 t29 ⟨sB.1, sB.2, sA.1, sA.2⟩ fS.out zS.out).mono ?_
  rintro e v30 ⟨p30, q30, rfl, b30, r30⟩
  have bC := b30
  replace okN := okN.on bC
  replace okcs := okcs.on bC
  replace okcm := okcm.on bC
  replace t28 := t28.on bC
  replace t29 := t29.on bC
  replace hB := hB.trans (bC.mono hB.size)
  replace cc0 := below_cell bC cc0
  replace cc1 := below_cell bC cc1
  replace cc2 := below_cell bC cc2
  replace cn0 := below_cell bC cn0
  replace cn1 := below_cell bC cn1
  replace cn2 := below_cell bC cn2
  replace hHeld := (⟨below_cell bC hHeld.1, below_cell bC hHeld.2.1, below_cell bC hHeld.2.2.1, below_cell bC hHeld.2.2.2.1, below_cell bC hHeld.2.2.2.2.1, below_cell bC hHeld.2.2.2.2.2.1, below_cell bC hHeld.2.2.2.2.2.2.1, below_cell bC hHeld.2.2.2.2.2.2.2.1, below_cell bC hHeld.2.2.2.2.2.2.2.2.1, below_cell bC hHeld.2.2.2.2.2.2.2.2.2.1, below_cell bC hHeld.2.2.2.2.2.2.2.2.2.2.1, below_cell bC hHeld.2.2.2.2.2.2.2.2.2.2.2⟩ : _ ∧ _ ∧ _ ∧ _ ∧ _ ∧ _ ∧ _ ∧ _ ∧ _ ∧ _ ∧ _ ∧ _)
  clear bC
  go_wp2_with fail
  clear b30
  clear t28
  clear t29
  refine hKK.out _ _ hHeld ?_
  clear hHeld
  intro hHeld
  clear hKK KK
  try simp only [Act.put, List.setIfInBounds_toArray, List.set_cons_zero, List.set_cons_succ]
  refine wpAnyH_ready (rs := [6]) (by kernel_rfl) (by simp) ?_
  refine cons' rfl (fun KK hKK => ?_)
  go_simp
  refine (sameQ S _ _ _ _ _ okcs r30).mono ?_
  rintro e v31 ⟨rfl, b31⟩
  have bC := b31
  replace okN := okN.on bC
  replace okcs := okcs.on bC
  replace okcm := okcm.on bC
  replace r30 := r30.on bC
  replace hB := hB.trans (bC.mono hB.size)
  replace cc0 := below_cell bC cc0
  replace cc1 := below_cell bC cc1
  replace cc2 := below_cell bC cc2
  replace cn0 := below_cell bC cn0
  replace cn1 := below_cell bC cn1
  replace cn2 := below_cell bC cn2
  replace hHeld := (⟨below_cell bC hHeld.1, below_cell bC hHeld.2.1, below_cell bC hHeld.2.2.1, below_cell bC hHeld.2.2.2.1, below_cell bC hHeld.2.2.2.2.1, below_cell bC hHeld.2.2.2.2.2.1, below_cell bC hHeld.2.2.2.2.2.2.1, below_cell bC hHeld.2.2.2.2.2.2.2.1, below_cell bC hHeld.2.2.2.2.2.2.2.2.1, below_cell bC hHeld.2.2.2.2.2.2.2.2.2.1, below_cell bC hHeld.2.2.2.2.2.2.2.2.2.2.1, below_cell bC hHeld.2.2.2.2.2.2.2.2.2.2.2⟩ : _ ∧ _ ∧ _ ∧ _ ∧ _ ∧ _ ∧ _ ∧ _ ∧ _ ∧ _ ∧ _ ∧ _)
  clear bC
  go_wp2_with fail
  clear b31
  clear r30
  refine hKK.out _ _ hHeld ?_
  clear hHeld
  intro hHeld
  clear hKK KK
  try simp only [Act.put, List.setIfInBounds_toArray, List.set_cons_zero, List.set_cons_succ]
  refine take' 7 (v := ?_) rfl (by kernel_rfl) (by kernel_rfl) (by kernel_rfl) (fun _ _ _ h => h) (Or.inl ⟨by rfl, ?_⟩) (by assumption) ?_
  rotate_left
  · intro w9 hSw
    go_simp
    first | done | with_reducible rfl
  simp only [Act.put, List.setIfInBounds_toArray, List.set_cons_zero, List.set_cons_succ]
  refine take' 8 (v := ?_) rfl (by kernel_rfl) (by kernel_rfl) (by kernel_rfl) (fun _ _ _ h => h) (Or.inl ⟨by rfl, ?_⟩) (by assumption) ?_
  rotate_left
  · intro w9 hSw
    go_simp
    first | done | with_reducible rfl
  simp only [Act.put, List.setIfInBounds_toArray, List.set_cons_zero, List.set_cons_succ]
  refine take' 9 (v := ?_) rfl (by kernel_rfl) (by kernel_rfl) (by kernel_rfl) (fun _ _ _ h => h) (Or.inl ⟨by rfl, ?_⟩) (by assumption) ?_
  rotate_left
  · intro w9 hSw
    go_simp
    first | done | with_reducible rfl
  simp only [Act.put, List.setIfInBounds_toArray, List.set_cons_zero, List.set_cons_succ]
  refine take' 10 (v := ?_) rfl (by kernel_rfl) (by kernel_rfl) (by kernel_rfl) (fun _ _ _ h => h) (Or.inl ⟨by rfl, ?_⟩) (by assumption) ?_
  rotate_left
  · intro w9 hSw
    go_simp
    first | done | with_reducible rfl
  simp only [Act.put, List.setIfInBounds_toArray, List.set_cons_zero, List.set_cons_succ]
  refine take' 12 (v := ?_) rfl (by kernel_rfl) (by kernel_rfl) (by kernel_rfl) (fun _ _ _ h => h) (Or.inl ⟨by rfl, ?_⟩) (by assumption) ?_
  rotate_left
  · intro w9 hSw
    go_simp
    first | done | with_reducible rfl
  simp only [Act.put, List.setIfInBounds_toArray, List.set_cons_zero, List.set_cons_succ]
  refine wpAnyH_ready (rs := [11]) (by kernel_rfl) (by simp) ?_
  refine cons' rfl (fun KK hKK => ?_)
  go_simp
  refine (GTB.out _ hB).mono ?_
  rintro e v32 ⟨p32, q32, rfl, b32, t32⟩
  have bC := b32
  replace okN := okN.on bC
  replace okcs := okcs.on bC
  replace okcm := okcm.on bC
  replace hB := hB.trans (bC.mono hB.size)
  replace cc0 := below_cell bC cc0
  replace cc1 := below_cell bC cc1
  replace cc2 := below_cell bC cc2
  replace cn0 := below_cell bC cn0
  replace cn1 := below_cell bC cn1
  replace cn2 := below_cell bC cn2
  replace hHeld := (⟨below_cell bC hHeld.1, below_cell bC hHeld.2.1, below_cell bC hHeld.2.2.1, below_cell bC hHeld.2.2.2.1, below_cell bC hHeld.2.2.2.2.1, below_cell bC hHeld.2.2.2.2.2.1, below_cell bC hHeld.2.2.2.2.2.2.1, below_cell bC hHeld.2.2.2.2.2.2.2.1, below_cell bC hHeld.2.2.2.2.2.2.2.2.1, below_cell bC hHeld.2.2.2.2.2.2.2.2.2.1, below_cell bC hHeld.2.2.2.2.2.2.2.2.2.2.1, below_cell bC hHeld.2.2.2.2.2.2.2.2.2.2.2⟩ : _ ∧ _ ∧ _ ∧ _ ∧ _ ∧ _ ∧ _ ∧ _ ∧ _ ∧ _ ∧ _ ∧ _)
  clear bC
  go_wp2_with fail
  clear b32
  refine hKK.out _ _ hHeld ?_
  clear hHeld
  intro hHeld
  clear hKK KK
  try simp only [Act.put, List.setIfInBounds_toArray, List.set_cons_zero, List.set_cons_succ]
  refine wpAnyH_ready (rs := [13]) (by kernel_rfl) (by simp) ?_
  refine cons' rfl (fun KK hKK => ?_)
  go_simp
  refine (GTA.out _ hB).mono ?_
  rintro e v33 ⟨p33, q33, rfl, b33, t33⟩
  have bC := b33
  replace okN := okN.on bC
  replace okcs := okcs.on bC
  replace okcm := okcm.on bC
  replace t32 := t32.on bC
  replace hB := hB.trans (bC.mono hB.size)
  replace cc0 := below_cell bC cc0
  replace cc1 := below_cell bC cc1
  replace cc2 := below_cell bC cc2
  replace cn0 := below_cell bC cn0
  replace cn1 := below_cell bC cn1
  replace cn2 := below_cell bC cn2
  replace hHeld := (⟨below_cell bC hHeld.1, below_cell bC hHeld.2.1, below_cell bC hHeld.2.2.1, below_cell bC hHeld.2.2.2.1, below_cell bC hHeld.2.2.2.2.1, below_cell bC hHeld.2.2.2.2.2.1, below_cell bC hHeld.2.2.2.2.2.2.1, below_cell bC hHeld.2.2.2.2.2.2.2.1, below_cell bC hHeld.2.2.2.2.2.2.2.2.1, below_cell bC hHeld.2.2.2.2.2.2.2.2.2.1, below_cell bC hHeld.2.2.2.2.2.2.2.2.2.2.1, below_cell bC hHeld.2.2.2.2.2.2.2.2.2.2.2⟩ : _ ∧ _ ∧ _ ∧ _ ∧ _ ∧ _ ∧ _ ∧ _ ∧ _ ∧ _ ∧ _ ∧ _)
  clear bC
  go_wp2_with fail
  clear b33
  refine hKK.out _ _ hHeld ?_
  clear hHeld
  intro hHeld
  clear hKK KK
  try simp only [Act.put, List.setIfInBounds_toArray, List.set_cons_zero, List.set_cons_succ]
  refine wpAnyH_ready (rs := [14]) (by kernel_rfl) (by simp) ?_
  refine cons' rfl (fun KK hKK => ?_)
  go_simp
  refine (mulQ (twR B p32 q32) (twR A p33 q33) M _ t32 t33 ⟨sB.1, sB.2, sA.1, sA.2⟩ fM.out zM.out).mono ?_
  rintro e v34 ⟨p34, q34, rfl, b34, r34⟩
  have bC := b34
  replace okN := okN.on bC
  replace okcs := okcs.on bC
  replace okcm := okcm.on bC
  replace t32 := t32.on bC
  replace t33 := t33.on bC
  replace hB := hB.trans (bC.mono hB.size)
  replace cc0 := below_cell bC cc0
  replace cc1 := below_cell bC cc1
  replace cc2 := below_cell bC cc2
  replace cn0 := below_cell bC cn0
  replace cn1 := below_cell bC cn1
  replace cn2 := below_cell bC cn2
  replace hHeld := (⟨below_cell bC hHeld.1, below_cell bC hHeld.2.1, below_cell bC hHeld.2.2.1, below_cell bC hHeld.2.2.2.1, below_cell bC hHeld.2.2.2.2.1, below_cell bC hHeld.2.2.2.2.2.1, below_cell bC hHeld.2.2.2.2.2.2.1, below_cell bC hHeld.2.2.2.2.2.2.2.1, below_cell bC hHeld.2.2.2.2.2.2.2.2.1, below_cell bC hHeld.2.2.2.2.2.2.2.2.2.1, below_cell bC hHeld.2.2.2.2.2.2.2.2.2.2.1, below_cell bC hHeld.2.2.2.2.2.2.2.2.2.2.2⟩ : _ ∧ _ ∧ _ ∧ _ ∧ _ ∧ _ ∧ _ ∧ _ ∧ _ ∧ _ ∧ _ ∧ _)
  clear bC
  go_wp2_with fail
  clear b34
  clear t32
  clear t33
  refine hKK.out _ _ hHeld ?_
  clear hHeld
  intro hHeld
  clear hKK KK
  try simp only [Act.put, List.setIfInBounds_toArray, List.set_cons_zero, List.set_cons_succ]
  refine wpAnyH_ready (rs := [15]) (by kernel_rfl) (by simp) ?_
  refine cons' rfl (fun KK hKK => ?_)
  go_simp
  refine (sameQ M _ _ _ _ _ okcm r34).mono ?_
  rintro e v35 ⟨rfl, b35⟩
  have bC := b35
  replace okN := okN.on bC
  replace okcs := okcs.on bC
  replace okcm := okcm.on bC
  replace r34 := r34.on bC
  replace hB := hB.trans (bC.mono hB.size)
  replace cc0 := below_cell bC cc0
  replace cc1 := below_cell bC cc1
  replace cc2 := below_cell bC cc2
  replace cn0 := below_cell bC cn0
  replace cn1 := below_cell bC cn1
  replace cn2 := below_cell bC cn2
  replace hHeld := (⟨below_cell bC hHeld.1, below_cell bC hHeld.2.1, below_cell bC hHeld.2.2.1, below_cell bC hHeld.2.2.2.1, below_cell bC hHeld.2.2.2.2.1, below_cell bC hHeld.2.2.2.2.2.1, below_cell bC hHeld.2.2.2.2.2.2.1, below_cell bC hHeld.2.2.2.2.2.2.2.1, below_cell bC hHeld.2.2.2.2.2.2.2.2.1, below_cell bC hHeld.2.2.2.2.2.2.2.2.2.1, below_cell bC hHeld.2.2.2.2.2.2.2.2.2.2.1, below_cell bC hHeld.2.2.2.2.2.2.2.2.2.2.2⟩ : _ ∧ _ ∧ _ ∧ _ ∧ _ ∧ _ ∧ _ ∧ _ ∧ _ ∧ _ ∧ _ ∧ _)
  clear bC
  go_wp2_with fail
  clear b35
  clear r34
  refine hKK.out _ _ hHeld ?_
  clear hHeld
  intro hHeld
  clear hKK KK
  try simp only [Act.put, List.setIfInBounds_toArray, List.set_cons_zero, List.set_cons_succ]
  refine take' 16 (v := ?_) rfl (by kernel_rfl) (by kernel_rfl) (by kernel_rfl) (fun _ _ _ h => h) (Or.inl ⟨by rfl, ?_⟩) (by assumption) ?_
  rotate_left
  · intro w9 hSw
    go_simp
    first | done | with_reducible rfl
  simp only [Act.put, List.setIfInBounds_toArray, List.set_cons_zero, List.set_cons_succ]
  refine take' 17 (v := ?_) rfl (by kernel_rfl) (by kernel_rfl) (by kernel_rfl) (fun _ _ _ h => h) (Or.inl ⟨by rfl, ?_⟩) (by assumption) ?_
  rotate_left
  · intro w9 hSw
    go_simp
    first | done | with_reducible rfl
  simp only [Act.put, List.setIfInBounds_toArray, List.set_cons_zero, List.set_cons_succ]
  refine wpAnyH_done (by kernel_rfl) ?_ _
  go_wp2_with fail
  have ca0 := hHeld.1
  have ca1 := hHeld.2.1
  have ca2 := hHeld.2.2.1
  have cb0 := hHeld.2.2.2.1
  have cb1 := hHeld.2.2.2.2.1
  have cb2 := hHeld.2.2.2.2.2.1
  have cs0 := hHeld.2.2.2.2.2.2.1
  have cs1 := hHeld.2.2.2.2.2.2.2.1
  have cs2 := hHeld.2.2.2.2.2.2.2.2.1
  have cm0 := hHeld.2.2.2.2.2.2.2.2.2.1
  have cm1 := hHeld.2.2.2.2.2.2.2.2.2.2.1
  have cm2 := hHeld.2.2.2.2.2.2.2.2.2.2.2
  clear hHeld
  have hs5 : w.heap.size ≤ w.heap.size := Nat.le_refl _
  clear hs5
  have bD : Below v35.heap.size v35 v35.drew := (Below.refl _ _).drew
  have kca0 := below_cell bD ca0
  have kca1 := below_cell bD ca1
  have kca2 := below_cell bD ca2
  have kcb0 := below_cell bD cb0
  have kcb1 := below_cell bD cb1
  have kcb2 := below_cell bD cb2
  have kcc0 := below_cell bD cc0
  have kcc1 := below_cell bD cc1
  have kcc2 := below_cell bD cc2
  have kcs0 := below_cell bD cs0
  have kcs1 := below_cell bD cs1
  have kcs2 := below_cell bD cs2
  have kcm0 := below_cell bD cm0
  have kcm1 := below_cell bD cm1
  have kcm2 := below_cell bD cm2
  replace okN := okN.on bD
  replace okcs := okcs.on bD
  replace okcm := okcm.on bD
  replace hB := hB.trans (bD.mono hB.size)
  replace cn0 := below_cell bD cn0
  replace cn1 := below_cell bD cn1
  replace cn2 := below_cell bD cn2
  refine wp_region_held_drew (S := fun w' => w'.cell? ⟨w.heap.size, 0, none⟩ = some (.bool A.s) ∧ w'.cell? ⟨w.heap.size, 1, none⟩ = some (.slice A.a A.n A.c) ∧ w'.cell? ⟨w.heap.size, 2, none⟩ = some (.slice A.b A.m A.e) ∧ w'.cell? ⟨w.heap.size + 1, 0, none⟩ = some (.bool B.s) ∧ w'.cell? ⟨w.heap.size + 1, 1, none⟩ = some (.slice B.a B.n B.c) ∧ w'.cell? ⟨w.heap.size + 1, 2, none⟩ = some (.slice B.b B.m B.e) ∧ w'.cell? ⟨w.heap.size + 1 + 1, 0, none⟩ = some (.bool C.s) ∧ w'.cell? ⟨w.heap.size + 1 + 1, 1, none⟩ = some (.slice C.a C.n C.c) ∧ w'.cell? ⟨w.heap.size + 1 + 1, 2, none⟩ = some (.slice C.b C.m C.e) ∧ w'.cell? ⟨csc, 0, none⟩ = some (.bool (ng S.num)) ∧ w'.cell? ⟨csc, 1, none⟩ = some (.slice csp (ln (am S.num)) (ln (am S.num))) ∧ w'.cell? ⟨csc, 2, none⟩ = some (.slice csq (ln S.den) (ln S.den)) ∧ w'.cell? ⟨cmc, 0, none⟩ = some (.bool (ng M.num)) ∧ w'.cell? ⟨cmc, 1, none⟩ = some (.slice cmp (ln (am M.num)) (ln (am M.num))) ∧ w'.cell? ⟨cmc, 2, none⟩ = some (.slice cmq (ln M.den) (ln M.den))) (by kernel_rfl) ⟨kca0, kca1, kca2, kcb0, kcb1, kcb2, kcc0, kcc1, kcc2, kcs0, kcs1, kcs2, kcm0, kcm1, kcm2⟩ (fun hHeld => ?_)
  clear kca0 kca1 kca2 kcb0 kcb1 kcb2 kcc0 kcc1 kcc2 kcs0 kcs1 kcs2 kcm0 kcm1 kcm2
  generalize v35.drew = wr36 at bD okN okcs okcm cn0 cn1 cn2 hB hHeld ⊢
  clear ca0 ca1 ca2 cb0 cb1 cb2 cc0 cc1 cc2 cs0 cs1 cs2 cm0 cm1 cm2
  refine take' 0 (v := ?_) rfl (by kernel_rfl) (by kernel_rfl) (by kernel_rfl) (fun _ _ _ h => h) (Or.inl ⟨by rfl, ?_⟩) (by assumption) ?_
  rotate_left
  · intro w9 hSw
    go_simp
    first | done | with_reducible rfl
  simp only [Act.put, List.setIfInBounds_toArray, List.set_cons_zero, List.set_cons_succ]
  refine take' 1 (v := ?_) rfl (by kernel_rfl) (by kernel_rfl) (by kernel_rfl) (fun _ _ _ h => h) (Or.inl ⟨by rfl, ?_⟩) (by assumption) ?_
  rotate_left
  · intro w9 hSw
    go_simp
    first | done | with_reducible rfl
  simp only [Act.put, List.setIfInBounds_toArray, List.set_cons_zero, List.set_cons_succ]
  refine take' 4 (v := ?_) rfl (by kernel_rfl) (by kernel_rfl) (by kernel_rfl) (fun _ _ _ h => h) (Or.inl ⟨by rfl, ?_⟩) (by assumption) ?_
  rotate_left
  · intro w9 hSw
    go_simp
    first | done | with_reducible rfl
  simp only [Act.put, List.setIfInBounds_toArray, List.set_cons_zero, List.set_cons_succ]
  refine take' 6 (v := ?_) rfl (by kernel_rfl) (by kernel_rfl) (by kernel_rfl) (fun _ _ _ h => h) (Or.inl ⟨by rfl, ?_⟩) (by assumption) ?_
  rotate_left
  · intro w9 hSw
    go_simp
    first | done | with_reducible rfl
  simp only [Act.put, List.setIfInBounds_toArray, List.set_cons_zero, List.set_cons_succ]
  refine take' 8 (v := ?_) rfl (by kernel_rfl) (by kernel_rfl) (by kernel_rfl) (fun _ _ _ h => h) (Or.inl ⟨by rfl, ?_⟩) (by assumption) ?_
  rotate_left
  · intro w9 hSw
    go_simp
    first | done | with_reducible rfl
  simp only [Act.put, List.setIfInBounds_toArray, List.set_cons_zero, List.set_cons_succ]
  refine wpAnyH_ready (rs := [2]) (by kernel_rfl) (by simp) ?_
  refine cons' rfl (fun KK hKK => ?_)
  go_simp
  refine (GTC.out _ hB).mono ?_
  rintro e v37 ⟨p37, q37, rfl, b37, t37⟩
  have bC := b37
  replace okN := okN.on bC
  replace okcs := okcs.on bC
  replace okcm := okcm.on bC
  replace hB := hB.trans (bC.mono hB.size)
  replace cn0 := below_cell bC cn0
  replace cn1 := below_cell bC cn1
  replace cn2 := below_cell bC cn2
  replace hHeld := (⟨below_cell bC hHeld.1, below_cell bC hHeld.2.1, below_cell bC hHeld.2.2.1, below_cell bC hHeld.2.2.2.1, below_cell bC hHeld.2.2.2.2.1, below_cell bC hHeld.2.2.2.2.2.1, below_cell bC hHeld.2.2.2.2.2.2.1, below_cell bC hHeld.2.2.2.2.2.2.2.1, below_cell bC hHeld.2.2.2.2.2.2.2.2.1, below_cell bC hHeld.2.2.2.2.2.2.2.2.2.1, below_cell bC hHeld.2.2.2.2.2.2.2.2.2.2.1, below_cell bC hHeld.2.2.2.2.2.2.2.2.2.2.2.1, below_cell bC hHeld.2.2.2.2.2.2.2.2.2.2.2.2.1, below_cell bC hHeld.2.2.2.2.2.2.2.2.2.2.2.2.2.1, below_cell bC hHeld.2.2.2.2.2.2.2.2.2.2.2.2.2.2⟩ : _ ∧ _ ∧ _ ∧ _ ∧ _ ∧ _ ∧ _ ∧ _ ∧ _ ∧ _ ∧ _ ∧ _ ∧ _ ∧ _ ∧ _)
  clear bC
  go_wp2_with fail
  clear b37
  refine hKK.out _ _ hHeld ?_
  clear hHeld
  intro hHeld
  clear hKK KK
  try simp only [Act.put, List.setIfInBounds_toArray, List.set_cons_zero, List.set_cons_succ]
  refine wpAnyH_ready (rs := [3]) (by kernel_rfl) (by simp) ?_
  refine cons' rfl (fun KK hKK => ?_)
  go_simp
  refine (addQ (nR S csp csq) (twR C p37 q37) T _ okcs t37 ⟨zS.out.1, zS.out.2, sC.1, sC.2⟩ (by rw [nR_val]; exact eT.out) zT.out).mono ?_
  rintro e v38 ⟨p38, q38, rfl, b38, r38⟩
  have bC := b38
  replace okN := okN.on bC
  replace okcs := okcs.on bC
  replace okcm := okcm.on bC
  replace t37 := t37.on bC
  replace hB := hB.trans (bC.mono hB.size)
  replace cn0 := below_cell bC cn0
  replace cn1 := below_cell bC cn1
  replace cn2 := below_cell bC cn2
  replace hHeld := (⟨below_cell bC hHeld.1, below_cell bC hHeld.2.1, below_cell bC hHeld.2.2.1, below_cell bC hHeld.2.2.2.1, below_cell bC hHeld.2.2.2.2.1, below_cell bC hHeld.2.2.2.2.2.1, below_cell bC hHeld.2.2.2.2.2.2.1, below_cell bC hHeld.2.2.2.2.2.2.2.1, below_cell bC hHeld.2.2.2.2.2.2.2.2.1, below_cell bC hHeld.2.2.2.2.2.2.2.2.2.1, below_cell bC hHeld.2.2.2.2.2.2.2.2.2.2.1, below_cell bC hHeld.2.2.2.2.2.2.2.2.2.2.2.1, below_cell bC hHeld.2.2.2.2.2.2.2.2.2.2.2.2.1, below_cell bC hHeld.2.2.2.2.2.2.2.2.2.2.2.2.2.1, below_cell bC hHeld.2.2.2.2.2.2.2.2.2.2.2.2.2.2⟩ : _ ∧ _ ∧ _ ∧ _ ∧ _ ∧ _ ∧ _ ∧ _ ∧ _ ∧ _ ∧ _ ∧ _ ∧ _ ∧ _ ∧ _)
  clear bC
  go_wp2_with fail
  clear b38
  clear t37
  refine hKK.out _ _ hHeld ?_
  clear hHeld
  intro hHeld
  clear hKK KK
  try simp only [Act.put, List.setIfInBounds_toArray, List.set_cons_zero, List.set_cons_succ]
  refine wpAnyH_ready (rs := [5]) (by kernel_rfl) (by simp) ?_
  refine cons' rfl (fun KK hKK => ?_)
  go_simp
  refine (GTA.out _ hB).mono ?_
  rintro e v39 ⟨p39, q39, rfl, b39, t39⟩
  have bC := b39
  replace okN := okN.on bC
  replace okcs := okcs.on bC
  replace okcm := okcm.on bC
  replace r38 := r38.on bC
  replace hB := hB.trans (bC.mono hB.size)
  replace cn0 := below_cell bC cn0
  replace cn1 := below_cell bC cn1
  replace cn2 := below_cell bC cn2
  replace hHeld := (⟨below_cell bC hHeld.1, below_cell bC hHeld.2.1, below_cell bC hHeld.2.2.1, below_cell bC hHeld.2.2.2.1, below_cell bC hHeld.2.2.2.2.1, below_cell bC hHeld.2.2.2.2.2.1, below_cell bC hHeld.2.2.2.2.2.2.1, below_cell bC hHeld.2.2.2.2.2.2.2.1, below_cell bC hHeld.2.2.2.2.2.2.2.2.1, below_cell bC hHeld.2.2.2.2.2.2.2.2.2.1, below_cell bC hHeld.2.2.2.2.2.2.2.2.2.2.1, below_cell bC hHeld.2.2.2.2.2.2.2.2.2.2.2.1, below_cell bC hHeld.2.2.2.2.2.2.2.2.2.2.2.2.1, below_cell bC hHeld.2.2.2.2.2.2.2.2.2.2.2.2.2.1, below_cell bC hHeld.2.2.2.2.2.2.2.2.2.2.2.2.2.2⟩ : _ ∧ _ ∧ _ ∧ _ ∧ _ ∧ _ ∧ _ ∧ _ ∧ _ ∧ _ ∧ _ ∧ _ ∧ _ ∧ _ ∧ _)
  clear bC
  go_wp2_with fail
  clear b39
  refine hKK.out _ _ hHeld ?_
  clear hHeld
  intro hHeld
  clear hKK KK
  try simp only [Act.put, List.setIfInBounds_toArray, List.set_cons_zero, List.set_cons_succ]
  refine wpAnyH_ready (rs := [7]) (by kernel_rfl) (by simp) ?_
  refine cons' rfl (fun KK hKK => ?_)
  go_simp
  refine (GTB.out _ hB).mono ?_
  rintro e v40 ⟨p40, q40, rfl, b40, t40⟩
  have bC := b40
  replace okN := okN.on bC
  replace okcs := okcs.on bC
  replace okcm := okcm.on bC
  replace r38 := r38.on bC
  replace t39 := t39.on bC
  replace hB := hB.trans (bC.mono hB.size)
  replace cn0 := below_cell bC cn0
  replace cn1 := below_cell bC cn1
  replace cn2 := below_cell bC cn2
  replace hHeld := (⟨below_cell bC hHeld.1, below_cell bC hHeld.2.1, below_cell bC hHeld.2.2.1, below_cell bC hHeld.2.2.2.1, below_cell bC hHeld.2.2.2.2.1, below_cell bC hHeld.2.2.2.2.2.1, below_cell bC hHeld.2.2.2.2.2.2.1, below_cell bC hHeld.2.2.2.2.2.2.2.1, below_cell bC hHeld.2.2.2.2.2.2.2.2.1, below_cell bC hHeld.2.2.2.2.2.2.2.2.2.1, below_cell bC hHeld.2.2.2.2.2.2.2.2.2.2.1, below_cell bC hHeld.2.2.2.2.2.2.2.2.2.2.2.1, below_cell bC hHeld.2.2.2.2.2.2.2.2.2.2.2.2.1, below_cell bC hHeld.2.2.2.2.2.2.2.2.2.2.2.2.2.1, below_cell bC hHeld.2.2.2.2.2.2.2.2.2.2.2.2.2.2⟩ : _ ∧ _ ∧ _ ∧ _ ∧ _ ∧ _ ∧ _ ∧ _ ∧ _ ∧ _ ∧ _ ∧ _ ∧ _ ∧ _ ∧ _)
  clear bC
  go_wp2_with fail
  clear b40
  refine hKK.out _ _ hHeld ?_
  clear hHeld
  intro hHeld
  clear hKK KK
  try simp only [Act.put, List.setIfInBounds_toArray, List.set_cons_zero, List.set_cons_succ]
  refine wpAnyH_ready (rs := [9]) (by kernel_rfl) (by simp) ?_
  refine cons' rfl (fun KK hKK => ?_)
  go_simp
  refine (GTC.out _ hB).mono ?_
  rintro e v41 ⟨p41, q41, rfl, b41, t41⟩
  have bC := b41
  replace okN := okN.on bC
  replace okcs := okcs.on bC
  replace okcm := okcm.on bC
  replace r38 := r38.on bC
  replace t39 := t39.on bC
  replace t40 := t40.on bC
  replace hB := hB.trans (bC.mono hB.size)
  replace cn0 := below_cell bC cn0
  replace cn1 := below_cell bC cn1
  replace cn2 := below_cell bC cn2
  replace hHeld := (⟨below_cell bC hHeld.1, below_cell bC hHeld.2.1, below_cell bC hHeld.2.2.1, below_cell bC hHeld.2.2.2.1, below_cell bC hHeld.2.2.2.2.1, below_cell bC hHeld.2.2.2.2.2.1, below_cell bC hHeld.2.2.2.2.2.2.1, below_cell bC hHeld.2.2.2.2.2.2.2.1, below_cell bC hHeld.2.2.2.2.2.2.2.2.1, below_cell bC hHeld.2.2.2.2.2.2.2.2.2.1, below_cell bC hHeld.2.2.2.2.2.2.2.2.2.2.1, below_cell bC hHeld.2.2.2.2.2.2.2.2.2.2.2.1, below_cell bC hHeld.2.2.2.2.2.2.2.2.2.2.2.2.1, below_cell bC hHeld.2.2.2.2.2.2.2.2.2.2.2.2.2.1, below_cell bC hHeld.2.2.2.2.2.2.2.2.2.2.2.2.2.2⟩ : _ ∧ _ ∧ _ ∧ _ ∧ _ ∧ _ ∧ _ ∧ _ ∧ _ ∧ _ ∧ _ ∧ _ ∧ _ ∧ _ ∧ _)
  clear bC
  go_wp2_with fail
  clear b41
  refine hKK.out _ _ hHeld ?_
  clear hHeld
  intro hHeld
  clear hKK KK
  try simp only [Act.put, List.setIfInBounds_toArray, List.set_cons_zero, List.set_cons_succ]
  refine wpAnyH_ready (rs := [10]) (by kernel_rfl) (by simp) ?_
  refine cons' rfl (fun KK hKK => ?_)
  go_simp
  refine (addQ (twR B p40 q40) (twR C p41 q41) U _ t40 t41 ⟨sB.1, sB.2, sC.1, sC.2⟩ eU.out zU.out).mono ?_
  rintro e v42 ⟨p42, q42, rfl, b42, r42⟩
  have bC := b42
  replace okN := okN.on bC
  replace okcs := okcs.on bC
  replace okcm := okcm.on bC
  replace r38 := r38.on bC
  replace t39 := t39.on bC
  replace t40 := t40.on bC
  replace t41 := t41.on bC
  replace hB := hB.trans (bC.mono hB.size)
  replace cn0 := below_cell bC cn0
  replace cn1 := below_cell bC cn1
  replace cn2 := below_cell bC cn2
  replace hHeld := (⟨below_cell bC hHeld.1, below_cell bC hHeld.2.1, below_cell bC hHeld.2.2.1, below_cell bC hHeld.2.2.2.1, below_cell bC hHeld.2.2.2.2.1, below_cell bC hHeld.2.2.2.2.2.1, below_cell bC hHeld.2.2.2.2.2.2.1, below_cell bC hHeld.2.2.2.2.2.2.2.1, below_cell bC hHeld.2.2.2.2.2.2.2.2.1, below_cell bC hHeld.2.2.2.2.2.2.2.2.2.1, below_cell bC hHeld.2.2.2.2.2.2.2.2.2.2.1, below_cell bC hHeld.2.2.2.2.2.2.2.2.2.2.2.1, below_cell bC hHeld.2.2.2.2.2.2.2.2.2.2.2.2.1, below_cell bC hHeld.2.2.2.2.2.2.2.2.2.2.2.2.2.1, below_cell bC hHeld.2.2.2.2.2.2.2.2.2.2.2.2.2.2⟩ : _ ∧ _ ∧ _ ∧ _ ∧ _ ∧ _ ∧ _ ∧ _ ∧ _ ∧ _ ∧ _ ∧ _ ∧ _ ∧ _ ∧ _)
  clear bC
  go_wp2_with fail
  clear b42
  clear t40
  clear t41
  refine hKK.out _ _ hHeld ?_
  clear hHeld
  intro hHeld
  clear hKK KK
  try simp only [Act.put, List.setIfInBounds_toArray, List.set_cons_zero, List.set_cons_succ]
  refine wpAnyH_ready (rs := [11]) (by kernel_rfl) (by simp) ?_
  refine cons' rfl (fun KK hKK => ?_)
  go_simp
  refine (addQ (twR A p39 q39) (nR U p42 q42) T _ t39 r42 ⟨sA.1, sA.2, zU.out.1, zU.out.2⟩ (by rw [nR_val]; exact fT.out) zT.out).mono ?_
  rintro e v43 ⟨p43, q43, rfl, b43, r43⟩
  have bC := b43
  replace okN := okN.on bC
  replace okcs := okcs.on bC
  replace okcm := okcm.on bC
  replace r38 := r38.on bC
  replace t39 := t39.on bC
  replace r42 := r42.on bC
  replace hB := hB.trans (bC.mono hB.size)
  replace cn0 := below_cell bC cn0
  replace cn1 := below_cell bC cn1
  replace cn2 := below_cell bC cn2
  replace hHeld := (⟨below_cell bC hHeld.1, below_cell bC hHeld.2.1, below_cell bC hHeld.2.2.1, below_cell bC hHeld.2.2.2.1, below_cell bC hHeld.2.2.2.2.1, below_cell bC hHeld.2.2.2.2.2.1, below_cell bC hHeld.2.2.2.2.2.2.1, below_cell bC hHeld.2.2.2.2.2.2.2.1, below_cell bC hHeld.2.2.2.2.2.2.2.2.1, below_cell bC hHeld.2.2.2.2.2.2.2.2.2.1, below_cell bC hHeld.2.2.2.2.2.2.2.2.2.2.1, below_cell bC hHeld.2.2.2.2.2.2.2.2.2.2.2.1, below_cell bC hHeld.2.2.2.2.2.2.2.2.2.2.2.2.1, below_cell bC hHeld.2.2.2.2.2.2.2.2.2.2.2.2.2.1, below_cell bC hHeld.2.2.2.2.2.2.2.2.2.2.2.2.2.2⟩ : _ ∧ _ ∧ _ ∧ _ ∧ _ ∧ _ ∧ _ ∧ _ ∧ _ ∧ _ ∧ _ ∧ _ ∧ _ ∧ _ ∧ _)
  clear bC
  go_wp2_with fail
  clear b43
  clear t39
  clear r42
  refine hKK.out _ _ hHeld ?_
  clear hHeld
  intro hHeld
  clear hKK KK
  try simp only [Act.put, List.setIfInBounds_toArray, List.set_cons_zero, List.set_cons_succ]
  refine wpAnyH_ready (rs := [12]) (by kernel_rfl) (by simp) ?_
  refine cons' rfl (fun KK hKK => ?_)
  go_simp
  refine (sameQ T _ _ _ _ _ r38 r43).mono ?_
  rintro e v44 ⟨rfl, b44⟩
  have bC := b44
  replace okN := okN.on bC
  replace okcs := okcs.on bC
  replace okcm := okcm.on bC
  replace r38 := r38.on bC
  replace r43 := r43.on bC
  replace hB := hB.trans (bC.mono hB.size)
  replace cn0 := below_cell bC cn0
  replace cn1 := below_cell bC cn1
  replace cn2 := below_cell bC cn2
  replace hHeld := (⟨below_cell bC hHeld.1, below_cell bC hHeld.2.1, below_cell bC hHeld.2.2.1, below_cell bC hHeld.2.2.2.1, below_cell bC hHeld.2.2.2.2.1, below_cell bC hHeld.2.2.2.2.2.1, below_cell bC hHeld.2.2.2.2.2.2.1, below_cell bC hHeld.2.2.2.2.2.2.2.1, below_cell bC hHeld.2.2.2.2.2.2.2.2.1, below_cell bC hHeld.2.2.2.2.2.2.2.2.2.1, below_cell bC hHeld.2.2.2.2.2.2.2.2.2.2.1, below_cell bC hHeld.2.2.2.2.2.2.2.2.2.2.2.1, below_cell bC hHeld.2.2.2.2.2.2.2.2.2.2.2.2.1, below_cell bC hHeld.2.2.2.2.2.2.2.2.2.2.2.2.2.1, below_cell bC hHeld.2.2.2.2.2.2.2.2.2.2.2.2.2.2⟩ : _ ∧ _ ∧ _ ∧ _ ∧ _ ∧ _ ∧ _ ∧ _ ∧ _ ∧ _ ∧ _ ∧ _ ∧ _ ∧ _ ∧ _)
  clear bC
  go_wp2_with fail
  clear b44
  clear r38
  clear r43
  refine hKK.out _ _ hHeld ?_
  clear hHeld
  intro hHeld
  clear hKK KK
  try simp only [Act.put, List.setIfInBounds_toArray, List.set_cons_zero, List.set_cons_succ]
  refine take' 13 (v := ?_) rfl (by kernel_rfl) (by kernel_rfl) (by kernel_rfl) (fun _ _ _ h => h) (Or.inl ⟨by rfl, ?_⟩) (by assumption) ?_
  rotate_left
  · intro w9 hSw
    go_simp
    first | done | with_reducible rfl
  simp only [Act.put, List.setIfInBounds_toArray, List.set_cons_zero, List.set_cons_succ]
  refine take' 14 (v := ?_) rfl (by kernel_rfl) (by kernel_rfl) (by kernel_rfl) (fun _ _ _ h => h) (Or.inl ⟨by rfl, ?_⟩) (by assumption) ?_
  rotate_left
  · intro w9 hSw
    go_simp
    first | done | with_reducible rfl
  simp only [Act.put, List.setIfInBounds_toArray, List.set_cons_zero, List.set_cons_succ]
  refine take' 15 (v := ?_) rfl (by kernel_rfl) (by kernel_rfl) (by kernel_rfl) (fun _ _ _ h => h) (Or.inl ⟨by rfl, ?_⟩) (by assumption) ?_
  rotate_left
  · intro w9 hSw
    go_simp
    first | done | with_reducible rfl
  simp only [Act.put, List.setIfInBounds_toArray, List.set_cons_zero, List.set_cons_succ]
  refine take' 16 (v := ?_) rfl (by kernel_rfl) (by kernel_rfl) (by kernel_rfl) (fun _ _ _ h => h) (Or.inl ⟨by rfl, ?_⟩) (by assumption) ?_
  rotate_left
  · intro w9 hSw
    go_simp
    first | done | with_reducible rfl
  simp only [Act.put, List.setIfInBounds_toArray, List.set_cons_zero, List.set_cons_succ]
  refine take' 19 (v := ?_) rfl (by kernel_rfl) (by kernel_rfl) (by kernel_rfl) (fun _ _ _ h => h) (Or.inl ⟨by rfl, ?_⟩) (by assumption) ?_
  rotate_left
  · intro w9 hSw
    go_simp
    first | done | with_reducible rfl
  simp only [Act.put, List.setIfInBounds_toArray, List.set_cons_zero, List.set_cons_succ]
  refine take' 21 (v := ?_) rfl (by kernel_rfl) (by kernel_rfl) (by kernel_rfl) (fun _ _ _ h => h) (Or.inl ⟨by rfl, ?_⟩) (by assumption) ?_
  rotate_left
  · intro w9 hSw
    go_simp
    first | done | with_reducible rfl
  simp only [Act.put, List.setIfInBounds_toArray, List.set_cons_zero, List.set_cons_succ]
  refine take' 23 (v := ?_) rfl (by kernel_rfl) (by kernel_rfl) (by kernel_rfl) (fun _ _ _ h => h) (Or.inl ⟨by rfl, ?_⟩) (by assumption) ?_
  rotate_left
  · intro w9 hSw
    go_simp
    first | done | with_reducible rfl
  simp only [Act.put, List.setIfInBounds_toArray, List.set_cons_zero, List.set_cons_succ]
  refine wpAnyH_ready (rs := [17]) (by kernel_rfl) (by simp) ?_
  refine cons' rfl (fun KK hKK => ?_)
  go_simp
  refine (GTC.out _ hB).mono ?_
  rintro e v45 ⟨p45, q45, rfl, b45, t45⟩
  have bC := b45
  replace okN := okN.on bC
  replace okcs := okcs.on bC
  replace okcm := okcm.on bC
  replace hB := hB.trans (bC.mono hB.size)
  replace cn0 := below_cell bC cn0
  replace cn1 := below_cell bC cn1
  replace cn2 := below_cell bC cn2
  replace hHeld := (⟨below_cell bC hHeld.1, below_cell bC hHeld.2.1, below_cell bC hHeld.2.2.1, below_cell bC hHeld.2.2.2.1, below_cell bC hHeld.2.2.2.2.1, below_cell bC hHeld.2.2.2.2.2.1, below_cell bC hHeld.2.2.2.2.2.2.1, below_cell bC hHeld.2.2.2.2.2.2.2.1, below_cell bC hHeld.2.2.2.2.2.2.2.2.1, below_cell bC hHeld.2.2.2.2.2.2.2.2.2.1, below_cell bC hHeld.2.2.2.2.2.2.2.2.2.2.1, below_cell bC hHeld.2.2.2.2.2.2.2.2.2.2.2.1, below_cell bC hHeld.2.2.2.2.2.2.2.2.2.2.2.2.1, below_cell bC hHeld.2.2.2.2.2.2.2.2.2.2.2.2.2.1, below_cell bC hHeld.2.2.2.2.2.2.2.2.2.2.2.2.2.2⟩ : _ ∧ _ ∧ _ ∧ _ ∧ _ ∧ _ ∧ _ ∧ _ ∧ _ ∧ _ ∧ _ ∧ _ ∧ _ ∧ _ ∧ _)
  clear bC
  go_wp2_with fail
  clear b45
  refine hKK.out _ _ hHeld ?_
  clear hHeld
  intro hHeld
  clear hKK KK
  try simp only [Act.put, List.setIfInBounds_toArray, List.set_cons_zero, List.set_cons_succ]
  refine wpAnyH_ready (rs := [18]) (by kernel_rfl) (by simp) ?_
  refine cons' rfl (fun KK hKK => ?_)
  go_simp
  refine (mulQ (nR M cmp cmq) (twR C p45 q45) P _ okcm t45 ⟨zM.out.1, zM.out.2, sC.1, sC.2⟩ (by rw [nR_val]; exact eP.out) zP.out).mono ?_
  rintro e v46 ⟨p46, q46, rfl, b46, r46⟩
  have bC := b46
  replace okN := okN.on bC
  replace okcs := okcs.on bC
  replace okcm := okcm.on bC
  replace t45 := t45.on bC
  replace hB := hB.trans (bC.mono hB.size)
  replace cn0 := below_cell bC cn0
  replace cn1 := below_cell bC cn1
  replace cn2 := below_cell bC cn2
  replace hHeld := (⟨below_cell bC hHeld.1, below_cell bC hHeld.2.1, below_cell bC hHeld.2.2.1, below_cell bC hHeld.2.2.2.1, below_cell bC hHeld.2.2.2.2.1, below_cell bC hHeld.2.2.2.2.2.1, below_cell bC hHeld.2.2.2.2.2.2.1, below_cell bC hHeld.2.2.2.2.2.2.2.1, below_cell bC hHeld.2.2.2.2.2.2.2.2.1, below_cell bC hHeld.2.2.2.2.2.2.2.2.2.1, below_cell bC hHeld.2.2.2.2.2.2.2.2.2.2.1, below_cell bC hHeld.2.2.2.2.2.2.2.2.2.2.2.1, below_cell bC hHeld.2.2.2.2.2.2.2.2.2.2.2.2.1, below_cell bC hHeld.2.2.2.2.2.2.2.2.2.2.2.2.2.1, below_cell bC hHeld.2.2.2.2.2.2.2.2.2.2.2.2.2.2⟩ : _ ∧ _ ∧ _ ∧ _ ∧ _ ∧ _ ∧ _ ∧ _ ∧ _ ∧ _ ∧ _ ∧ _ ∧ _ ∧ _ ∧ _)
  clear bC
  go_wp2_with fail
  clear b46
  clear t45
  refine hKK.out _ _ hHeld ?_
  clear hHeld
  intro hHeld
  clear hKK KK
  try simp only [Act.put, List.setIfInBounds_toArray, List.set_cons_zero, List.set_cons_succ]
  refine wpAnyH_ready (rs := [20]) (by kernel_rfl) (by simp) ?_
  refine cons' rfl (fun KK hKK => ?_)
  go_simp
  refine (GTA.out _ hB).mono ?_
  rintro e v47 ⟨p47, q47, rfl, b47, t47⟩
  have bC := b47
  replace okN := okN.on bC
  replace okcs := okcs.on bC
  replace okcm := okcm.on bC
  replace r46 := r46.on bC
  replace hB := hB.trans (bC.mono hB.size)
  replace cn0 := below_cell bC cn0
  replace cn1 := below_cell bC cn1
  replace cn2 := below_cell bC cn2
  replace hHeld := (⟨below_cell bC hHeld.1, below_cell bC hHeld.2.1, below_cell bC hHeld.2.2.1, below_cell bC hHeld.2.2.2.1, below_cell bC hHeld.2.2.2.2.1, below_cell bC hHeld.2.2.2.2.2.1, below_cell bC hHeld.2.2.2.2.2.2.1, below_cell bC hHeld.2.2.2.2.2.2.2.1, below_cell bC hHeld.2.2.2.2.2.2.2.2.1, below_cell bC hHeld.2.2.2.2.2.2.2.2.2.1, below_cell bC hHeld.2.2.2.2.2.2.2.2.2.2.1, below_cell bC hHeld.2.2.2.2.2.2.2.2.2.2.2.1, below_cell bC hHeld.2.2.2.2.2.2.2.2.2.2.2.2.1, below_cell bC hHeld.2.2.2.2.2.2.2.2.2.2.2.2.2.1, below_cell bC hHeld.2.2.2.2.2.2.2.2.2.2.2.2.2.2⟩ : _ ∧ _ ∧ _ ∧ _ ∧ _ ∧ _ ∧ _ ∧ _ ∧ _ ∧ _ ∧ _ ∧ _ ∧ _ ∧ _ ∧ _)
  clear bC
  go_wp2_with fail
  clear b47
  refine hKK.out _ _ hHeld ?_
  clear hHeld
  intro hHeld
  clear hKK KK
  try simp only [Act.put, List.setIfInBounds_toArray, List.set_cons_zero, List.set_cons_succ]
  refine wpAnyH_ready (rs := [22]) (by kernel_rfl) (by simp) ?_
  refine cons' rfl (fun KK hKK => ?_)
  go_simp
  refine (GTB.out _ hB).mono ?_
  rintro e v48 ⟨p48, q48, rfl, b48, t48⟩
  have bC := b48
  replace okN := okN.on bC
  replace okcs := okcs.on bC
  replace okcm := okcm.on bC
  replace r46 := r46.on bC
  replace t47 := t47.on bC
  replace hB := hB.trans (bC.mono hB.size)
  replace cn0 := below_cell bC cn0
  replace cn1 := below_cell bC cn1
  replace cn2 := below_cell bC cn2
  replace hHeld := (⟨below_cell bC hHeld.1, below_cell bC hHeld.2.1, below_cell bC hHeld.2.2.1, below_cell bC hHeld.2.2.2.1, below_cell bC hHeld.2.2.2.2.1, below_cell bC hHeld.2.2.2.2.2.1, below_cell bC hHeld.2.2.2.2.2.2.1, below_cell bC hHeld.2.2.2.2.2.2.2.1, below_cell bC hHeld.2.2.2.2.2.2.2.2.1, below_cell bC hHeld.2.2.2.2.2.2.2.2.2.1, below_cell bC hHeld.2.2.2.2.2.2.2.2.2.2.1, below_cell bC hHeld.2.2.2.2.2.2.2.2.2.2.2.1, below_cell bC hHeld.2.2.2.2.2.2.2.2.2.2.2.2.1, below_cell bC hHeld.2.2.2.2.2.2.2.2.2.2.2.2.2.1, below_cell bC hHeld.2.2.2.2.2.2.2.2.2.2.2.2.2.2⟩ : _ ∧ _ ∧ _ ∧ _ ∧ _ ∧ _ ∧ _ ∧ _ ∧ _ ∧ _ ∧ _ ∧ _ ∧ _ ∧ _ ∧ _)
  clear bC
  go_wp2_with fail
  clear b48
  refine hKK.out _ _ hHeld ?_
  clear hHeld
  intro hHeld
  clear hKK KK
  try simp only [Act.put, List.setIfInBounds_toArray, List.set_cons_zero, List.set_cons_succ]
  refine wpAnyH_ready (rs := [24]) (by kernel_rfl) (by simp) ?_
  refine cons' rfl (fun KK hKK => ?_)
  go_simp
  refine (GTC.out _ hB).mono ?_
  rintro e v49 ⟨p49, q49, rfl, b49, t49⟩
  have bC := b49
  replace okN := okN.on bC
  replace okcs := okcs.on bC
  replace okcm := okcm.on bC
  replace r46 := r46.on bC
  replace t47 := t47.on bC
  replace t48 := t48.on bC
  replace hB := hB.trans (bC.mono hB.size)
  replace cn0 := below_cell bC cn0
  replace cn1 := below_cell bC cn1
  replace cn2 := below_cell bC cn2
  replace hHeld := (⟨below_cell bC hHeld.1, below_cell bC hHeld.2.1, below_cell bC hHeld.2.2.1, below_cell bC hHeld.2.2.2.1, below_cell bC hHeld.2.2.2.2.1, below_cell bC hHeld.2.2.2.2.2.1, below_cell bC hHeld.2.2.2.2.2.2.1, below_cell bC hHeld.2.2.2.2.2.2.2.1, below_cell bC hHeld.2.2.2.2.2.2.2.2.1, below_cell bC hHeld.2.2.2.2.2.2.2.2.2.1, below_cell bC hHeld.2.2.2.2.2.2.2.2.2.2.1, below_cell bC hHeld.2.2.2.2.2.2.2.2.2.2.2.1, below_cell bC hHeld.2.2.2.2.2.2.2.2.2.2.2.2.1, below_cell bC hHeld.2.2.2.2.2.2.2.2.2.2.2.2.2.1, below_cell bC hHeld.2.2.2.2.2.2.2.2.2.2.2.2.2.2⟩ : _ ∧ _ ∧ _ ∧ _ ∧ _ ∧ _ ∧ _ ∧ _ ∧ _ ∧ _ ∧ _ ∧ _ ∧ _ ∧ _ ∧ _)
  clear bC
  go_wp2_with fail
  clear b49
  refine hKK.out _ _ hHeld ?_
  clear hHeld
  intro hHeld
  clear hKK KK
  try simp only [Act.put, List.setIfInBounds_toArray, List.set_cons_zero, List.set_cons_succ]
  refine wpAnyH_ready (rs := [25]) (by kernel_rfl) (by simp) ?_
  refine cons' rfl (fun KK hKK => ?_)
  go_simp
  refine (mulQ (twR B p48 q48) (twR C p49 q49) Q _ t48 t49 ⟨sB.1, sB.2, sC.1, sC.2⟩ eQ.out zQ.out).mono ?_
  rintro e v50 ⟨p50, q50, rfl, b50, r50⟩
  have bC := b50
  replace okN := okN.on bC
  replace okcs := okcs.on bC
  replace okcm := okcm.on bC
  replace r46 := r46.on bC
  replace t47 := t47.on bC
  replace t48 := t48.on bC
  replace t49 := t49.on bC
  replace hB := hB.trans (bC.mono hB.size)
  replace cn0 := below_cell bC cn0
  replace cn1 := below_cell bC cn1
  replace cn2 := below_cell bC cn2
  replace hHeld := (⟨below_cell bC hHeld.1, below_cell bC hHeld.2.1, below_cell bC hHeld.2.2.1, below_cell bC hHeld.2.2.2.1, below_cell bC hHeld.2.2.2.2.1, below_cell bC hHeld.2.2.2.2.2.1, below_cell bC hHeld.2.2.2.2.2.2.1, below_cell bC hHeld.2.2.2.2.2.2.2.1, below_cell bC hHeld.2.2.2.2.2.2.2.2.1, below_cell bC hHeld.2.2.2.2.2.2.2.2.2.1, below_cell bC hHeld.2.2.2.2.2.2.2.2.2.2.1, below_cell bC hHeld.2.2.2.2.2.2.2.2.2.2.2.1, below_cell bC hHeld.2.2.2.2.2.2.2.2.2.2.2.2.1, below_cell bC hHeld.2.2.2.2.2.2.2.2.2.2.2.2.2.1, below_cell bC hHeld.2.2.2.2.2.2.2.2.2.2.2.2.2.2⟩ : _ ∧ _ ∧ _ ∧ _ ∧ _ ∧ _ ∧ _ ∧ _ ∧ _ ∧ _ ∧ _ ∧ _ ∧ _ ∧ _ ∧ _)
  clear bC
  go_wp2_with fail
  clear b50
  clear t48
  clear t49
  refine hKK.out _ _ hHeld ?_
  clear hHeld
  intro hHeld
  clear hKK KK
  try simp only [Act.put, List.setIfInBounds_toArray, List.set_cons_zero, List.set_cons_succ]
  refine wpAnyH_ready (rs := [26]) (by kernel_rfl) (by simp) ?_
  refine cons' rfl (fun KK hKK => ?_)
  go_simp
  refine (mulQ (twR A p47 q47) (nR Q p50 q50) P _ t47 r50 ⟨sA.1, sA.2, zQ.out.1, zQ.out.2⟩ (by rw [nR_val]; exact fP.out) zP.out).mono ?_
  rintro e v51 ⟨p51, q51, rfl, b51, r51⟩
  have bC := b51
  replace okN := okN.on bC
  replace okcs := okcs.on bC
  replace okcm := okcm.on bC
  replace r46 := r46.on bC
  replace t47 := t47.on bC
  replace r50 := r50.on bC
  replace hB := hB.trans (bC.mono hB.size)
  replace cn0 := below_cell bC cn0
  replace cn1 := below_cell bC cn1
  replace cn2 := below_cell bC cn2
  replace hHeld := (⟨below_cell bC hHeld.1, below_cell bC hHeld.2.1, below_cell bC hHeld.2.2.1, below_cell bC hHeld.2.2.2.1, below_cell bC hHeld.2.2.2.2.1, below_cell bC hHeld.2.2.2.2.2.1, below_cell bC hHeld.2.2.2.2.2.2.1, below_cell bC hHeld.2.2.2.2.2.2.2.1, below_cell bC hHeld.2.2.2.2.2.2.2.2.1, below_cell bC hHeld.2.2.2.2.2.2.2.2.2.1, below_cell bC hHeld.2.2.2.2.2.2.2.2.2.2.1, below_cell bC hHeld.2.2.2.2.2.2.2.2.2.2.2.1, below_cell bC hHeld.2.2.2.2.2.2.2.2.2.2.2.2.1, below_cell bC hHeld.2.2.2.2.2.2.2.2.2.2.2.2.2.1, below_cell bC hHeld.2.2.2.2.2.2.2.2.2.2.2.2.2.2⟩ : _ ∧ _ ∧ _ ∧ _ ∧ _ ∧ _ ∧ _ ∧ _ ∧ _ ∧ _ ∧ _ ∧ _ ∧ _ ∧ _ ∧ _)
  clear bC
  go_wp2_with fail
  clear b51
  clear t47
  clear r50
  refine hKK.out _ _ hHeld ?_
  clear hHeld
  intro hHeld
  clear hKK KK
  try simp only [Act.put, List.setIfInBounds_toArray, List.set_cons_zero, List.set_cons_succ]
  refine wpAnyH_ready (rs := [27]) (by kernel_rfl) (by simp) ?_
  refine cons' rfl (fun KK hKK => ?_)
  go_simp
  refine (sameQ P _ _ _ _ _ r46 r51).mono ?_
  rintro e v52 ⟨rfl, b52⟩
  have bC := b52
  replace okN := okN.on bC
  replace okcs := okcs.on bC
  replace okcm := okcm.on bC
  replace r46 := r46.on bC
  replace r51 := r51.on bC
  replace hB := hB.trans (bC.mono hB.size)
  replace cn0 := below_cell bC cn0
  replace cn1 := below_cell bC cn1
  replace cn2 := below_cell bC cn2
  replace hHeld := (⟨below_cell bC hHeld.1, below_cell bC hHeld.2.1, below_cell bC hHeld.2.2.1, below_cell bC hHeld.2.2.2.1, below_cell bC hHeld.2.2.2.2.1, below_cell bC hHeld.2.2.2.2.2.1, below_cell bC hHeld.2.2.2.2.2.2.1, below_cell bC hHeld.2.2.2.2.2.2.2.1, below_cell bC hHeld.2.2.2.2.2.2.2.2.1, below_cell bC hHeld.2.2.2.2.2.2.2.2.2.1, below_cell bC hHeld.2.2.2.2.2.2.2.2.2.2.1, below_cell bC hHeld.2.2.2.2.2.2.2.2.2.2.2.1, below_cell bC hHeld.2.2.2.2.2.2.2.2.2.2.2.2.1, below_cell bC hHeld.2.2.2.2.2.2.2.2.2.2.2.2.2.1, below_cell bC hHeld.2.2.2.2.2.2.2.2.2.2.2.2.2.2⟩ : _ ∧ _ ∧ _ ∧ _ ∧ _ ∧ _ ∧ _ ∧ _ ∧ _ ∧ _ ∧ _ ∧ _ ∧ _ ∧ _ ∧ _)
  clear bC
  go_wp2_with fail
  clear b52
  clear r46
  clear r51
  refine hKK.out _ _ hHeld ?_
  clear hHeld
  intro hHeld
  clear hKK KK
  try simp only [Act.put, List.setIfInBounds_toArray, List.set_cons_zero, List.set_cons_succ]
  refine take' 28 (v := ?_) rfl (by kernel_rfl) (by kernel_rfl) (by kernel_rfl) (fun _ _ _ h => h) (Or.inl ⟨by rfl, ?_⟩) (by assumption) ?_
  rotate_left
  · intro w9 hSw
    go_simp
    first | done | with_reducible rfl
  simp only [Act.put, List.setIfInBounds_toArray, List.set_cons_zero, List.set_cons_succ]
  refine take' 29 (v := ?_) rfl (by kernel_rfl) (by kernel_rfl) (by kernel_rfl) (fun _ _ _ h => h) (Or.inl ⟨by rfl, ?_⟩) (by assumption) ?_
  rotate_left
  · intro w9 hSw
    go_simp
    first | done | with_reducible rfl
  simp only [Act.put, List.setIfInBounds_toArray, List.set_cons_zero, List.set_cons_succ]
  refine wpAnyH_done (by kernel_rfl) ?_ _
  go_wp2_with fail
  have ca0 := hHeld.1
  have ca1 := hHeld.2.1
  have ca2 := hHeld.2.2.1
  have cb0 := hHeld.2.2.2.1
  have cb1 := hHeld.2.2.2.2.1
  have cb2 := hHeld.2.2.2.2.2.1
  have cc0 := hHeld.2.2.2.2.2.2.1
  have cc1 := hHeld.2.2.2.2.2.2.2.1
  have cc2 := hHeld.2.2.2.2.2.2.2.2.1
  have cs0 := hHeld.2.2.2.2.2.2.2.2.2.1
  have cs1 := hHeld.2.2.2.2.2.2.2.2.2.2.1
  have cs2 := hHeld.2.2.2.2.2.2.2.2.2.2.2.1
  have cm0 := hHeld.2.2.2.2.2.2.2.2.2.2.2.2.1
  have cm1 := hHeld.2.2.2.2.2.2.2.2.2.2.2.2.2.1
  have cm2 := hHeld.2.2.2.2.2.2.2.2.2.2.2.2.2.2
  clear hHeld
  have hs5 : w.heap.size ≤ w.heap.size := Nat.le_refl _
  clear hs5
  have bD : Below v52.heap.size v52 v52.drew := (Below.refl _ _).drew
  have kca0 := below_cell bD ca0
  have kca1 := below_cell bD ca1
  have kca2 := below_cell bD ca2
  have kcb0 := below_cell bD cb0
  have kcb1 := below_cell bD cb1
  have kcb2 := below_cell bD cb2
  have kcc0 := below_cell bD cc0
  have kcc1 := below_cell bD cc1
  have kcc2 := below_cell bD cc2
  have kcn0 := below_cell bD cn0
  have kcn1 := below_cell bD cn1
  have kcn2 := below_cell bD cn2
  have kcs0 := below_cell bD cs0
  have kcs1 := below_cell bD cs1
  have kcs2 := below_cell bD cs2
  replace okN := okN.on bD
  replace okcs := okcs.on bD
  replace okcm := okcm.on bD
  replace hB := hB.trans (bD.mono hB.size)
  replace cm0 := below_cell bD cm0
  replace cm1 := below_cell bD cm1
  replace cm2 := below_cell bD cm2
  refine wp_region_held_drew (S := fun w' => w'.cell? ⟨w.heap.size, 0, none⟩ = some (.bool A.s) ∧ w'.cell? ⟨w.heap.size, 1, none⟩ = some (.slice A.a A.n A.c) ∧ w'.cell? ⟨w.heap.size, 2, none⟩ = some (.slice A.b A.m A.e) ∧ w'.cell? ⟨w.heap.size + 1, 0, none⟩ = some (.bool B.s) ∧ w'.cell? ⟨w.heap.size + 1, 1, none⟩ = some (.slice B.a B.n B.c) ∧ w'.cell? ⟨w.heap.size + 1, 2, none⟩ = some (.slice B.b B.m B.e) ∧ w'.cell? ⟨w.heap.size + 1 + 1, 0, none⟩ = some (.bool C.s) ∧ w'.cell? ⟨w.heap.size + 1 + 1, 1, none⟩ = some (.slice C.a C.n C.c) ∧ w'.cell? ⟨w.heap.size + 1 + 1, 2, none⟩ = some (.slice C.b C.m C.e) ∧ w'.cell? ⟨w2.heap.size, 0, none⟩ = some (.bool (ng N1.num)) ∧ w'.cell? ⟨w2.heap.size, 1, none⟩ = some (.slice pN (ln (am N1.num)) (ln (am N1.num))) ∧ w'.cell? ⟨w2.heap.size, 2, none⟩ = some (.slice qN (ln N1.den) (ln N1.den)) ∧ w'.cell? ⟨csc, 0, none⟩ = some (.bool (ng S.num)) ∧ w'.cell? ⟨csc, 1, none⟩ = some (.slice csp (ln (am S.num)) (ln (am S.num))) ∧ w'.cell? ⟨csc, 2, none⟩ = some (.slice csq (ln S.den) (ln S.den))) (by kernel_rfl) ⟨kca0, kca1, kca2, kcb0, kcb1, kcb2, kcc0, kcc1, kcc2, kcn0, kcn1, kcn2, kcs0, kcs1, kcs2⟩ (fun hHeld => ?_)
  clear kca0 kca1 kca2 kcb0 kcb1 kcb2 kcc0 kcc1 kcc2 kcn0 kcn1 kcn2 kcs0 kcs1 kcs2
  generalize v52.drew = wr53 at bD okN okcs okcm cm0 cm1 cm2 hB hHeld ⊢
  clear ca0 ca1 ca2 cb0 cb1 cb2 cc0 cc1 cc2 cn0 cn1 cn2 cs0 cs1 cs2
  refine take' 0 (v := ?_) rfl (by kernel_rfl) (by kernel_rfl) (by kernel_rfl) (fun _ _ _ h => h) (Or.inl ⟨by rfl, ?_⟩) (by assumption) ?_
  rotate_left
  · intro w9 hSw
    go_simp
    first | done | with_reducible rfl
  simp only [Act.put, List.setIfInBounds_toArray, List.set_cons_zero, List.set_cons_succ]
  refine take' 1 (v := ?_) rfl (by kernel_rfl) (by kernel_rfl) (by kernel_rfl) (fun _ _ _ h => h) (Or.inl ⟨by rfl, ?_⟩) (by assumption) ?_
  rotate_left
  · intro w9 hSw
    go_simp
    first | done | with_reducible rfl
  simp only [Act.put, List.setIfInBounds_toArray, List.set_cons_zero, List.set_cons_succ]
  refine take' 4 (v := ?_) rfl (by kernel_rfl) (by kernel_rfl) (by kernel_rfl) (fun _ _ _ h => h) (Or.inl ⟨by rfl, ?_⟩) (by assumption) ?_
  rotate_left
  · intro w9 hSw
    go_simp
    first | done | with_reducible rfl
  simp only [Act.put, List.setIfInBounds_toArray, List.set_cons_zero, List.set_cons_succ]
  refine take' 6 (v := ?_) rfl (by kernel_rfl) (by kernel_rfl) (by kernel_rfl) (fun _ _ _ h => h) (Or.inl ⟨by rfl, ?_⟩) (by assumption) ?_
  rotate_left
  · intro w9 hSw
    go_simp
    first | done | with_reducible rfl
  simp only [Act.put, List.setIfInBounds_toArray, List.set_cons_zero, List.set_cons_succ]
  refine take' 9 (v := ?_) rfl (by kernel_rfl) (by kernel_rfl) (by kernel_rfl) (fun _ _ _ h => h) (Or.inl ⟨by rfl, ?_⟩) (by assumption) ?_
  rotate_left
  · intro w9 hSw
    go_simp
    first | done | with_reducible rfl
  simp only [Act.put, List.setIfInBounds_toArray, List.set_cons_zero, List.set_cons_succ]
  refine take' 11 (v := ?_) rfl (by kernel_rfl) (by kernel_rfl) (by kernel_rfl) (fun _ _ _ h => h) (Or.inl ⟨by rfl, ?_⟩) (by assumption) ?_
  rotate_left
  · intro w9 hSw
    go_simp
    first | done | with_reducible rfl
  simp only [Act.put, List.setIfInBounds_toArray, List.set_cons_zero, List.set_cons_succ]
  refine wpAnyH_ready (rs := [2]) (by kernel_rfl) (by simp) ?_
  refine cons' rfl (fun KK hKK => ?_)
  go_simp
  refine (GTC.out _ hB).mono ?_
  rintro e v54 ⟨p54, q54, rfl, b54, t54⟩
  have bC := b54
  replace okN := okN.on bC
  replace okcs := okcs.on bC
  replace okcm := okcm.on bC
  replace hB := hB.trans (bC.mono hB.size)
  replace cm0 := below_cell bC cm0
  replace cm1 := below_cell bC cm1
  replace cm2 := below_cell bC cm2
  replace hHeld := (⟨below_cell bC hHeld.1, below_cell bC hHeld.2.1, below_cell bC hHeld.2.2.1, below_cell bC hHeld.2.2.2.1, below_cell bC hHeld.2.2.2.2.1, below_cell bC hHeld.2.2.2.2.2.1, below_cell bC hHeld.2.2.2.2.2.2.1, below_cell bC hHeld.2.2.2.2.2.2.2.1, below_cell bC hHeld.2.2.2.2.2.2.2.2.1, below_cell bC hHeld.2.2.2.2.2.2.2.2.2.1, below_cell bC hHeld.2.2.2.2.2.2.2.2.2.2.1, below_cell bC hHeld.2.2.2.2.2.2.2.2.2.2.2.1, below_cell bC hHeld.2.2.2.2.2.2.2.2.2.2.2.2.1, below_cell bC hHeld.2.2.2.2.2.2.2.2.2.2.2.2.2.1, below_cell bC hHeld.2.2.2.2.2.2.2.2.2.2.2.2.2.2⟩ : _ ∧ _ ∧ _ ∧ _ ∧ _ ∧ _ ∧ _ ∧ _ ∧ _ ∧ _ ∧ _ ∧ _ ∧ _ ∧ _ ∧ _)
  clear bC
  go_wp2_with fail
  clear b54
  refine hKK.out _ _ hHeld ?_
  clear hHeld
  intro hHeld
  clear hKK KK
  try simp only [Act.put, List.setIfInBounds_toArray, List.set_cons_zero, List.set_cons_succ]
  refine wpAnyH_ready (rs := [3]) (by kernel_rfl) (by simp) ?_
  refine cons' rfl (fun KK hKK => ?_)
  go_simp
  refine (mulQ (nR S csp csq) (twR C p54 q54) R _ okcs t54 ⟨zS.out.1, zS.out.2, sC.1, sC.2⟩ (by rw [nR_val]; exact eR.out) zR.out).mono ?_
  rintro e v55 ⟨p55, q55, rfl, b55, r55⟩
  have bC := b55
  replace okN := okN.on bC
  replace okcs := okcs.on bC
  replace okcm := okcm.on bC
  replace t54 := t54.on bC
  replace hB := hB.trans (bC.mono hB.size)
  replace cm0 := below_cell bC cm0
  replace cm1 := below_cell bC cm1
  replace cm2 := below_cell bC cm2
  replace hHeld := (⟨below_cell bC hHeld.1, below_cell bC hHeld.2.1, below_cell bC hHeld.2.2.1, below_cell bC hHeld.2.2.2.1, below_cell bC hHeld.2.2.2.2.1, below_cell bC hHeld.2.2.2.2.2.1, below_cell bC hHeld.2.2.2.2.2.2.1, below_cell bC hHeld.2.2.2.2.2.2.2.1, below_cell bC hHeld.2.2.2.2.2.2.2.2.1, below_cell bC hHeld.2.2.2.2.2.2.2.2.2.1, below_cell bC hHeld.2.2.2.2.2.2.2.2.2.2.1, below_cell bC hHeld.2.2.2.2.2.2.2.2.2.2.2.1, below_cell bC hHeld.2.2.2.2.2.2.2.2.2.2.2.2.1, below_cell bC hHeld.2.2.2.2.2.2.2.2.2.2.2.2.2.1, below_cell bC hHeld.2.2.2.2.2.2.2.2.2.2.2.2.2.2⟩ : _ ∧ _ ∧ _ ∧ _ ∧ _ ∧ _ ∧ _ ∧ _ ∧ _ ∧ _ ∧ _ ∧ _ ∧ _ ∧ _ ∧ _)
  clear bC
  go_wp2_with fail
  clear b55
  clear t54
  refine hKK.out _ _ hHeld ?_
  clear hHeld
  intro hHeld
  clear hKK KK
  try simp only [Act.put, List.setIfInBounds_toArray, List.set_cons_zero, List.set_cons_succ]
  refine wpAnyH_ready (rs := [5]) (by kernel_rfl) (by simp) ?_
  refine cons' rfl (fun KK hKK => ?_)
  go_simp
  refine (GTA.out _ hB).mono ?_
  rintro e v56 ⟨p56, q56, rfl, b56, t56⟩
  have bC := b56
  replace okN := okN.on bC
  replace okcs := okcs.on bC
  replace okcm := okcm.on bC
  replace r55 := r55.on bC
  replace hB := hB.trans (bC.mono hB.size)
  replace cm0 := below_cell bC cm0
  replace cm1 := below_cell bC cm1
  replace cm2 := below_cell bC cm2
  replace hHeld := (⟨below_cell bC hHeld.1, below_cell bC hHeld.2.1, below_cell bC hHeld.2.2.1, below_cell bC hHeld.2.2.2.1, below_cell bC hHeld.2.2.2.2.1, below_cell bC hHeld.2.2.2.2.2.1, below_cell bC hHeld.2.2.2.2.2.2.1, below_cell bC hHeld.2.2.2.2.2.2.2.1, below_cell bC hHeld.2.2.2.2.2.2.2.2.1, below_cell bC hHeld.2.2.2.2.2.2.2.2.2.1, below_cell bC hHeld.2.2.2.2.2.2.2.2.2.2.1, below_cell bC hHeld.2.2.2.2.2.2.2.2.2.2.2.1, below_cell bC hHeld.2.2.2.2.2.2.2.2.2.2.2.2.1, below_cell bC hHeld.2.2.2.2.2.2.2.2.2.2.2.2.2.1, below_cell bC hHeld.2.2.2.2.2.2.2.2.2.2.2.2.2.2⟩ : _ ∧ _ ∧ _ ∧ _ ∧ _ ∧ _ ∧ _ ∧ _ ∧ _ ∧ _ ∧ _ ∧ _ ∧ _ ∧ _ ∧ _)
  clear bC
  go_wp2_with fail
  clear b56
  refine hKK.out _ _ hHeld ?_
  clear hHeld
  intro hHeld
  clear hKK KK
  try simp only [Act.put, List.setIfInBounds_toArray, List.set_cons_zero, List.set_cons_succ]
  refine wpAnyH_ready (rs := [7]) (by kernel_rfl) (by simp) ?_
  refine cons' rfl (fun KK hKK => ?_)
  go_simp
  refine (GTC.out _ hB).mono ?_
  rintro e v57 ⟨p57, q57, rfl, b57, t57⟩
  have bC := b57
  replace okN := okN.on bC
  replace okcs := okcs.on bC
  replace okcm := okcm.on bC
  replace r55 := r55.on bC
  replace t56 := t56.on bC
  replace hB := hB.trans (bC.mono hB.size)
  replace cm0 := below_cell bC cm0
  replace cm1 := below_cell bC cm1
  replace cm2 := below_cell bC cm2
  replace hHeld := (⟨below_cell bC hHeld.1, below_cell bC hHeld.2.1, below_cell bC hHeld.2.2.1, below_cell bC hHeld.2.2.2.1, below_cell bC hHeld.2.2.2.2.1, below_cell bC hHeld.2.2.2.2.2.1, below_cell bC hHeld.2.2.2.2.2.2.1, below_cell bC hHeld.2.2.2.2.2.2.2.1, below_cell bC hHeld.2.2.2.2.2.2.2.2.1, below_cell bC hHeld.2.2.2.2.2.2.2.2.2.1, below_cell bC hHeld.2.2.2.2.2.2.2.2.2.2.1, below_cell bC hHeld.2.2.2.2.2.2.2.2.2.2.2.1, below_cell bC hHeld.2.2.2.2.2.2.2.2.2.2.2.2.1, below_cell bC hHeld.2.2.2.2.2.2.2.2.2.2.2.2.2.1, below_cell bC hHeld.2.2.2.2.2.2.2.2.2.2.2.2.2.2⟩ : _ ∧ _ ∧ _ ∧ _ ∧ _ ∧ _ ∧ _ ∧ _ ∧ _ ∧ _ ∧ _ ∧ _ ∧ _ ∧ _ ∧ _)
  clear bC
  go_wp2_with fail
  clear b57
  refine hKK.out _ _ hHeld ?_
  clear hHeld
  intro hHeld
  clear hKK KK
  try simp only [Act.put, List.setIfInBounds_toArray, List.set_cons_zero, List.set_cons_succ]
  refine wpAnyH_ready (rs := [8]) (by kernel_rfl) (by simp) ?_
  refine cons' rfl (fun KK hKK => ?_)
  go_simp
  refine (mulQ (twR A p56 q56) (twR C p57 q57) X _ t56 t57 ⟨sA.1, sA.2, sC.1, sC.2⟩ eX.out zX.out).mono ?_
  rintro e v58 ⟨p58, q58, rfl, b58, r58⟩
  have bC := b58
  replace okN := okN.on bC
  replace okcs := okcs.on bC
  replace okcm := okcm.on bC
  replace r55 := r55.on bC
  replace t56 := t56.on bC
  replace t57 := t57.on bC
  replace hB := hB.trans (bC.mono hB.size)
  replace cm0 := below_cell bC cm0
  replace cm1 := below_cell bC cm1
  replace cm2 := below_cell bC cm2
  replace hHeld := (⟨below_cell bC hHeld.1, below_cell bC hHeld.2.1, below_cell bC hHeld.2.2.1, below_cell bC hHeld.2.2.2.1, below_cell bC hHeld.2.2.2.2.1, below_cell bC hHeld.2.2.2.2.2.1, below_cell bC hHeld.2.2.2.2.2.2.1, below_cell bC hHeld.2.2.2.2.2.2.2.1, below_cell bC hHeld.2.2.2.2.2.2.2.2.1, below_cell bC hHeld.2.2.2.2.2.2.2.2.2.1, below_cell bC hHeld.2.2.2.2.2.2.2.2.2.2.1, below_cell bC hHeld.2.2.2.2.2.2.2.2.2.2.2.1, below_cell bC hHeld.2.2.2.2.2.2.2.2.2.2.2.2.1, below_cell bC hHeld.2.2.2.2.2.2.2.2.2.2.2.2.2.1, below_cell bC hHeld.2.2.2.2.2.2.2.2.2.2.2.2.2.2⟩ : _ ∧ _ ∧ _ ∧ _ ∧ _ ∧ _ ∧ _ ∧ _ ∧ _ ∧ _ ∧ _ ∧ _ ∧ _ ∧ _ ∧ _)
  clear bC
  go_wp2_with fail
  clear b58
  clear t56
  clear t57
  refine hKK.out _ _ hHeld ?_
  clear hHeld
  intro hHeld
  clear hKK KK
  try simp only [Act.put, List.setIfInBounds_toArray, List.set_cons_zero, List.set_cons_succ]
  refine wpAnyH_ready (rs := [10]) (by kernel_rfl) (by simp) ?_
  refine cons' rfl (fun KK hKK => ?_)
  go_simp
  refine (GTB.out _ hB).mono ?_
  rintro e v59 ⟨p59, q59, rfl, b59, t59⟩
  have bC := b59
  replace okN := okN.on bC
  replace okcs := okcs.on bC
  replace okcm := okcm.on bC
  replace r55 := r55.on bC
  replace r58 := r58.on bC
  replace hB := hB.trans (bC.mono hB.size)
  replace cm0 := below_cell bC cm0
  replace cm1 := below_cell bC cm1
  replace cm2 := below_cell bC cm2
  replace hHeld := (⟨below_cell bC hHeld.1, below_cell bC hHeld.2.1, below_cell bC hHeld.2.2.1, below_cell bC hHeld.2.2.2.1, below_cell bC hHeld.2.2.2.2.1, below_cell bC hHeld.2.2.2.2.2.1, below_cell bC hHeld.2.2.2.2.2.2.1, below_cell bC hHeld.2.2.2.2.2.2.2.1, below_cell bC hHeld.2.2.2.2.2.2.2.2.1, below_cell bC hHeld.2.2.2.2.2.2.2.2.2.1, below_cell bC hHeld.2.2.2.2.2.2.2.2.2.2.1, below_cell bC hHeld.2.2.2.2.2.2.2.2.2.2.2.1, below_cell bC hHeld.2.2.2.2.2.2.2.2.2.2.2.2.1, below_cell bC hHeld.2.2.2.2.2.2.2.2.2.2.2.2.2.1, below_cell bC hHeld.2.2.2.2.2.2.2.2.2.2.2.2.2.2⟩ : _ ∧ _ ∧ _ ∧ _ ∧ _ ∧ _ ∧ _ ∧ _ ∧ _ ∧ _ ∧ _ ∧ _ ∧ _ ∧ _ ∧ _)
  clear bC
  go_wp2_with fail
  clear b59
  refine hKK.out _ _ hHeld ?_
  clear hHeld
  intro hHeld
  clear hKK KK
  try simp only [Act.put, List.setIfInBounds_toArray, List.set_cons_zero, List.set_cons_succ]
  refine wpAnyH_ready (rs := [12]) (by kernel_rfl) (by simp) ?_
  refine cons' rfl (fun KK hKK => ?_)
  go_simp
  refine (GTC.out _ hB).mono ?_
  rintro e v60 ⟨p60, q60, rfl, b60, t60⟩
  have bC := b60
  replace okN := okN.on bC
  replace okcs := okcs.on bC
  replace okcm := okcm.on bC
  replace r55 := r55.on bC
  replace r58 := r58.on bC
  replace t59 := t59.on bC
  replace hB := hB.trans (bC.mono hB.size)
  replace cm0 := below_cell bC cm0
  replace cm1 := below_cell bC cm1
  replace cm2 := below_cell bC cm2
  replace hHeld := (⟨below_cell bC hHeld.1, below_cell bC hHeld.2.1, below_cell bC hHeld.2.2.1, below_cell bC hHeld.2.2.2.1, below_cell bC hHeld.2.2.2.2.1, below_cell bC hHeld.2.2.2.2.2.1, below_cell bC hHeld.2.2.2.2.2.2.1, below_cell bC hHeld.2.2.2.2.2.2.2.1, below_cell bC hHeld.2.2.2.2.2.2.2.2.1, below_cell bC hHeld.2.2.2.2.2.2.2.2.2.1, below_cell bC hHeld.2.2.2.2.2.2.2.2.2.2.1, below_cell bC hHeld.2.2.2.2.2.2.2.2.2.2.2.1, below_cell bC hHeld.2.2.2.2.2.2.2.2.2.2.2.2.1, below_cell bC hHeld.2.2.2.2.2.2.2.2.2.2.2.2.2.1, below_cell bC hHeld.2.2.2.2.2.2.2.2.2.2.2.2.2.2⟩ : _ ∧ _ ∧ _ ∧ _ ∧ _ ∧ _ ∧ _ ∧ _ ∧ _ ∧ _ ∧ _ ∧ _ ∧ _ ∧ _ ∧ _)
  clear bC
  go_wp2_with fail
  clear b60
  refine hKK.out _ _ hHeld ?_
  clear hHeld
  intro hHeld
  clear hKK KK
  try simp only [Act.put, List.setIfInBounds_toArray, List.set_cons_zero, List.set_cons_succ]
  refine wpAnyH_ready (rs := [13]) (by kernel_rfl) (by simp) ?_
  refine cons' rfl (fun KK hKK => ?_)
  go_simp
  refine (mulQ (twR B p59 q59) (twR C p60 q60) Q _ t59 t60 ⟨sB.1, sB.2, sC.1, sC.2⟩ eQ.out zQ.out).mono ?_
  rintro e v61 ⟨p61, q61, rfl, b61, r61⟩
  have bC := b61
  replace okN := okN.on bC
  replace okcs := okcs.on bC
  replace okcm := okcm.on bC
  replace r55 := r55.on bC
  replace r58 := r58.on bC
  replace t59 := t59.on bC
  replace t60 := t60.on bC
  replace hB := hB.trans (bC.mono hB.size)
  replace cm0 := below_cell bC cm0
  replace cm1 := below_cell bC cm1
  replace cm2 := below_cell bC cm2
  replace hHeld := (⟨below_cell bC hHeld.1, below_cell bC hHeld.2.1, below_cell bC hHeld.2.2.1, below_cell bC hHeld.2.2.2.1, below_cell bC hHeld.2.2.2.2.1, below_cell bC hHeld.2.2.2.2.2.1, below_cell bC hHeld.2.2.2.2.2.2.1, below_cell bC hHeld.2.2.2.2.2.2.2.1, below_cell bC hHeld.2.2.2.2.2.2.2.2.1, below_cell bC hHeld.2.2.2.2.2.2.2.2.2.1, below_cell bC hHeld.2.2.2.2.2.2.2.2.2.2.1, below_cell bC hHeld.2.2.2.2.2.2.2.2.2.2.2.1, below_cell bC hHeld.2.2.2.2.2.2.2.2.2.2.2.2.1, below_cell bC hHeld.2.2.2.2.2.2.2.2.2.2.2.2.2.1, below_cell bC hHeld.2.2.2.2.2.2.2.2.2.2.2.2.2.2⟩ : _ ∧ _ ∧ _ ∧ _ ∧ _ ∧ _ ∧ _ ∧ _ ∧ _ ∧ _ ∧ _ ∧ _ ∧ _ ∧ _ ∧ _)
  clear bC
  go_wp2_with fail
  clear b61
  clear t59
  clear t60
  refine hKK.out _ _ hHeld ?_
  clear hHeld
  intro hHeld
  clear hKK KK
  try simp only [Act.put, List.setIfInBounds_toArray, List.set_cons_zero, List.set_cons_succ]
  refine wpAnyH_ready (rs := [14]) (by kernel_rfl) (by simp) ?_
  refine cons' rfl (fun KK hKK => ?_)
  go_simp
  refine (addQ (nR X p58 q58) (nR Q p61 q61) R _ r58 r61 ⟨zX.out.1, zX.out.2, zQ.out.1, zQ.out.2⟩ (by rw [nR_val, nR_val]; exact fR.out) zR.out).mono ?_
  rintro e v62 ⟨p62, q62, rfl, b62, r62⟩
  have bC := b62
  replace okN := okN.on bC
  replace okcs := okcs.on bC
  replace okcm := okcm.on bC
  replace r55 := r55.on bC
  replace r58 := r58.on bC
  replace r61 := r61.on bC
  replace hB := hB.trans (bC.mono hB.size)
  replace cm0 := below_cell bC cm0
  replace cm1 := below_cell bC cm1
  replace cm2 := below_cell bC cm2
  replace hHeld := (⟨below_cell bC hHeld.1, below_cell bC hHeld.2.1, below_cell bC hHeld.2.2.1, below_cell bC hHeld.2.2.2.1, below_cell bC hHeld.2.2.2.2.1, below_cell bC hHeld.2.2.2.2.2.1, below_cell bC hHeld.2.2.2.2.2.2.1, below_cell bC hHeld.2.2.2.2.2.2.2.1, below_cell bC hHeld.2.2.2.2.2.2.2.2.1, below_cell bC hHeld.2.2.2.2.2.2.2.2.2.1, below_cell bC hHeld.2.2.2.2.2.2.2.2.2.2.1, below_cell bC hHeld.2.2.2.2.2.2.2.2.2.2.2.1, below_cell bC hHeld.2.2.2.2.2.2.2.2.2.2.2.2.1, below_cell bC hHeld.2.2.2.2.2.2.2.2.2.2.2.2.2.1, below_cell bC hHeld.2.2.2.2.2.2.2.2.2.2.2.2.2.2⟩ : _ ∧ _ ∧ _ ∧ _ ∧ _ ∧ _ ∧ _ ∧ _ ∧ _ ∧ _ ∧ _ ∧ _ ∧ _ ∧ _ ∧ _)
  clear bC
  go_wp2_with fail
  clear b62
  clear r58
  clear r61
  refine hKK.out _ _ hHeld ?_
  clear hHeld
  intro hHeld
  clear hKK KK
  try simp only [Act.put, List.setIfInBounds_toArray, List.set_cons_zero, List.set_cons_succ]
  refine wpAnyH_ready (rs := [15]) (by kernel_rfl) (by simp) ?_
  refine cons' rfl (fun KK hKK => ?_)
  go_simp
  refine (sameQ R _ _ _ _ _ r55 r62).mono ?_
  rintro e v63 ⟨rfl, b63⟩
  have bC := b63
  replace okN := okN.on bC
  replace okcs := okcs.on bC
  replace okcm := okcm.on bC
  replace r55 := r55.on bC
  replace r62 := r62.on bC
  replace hB := hB.trans (bC.mono hB.size)
  replace cm0 := below_cell bC cm0
  replace cm1 := below_cell bC cm1
  replace cm2 := below_cell bC cm2
  replace hHeld := (⟨below_cell bC hHeld.1, below_cell bC hHeld.2.1, below_cell bC hHeld.2.2.1, below_cell bC hHeld.2.2.2.1, below_cell bC hHeld.2.2.2.2.1, below_cell bC hHeld.2.2.2.2.2.1, below_cell bC hHeld.2.2.2.2.2.2.1, below_cell bC hHeld.2.2.2.2.2.2.2.1, below_cell bC hHeld.2.2.2.2.2.2.2.2.1, below_cell bC hHeld.2.2.2.2.2.2.2.2.2.1, below_cell bC hHeld.2.2.2.2.2.2.2.2.2.2.1, below_cell bC hHeld.2.2.2.2.2.2.2.2.2.2.2.1, below_cell bC hHeld.2.2.2.2.2.2.2.2.2.2.2.2.1, below_cell bC hHeld.2.2.2.2.2.2.2.2.2.2.2.2.2.1, below_cell bC hHeld.2.2.2.2.2.2.2.2.2.2.2.2.2.2⟩ : _ ∧ _ ∧ _ ∧ _ ∧ _ ∧ _ ∧ _ ∧ _ ∧ _ ∧ _ ∧ _ ∧ _ ∧ _ ∧ _ ∧ _)
  clear bC
  go_wp2_with fail
  clear b63
  clear r55
  clear r62
  refine hKK.out _ _ hHeld ?_
  clear hHeld
  intro hHeld
  clear hKK KK
  try simp only [Act.put, List.setIfInBounds_toArray, List.set_cons_zero, List.set_cons_succ]
  refine take' 16 (v := ?_) rfl (by kernel_rfl) (by kernel_rfl) (by kernel_rfl) (fun _ _ _ h => h) (Or.inl ⟨by rfl, ?_⟩) (by assumption) ?_
  rotate_left
  · intro w9 hSw
    go_simp
    first | done | with_reducible rfl
  simp only [Act.put, List.setIfInBounds_toArray, List.set_cons_zero, List.set_cons_succ]
  refine take' 17 (v := ?_) rfl (by kernel_rfl) (by kernel_rfl) (by kernel_rfl) (fun _ _ _ h => h) (Or.inl ⟨by rfl, ?_⟩) (by assumption) ?_
  rotate_left
  · intro w9 hSw
    go_simp
    first | done | with_reducible rfl
  simp only [Act.put, List.setIfInBounds_toArray, List.set_cons_zero, List.set_cons_succ]
  refine take' 18 (v := ?_) rfl (by kernel_rfl) (by kernel_rfl) (by kernel_rfl) (fun _ _ _ h => h) (Or.inl ⟨by rfl, ?_⟩) (by assumption) ?_
  rotate_left
  · intro w9 hSw
    go_simp
    first | done | with_reducible rfl
  simp only [Act.put, List.setIfInBounds_toArray, List.set_cons_zero, List.set_cons_succ]
  refine take' 19 (v := ?_) rfl (by kernel_rfl) (by kernel_rfl) (by kernel_rfl) (fun _ _ _ h => h) (Or.inl ⟨by rfl, ?_⟩) (by assumption) ?_
  rotate_left
  · intro w9 hSw
    go_simp
    first | done | with_reducible rfl
  simp only [Act.put, List.setIfInBounds_toArray, List.set_cons_zero, List.set_cons_succ]
  refine take' 22 (v := ?_) rfl (by kernel_rfl) (by kernel_rfl) (by kernel_rfl) (fun _ _ _ h => h) (Or.inl ⟨by rfl, ?_⟩) (by assumption) ?_
  rotate_left
  · intro w9 hSw
    go_simp
    first | done | with_reducible rfl
  simp only [Act.put, List.setIfInBounds_toArray, List.set_cons_zero, List.set_cons_succ]
  refine wpAnyH_ready (rs := [20]) (by kernel_rfl) (by simp) ?_
  refine cons' rfl (fun KK hKK => ?_)
  go_simp
  refine (GTB.out _ hB).mono ?_
  rintro e v64 ⟨p64, q64, rfl, b64, t64⟩
  have bC := b64
  replace okN := okN.on bC
  replace okcs := okcs.on bC
  replace okcm := okcm.on bC
  replace hB := hB.trans (bC.mono hB.size)
  replace cm0 := below_cell bC cm0
  replace cm1 := below_cell bC cm1
  replace cm2 := below_cell bC cm2
  replace hHeld := (⟨below_cell bC hHeld.1, below_cell bC hHeld.2.1, below_cell bC hHeld.2.2.1, below_cell bC hHeld.2.2.2.1, below_cell bC hHeld.2.2.2.2.1, below_cell bC hHeld.2.2.2.2.2.1, below_cell bC hHeld.2.2.2.2.2.2.1, below_cell bC hHeld.2.2.2.2.2.2.2.1, below_cell bC hHeld.2.2.2.2.2.2.2.2.1, below_cell bC hHeld.2.2.2.2.2.2.2.2.2.1, below_cell bC hHeld.2.2.2.2.2.2.2.2.2.2.1, below_cell bC hHeld.2.2.2.2.2.2.2.2.2.2.2.1, below_cell bC hHeld.2.2.2.2.2.2.2.2.2.2.2.2.1, below_cell bC hHeld.2.2.2.2.2.2.2.2.2.2.2.2.2.1, below_cell bC hHeld.2.2.2.2.2.2.2.2.2.2.2.2.2.2⟩ : _ ∧ _ ∧ _ ∧ _ ∧ _ ∧ _ ∧ _ ∧ _ ∧ _ ∧ _ ∧ _ ∧ _ ∧ _ ∧ _ ∧ _)
  clear bC
  go_wp2_with fail
  clear b64
  refine hKK.out _ _ hHeld ?_
  clear hHeld
  intro hHeld
  clear hKK KK
  try simp only [Act.put, List.setIfInBounds_toArray, List.set_cons_zero, List.set_cons_succ]
  refine wpAnyH_ready (rs := [21]) (by kernel_rfl) (by simp) ?_
  refine cons' rfl (fun KK hKK => ?_)
  go_simp
  refine (subQ (nR S csp csq) (twR B p64 q64) N1 _ okcs t64 ⟨zS.out.1, zS.out.2, sB.1, sB.2⟩ (by rw [nR_val]; exact fB.out) zN1.out).mono ?_
  rintro e v65 ⟨p65, q65, rfl, b65, r65⟩
  have bC := b65
  replace okN := okN.on bC
  replace okcs := okcs.on bC
  replace okcm := okcm.on bC
  replace t64 := t64.on bC
  replace hB := hB.trans (bC.mono hB.size)
  replace cm0 := below_cell bC cm0
  replace cm1 := below_cell bC cm1
  replace cm2 := below_cell bC cm2
  replace hHeld := (⟨below_cell bC hHeld.1, below_cell bC hHeld.2.1, below_cell bC hHeld.2.2.1, below_cell bC hHeld.2.2.2.1, below_cell bC hHeld.2.2.2.2.1, below_cell bC hHeld.2.2.2.2.2.1, below_cell bC hHeld.2.2.2.2.2.2.1, below_cell bC hHeld.2.2.2.2.2.2.2.1, below_cell bC hHeld.2.2.2.2.2.2.2.2.1, below_cell bC hHeld.2.2.2.2.2.2.2.2.2.1, below_cell bC hHeld.2.2.2.2.2.2.2.2.2.2.1, below_cell bC hHeld.2.2.2.2.2.2.2.2.2.2.2.1, below_cell bC hHeld.2.2.2.2.2.2.2.2.2.2.2.2.1, below_cell bC hHeld.2.2.2.2.2.2.2.2.2.2.2.2.2.1, below_cell bC hHeld.2.2.2.2.2.2.2.2.2.2.2.2.2.2⟩ : _ ∧ _ ∧ _ ∧ _ ∧ _ ∧ _ ∧ _ ∧ _ ∧ _ ∧ _ ∧ _ ∧ _ ∧ _ ∧ _ ∧ _)
  clear bC
  go_wp2_with fail
  clear b65
  clear t64
  refine hKK.out _ _ hHeld ?_
  clear hHeld
  intro hHeld
  clear hKK KK
  try simp only [Act.put, List.setIfInBounds_toArray, List.set_cons_zero, List.set_cons_succ]
  refine wpAnyH_ready (rs := [23]) (by kernel_rfl) (by simp) ?_
  refine cons' rfl (fun KK hKK => ?_)
  go_simp
  refine (sameQ N1 _ _ _ _ _ r65 okN).mono ?_
  rintro e v66 ⟨rfl, b66⟩
  have bC := b66
  replace okN := okN.on bC
  replace okcs := okcs.on bC
  replace okcm := okcm.on bC
  replace r65 := r65.on bC
  replace hB := hB.trans (bC.mono hB.size)
  replace cm0 := below_cell bC cm0
  replace cm1 := below_cell bC cm1
  replace cm2 := below_cell bC cm2
  replace hHeld := (⟨below_cell bC hHeld.1, below_cell bC hHeld.2.1, below_cell bC hHeld.2.2.1, below_cell bC hHeld.2.2.2.1, below_cell bC hHeld.2.2.2.2.1, below_cell bC hHeld.2.2.2.2.2.1, below_cell bC hHeld.2.2.2.2.2.2.1, below_cell bC hHeld.2.2.2.2.2.2.2.1, below_cell bC hHeld.2.2.2.2.2.2.2.2.1, below_cell bC hHeld.2.2.2.2.2.2.2.2.2.1, below_cell bC hHeld.2.2.2.2.2.2.2.2.2.2.1, below_cell bC hHeld.2.2.2.2.2.2.2.2.2.2.2.1, below_cell bC hHeld.2.2.2.2.2.2.2.2.2.2.2.2.1, below_cell bC hHeld.2.2.2.2.2.2.2.2.2.2.2.2.2.1, below_cell bC hHeld.2.2.2.2.2.2.2.2.2.2.2.2.2.2⟩ : _ ∧ _ ∧ _ ∧ _ ∧ _ ∧ _ ∧ _ ∧ _ ∧ _ ∧ _ ∧ _ ∧ _ ∧ _ ∧ _ ∧ _)
  clear bC
  go_wp2_with fail
  clear b66
  clear r65
  refine hKK.out _ _ hHeld ?_
  clear hHeld
  intro hHeld
  clear hKK KK
  try simp only [Act.put, List.setIfInBounds_toArray, List.set_cons_zero, List.set_cons_succ]
  refine take' 24 (v := ?_) rfl (by kernel_rfl) (by kernel_rfl) (by kernel_rfl) (fun _ _ _ h => h) (Or.inl ⟨by rfl, ?_⟩) (by assumption) ?_
  rotate_left
  · intro w9 hSw
    go_simp
    first | done | with_reducible rfl
  simp only [Act.put, List.setIfInBounds_toArray, List.set_cons_zero, List.set_cons_succ]
  refine take' 25 (v := ?_) rfl (by kernel_rfl) (by kernel_rfl) (by kernel_rfl) (fun _ _ _ h => h) (Or.inl ⟨by rfl, ?_⟩) (by assumption) ?_
  rotate_left
  · intro w9 hSw
    go_simp
    first | done | with_reducible rfl
  simp only [Act.put, List.setIfInBounds_toArray, List.set_cons_zero, List.set_cons_succ]
  refine wpAnyH_done (by kernel_rfl) ?_ _
  go_wp2_with fail
  have ca0 := hHeld.1
  have ca1 := hHeld.2.1
  have ca2 := hHeld.2.2.1
  have cb0 := hHeld.2.2.2.1
  have cb1 := hHeld.2.2.2.2.1
  have cb2 := hHeld.2.2.2.2.2.1
  have cc0 := hHeld.2.2.2.2.2.2.1
  have cc1 := hHeld.2.2.2.2.2.2.2.1
  have cc2 := hHeld.2.2.2.2.2.2.2.2.1
  have cn0 := hHeld.2.2.2.2.2.2.2.2.2.1
  have cn1 := hHeld.2.2.2.2.2.2.2.2.2.2.1
  have cn2 := hHeld.2.2.2.2.2.2.2.2.2.2.2.1
  have cs0 := hHeld.2.2.2.2.2.2.2.2.2.2.2.2.1
  have cs1 := hHeld.2.2.2.2.2.2.2.2.2.2.2.2.2.1
  have cs2 := hHeld.2.2.2.2.2.2.2.2.2.2.2.2.2.2
  clear hHeld
  have hs6 : w.heap.size + 1 + 1 < v66.heap.size := World.block_lt_of_cell? v66 _ cc0
  replace hs4 : w.heap.size + 3 ≤ v66.heap.size := by omega
  clear hs6
  have bW : Below v66.heap.size v66 v66 := Below.refl _ _
  go_cut [10, 11] from 102 to 109 (fun s10_ s11_ wx => ∃ c, s10_ = .pointer (some ⟨c, 0, none⟩) ∧ s11_ = .int .i64 11 ∧ v66.heap.size ≤ c ∧ wx.cell? ⟨c, 0, none⟩ = some (.bool false) ∧ wx.cell? ⟨c, 1, none⟩ = some (.slice none 0 0) ∧ wx.cell? ⟨c, 2, none⟩ = some (.slice none 0 0) ∧ Below v66.heap.size v66 wx)
  case first =>
    have bD : Below v66.heap.size v66 v66.drew := (Below.refl _ _).drew
    have kca0 := below_cell bD ca0
    have kca1 := below_cell bD ca1
    have kca2 := below_cell bD ca2
    have kcc0 := below_cell bD cc0
    have kcc1 := below_cell bD cc1
    have kcc2 := below_cell bD cc2
    replace hB := hB.trans (bD.mono hB.size)
    replace bW := bW.trans (bD.mono bW.size)
    refine wp_region_held_drew (S := fun w' => w'.cell? ⟨w.heap.size, 0, none⟩ = some (.bool A.s) ∧ w'.cell? ⟨w.heap.size, 1, none⟩ = some (.slice A.a A.n A.c) ∧ w'.cell? ⟨w.heap.size, 2, none⟩ = some (.slice A.b A.m A.e) ∧ w'.cell? ⟨w.heap.size + 1 + 1, 0, none⟩ = some (.bool C.s) ∧ w'.cell? ⟨w.heap.size + 1 + 1, 1, none⟩ = some (.slice C.a C.n C.c) ∧ w'.cell? ⟨w.heap.size + 1 + 1, 2, none⟩ = some (.slice C.b C.m C.e)) (by kernel_rfl) ⟨kca0, kca1, kca2, kcc0, kcc1, kcc2⟩ (fun hHeld => ?_)
    clear kca0 kca1 kca2 kcc0 kcc1 kcc2
    generalize v66.drew = w0 at bD hB bW hHeld ⊢
    refine take' 0 (v := ?_) rfl (by kernel_rfl) (by kernel_rfl) (by kernel_rfl) (fun _ _ _ h => h) (Or.inl ⟨by rfl, ?_⟩) (by assumption) ?_
    rotate_left
    · intro w9 hSw
      go_simp
      first | done | with_reducible rfl
    simp only [Act.put, List.setIfInBounds_toArray, List.set_cons_zero, List.set_cons_succ]
    refine take' 2 (v := ?_) rfl (by kernel_rfl) (by kernel_rfl) (by kernel_rfl) (fun _ _ _ h => h) (Or.inl ⟨by rfl, ?_⟩) (by assumption) ?_
    rotate_left
    · intro w9 hSw
      go_simp
      first | done | with_reducible rfl
    simp only [Act.put, List.setIfInBounds_toArray, List.set_cons_zero, List.set_cons_succ]
    refine wpAnyH_ready (rs := [1, 8]) (by kernel_rfl) (by simp) ?_
    refine consT rfl (fun KK hKK => ?_) ?_
    · skip
      go_simp
      refine (GTA.out _ hB).mono ?_
      rintro e v67 ⟨p67, q67, rfl, b67, t67⟩
      have bC := b67
      replace hB := hB.trans (bC.mono hB.size)
      replace bW := bW.trans (bC.mono bW.size)
      replace hHeld := (⟨below_cell bC hHeld.1, below_cell bC hHeld.2.1, below_cell bC hHeld.2.2.1, below_cell bC hHeld.2.2.2.1, below_cell bC hHeld.2.2.2.2.1, below_cell bC hHeld.2.2.2.2.2⟩ : _ ∧ _ ∧ _ ∧ _ ∧ _ ∧ _)
      clear bC
      go_wp2_with fail
      clear b67
      refine hKK.out _ _ hHeld ?_
      clear hHeld
      intro hHeld
      clear hKK KK
      try simp only [Act.put, List.setIfInBounds_toArray, List.set_cons_zero, List.set_cons_succ]
      refine wpAnyH_ready (rs := [3, 8]) (by kernel_rfl) (by simp) ?_
      refine consT rfl (fun KK hKK => ?_) ?_
      · skip
        go_simp
        refine (GTC.out _ hB).mono ?_
        rintro e v68 ⟨p68, q68, rfl, b68, t68⟩
        have bC := b68
        replace t67 := t67.on bC
        replace hB := hB.trans (bC.mono hB.size)
        replace bW := bW.trans (bC.mono bW.size)
        replace hHeld := (⟨below_cell bC hHeld.1, below_cell bC hHeld.2.1, below_cell bC hHeld.2.2.1, below_cell bC hHeld.2.2.2.1, below_cell bC hHeld.2.2.2.2.1, below_cell bC hHeld.2.2.2.2.2⟩ : _ ∧ _ ∧ _ ∧ _ ∧ _ ∧ _)
        clear bC
        go_wp2_with fail
        clear b68
        refine hKK.out _ _ hHeld ?_
        clear hHeld
        intro hHeld
        clear hKK KK
        try simp only [Act.put, List.setIfInBounds_toArray, List.set_cons_zero, List.set_cons_succ]
        refine wpAnyH_ready (rs := [4, 8]) (by kernel_rfl) (by simp) ?_
        refine consT rfl (fun KK hKK => ?_) ?_
        · skip
          go_simp
          refine (divQ_zero (twR A p67 q67) (twR C p68 q68) _ t67 t68 ⟨sA.1, sA.2, sC.1, sC.2⟩ h0.out).mono ?_
          rintro e v69 ⟨rfl, b69⟩
          have bC := b69
          replace t67 := t67.on bC
          replace t68 := t68.on bC
          replace hB := hB.trans (bC.mono hB.size)
          replace bW := bW.trans (bC.mono bW.size)
          replace hHeld := (⟨below_cell bC hHeld.1, below_cell bC hHeld.2.1, below_cell bC hHeld.2.2.1, below_cell bC hHeld.2.2.2.1, below_cell bC hHeld.2.2.2.2.1, below_cell bC hHeld.2.2.2.2.2⟩ : _ ∧ _ ∧ _ ∧ _ ∧ _ ∧ _)
          clear bC
          go_wp2_with fail
          clear b69
          clear t67
          clear t68
          refine hKK.out _ _ hHeld ?_
          clear hHeld
          intro hHeld
          clear hKK KK
          try simp only [Act.put, List.setIfInBounds_toArray, List.set_cons_zero, List.set_cons_succ]
          refine take' 5 (v := ?_) rfl (by kernel_rfl) (by kernel_rfl) (by kernel_rfl) (fun _ _ _ h => h) (Or.inl ⟨by rfl, ?_⟩) (by assumption) ?_
          rotate_left
          · intro w9 hSw
            go_simp
            first | done | with_reducible rfl
          simp only [Act.put, List.setIfInBounds_toArray, List.set_cons_zero, List.set_cons_succ]
          refine take' 6 (v := ?_) rfl (by kernel_rfl) (by kernel_rfl) (by kernel_rfl) (fun _ _ _ h => h) (Or.inl ⟨by rfl, ?_⟩) (by assumption) ?_
          rotate_left
          · intro w9 hSw
            go_simp
            first | done | with_reducible rfl
          simp only [Act.put, List.setIfInBounds_toArray, List.set_cons_zero, List.set_cons_succ]
          refine take' 7 (v := ?_) rfl (by kernel_rfl) (by kernel_rfl) (by kernel_rfl) (fun _ _ _ h => h) (Or.inl ⟨by rfl, ?_⟩) (by assumption) ?_
          rotate_left
          · intro w9 hSw
            go_simp
            first | done | with_reducible rfl
          simp only [Act.put, List.setIfInBounds_toArray, List.set_cons_zero, List.set_cons_succ]
          refine wpAnyH_ready (rs := [8]) (by kernel_rfl) (by simp) ?_
          refine cons' rfl (fun KK hKK => ?_)
          go_simp
          have y0 : (v69.alloc (.cells #[.bool false, .slice none 0 0, .slice none 0 0] 27)).cell? ⟨v69.heap.size, 0, none⟩ = some (.bool false) := by go_simp
          have y1 : (v69.alloc (.cells #[.bool false, .slice none 0 0, .slice none 0 0] 27)).cell? ⟨v69.heap.size, 1, none⟩ = some (.slice none 0 0) := by go_simp
          have y2 : (v69.alloc (.cells #[.bool false, .slice none 0 0, .slice none 0 0] 27)).cell? ⟨v69.heap.size, 2, none⟩ = some (.slice none 0 0) := by go_simp
          have yR := row_new v69 #[.bool false, .slice none 0 0, .slice none 0 0] 27
          have yb := bW.size
          have b3 := below_alloc (w := v69) (.cells #[.bool false, .slice none 0 0, .slice none 0 0] 27)
          generalize v69.alloc (.cells #[.bool false, .slice none 0 0, .slice none 0 0] 27) = x70 at y0 y1 y2 yR b3 ⊢
          replace hB := hB.trans (b3.mono hB.size)
          replace bW := bW.trans (b3.mono bW.size)
          replace hHeld := (⟨below_cell b3 hHeld.1, below_cell b3 hHeld.2.1, below_cell b3 hHeld.2.2.1, below_cell b3 hHeld.2.2.2.1, below_cell b3 hHeld.2.2.2.2.1, below_cell b3 hHeld.2.2.2.2.2⟩ : _ ∧ _ ∧ _ ∧ _ ∧ _ ∧ _)
          clear b3
          refine hKK.out _ _ hHeld ?_
          clear hHeld
          intro hHeld
          clear hKK KK
          try simp only [Act.put, List.setIfInBounds_toArray, List.set_cons_zero, List.set_cons_succ]
          refine wpAnyH_ready (rs := [9]) (by kernel_rfl) (by simp) ?_
          refine cons' rfl (fun KK hKK => ?_)
          have fz := fun o => yR.frozen o
          have kA := st3_at (u0 := .bool false) (u1 := .slice none 0 0) (u2 := .slice none 0 0) y0 y1 y2
          have kB := st3_bel (u0 := .bool false) (u1 := .slice none 0 0) (u2 := .slice none 0 0) bW yb
          have hH2 := (⟨st3_far (c := v69.heap.size) (u0 := .bool false) (u1 := .slice none 0 0) (u2 := .slice none 0 0) hHeld.1 (by have := hs4; omega), st3_far (c := v69.heap.size) (u0 := .bool false) (u1 := .slice none 0 0) (u2 := .slice none 0 0) hHeld.2.1 (by have := hs4; omega), st3_far (c := v69.heap.size) (u0 := .bool false) (u1 := .slice none 0 0) (u2 := .slice none 0 0) hHeld.2.2.1 (by have := hs4; omega), st3_far (c := v69.heap.size) (u0 := .bool false) (u1 := .slice none 0 0) (u2 := .slice none 0 0) hHeld.2.2.2.1 (by have := hs4; omega), st3_far (c := v69.heap.size) (u0 := .bool false) (u1 := .slice none 0 0) (u2 := .slice none 0 0) hHeld.2.2.2.2.1 (by have := hs4; omega), st3_far (c := v69.heap.size) (u0 := .bool false) (u1 := .slice none 0 0) (u2 := .slice none 0 0) hHeld.2.2.2.2.2 (by have := hs4; omega)⟩ : _ ∧ _ ∧ _ ∧ _ ∧ _ ∧ _)
          unfold st3 at kA kB hH2
          go_simp
          refine hKK.out _ _ hH2 ?_
          clear hHeld
          intro hHeld
          clear hKK KK
          try simp only [Act.put, List.setIfInBounds_toArray, List.set_cons_zero, List.set_cons_succ]
          refine take' 10 (v := ?_) rfl (by kernel_rfl) (by kernel_rfl) (by kernel_rfl) (fun _ _ _ h => h) (Or.inl ⟨by rfl, ?_⟩) (by assumption) ?_
          rotate_left
          · intro w9 hSw
            go_simp
            first | done | with_reducible rfl
          simp only [Act.put, List.setIfInBounds_toArray, List.set_cons_zero, List.set_cons_succ]
          refine wpAnyH_done (by kernel_rfl) ?_ _
          go_wp2_with fail
          go_meet
          exact ⟨_, rfl, rfl, yb, kA.1, kA.2.1, kA.2.2, kB⟩
        refine consT rfl (fun KK hKK => ?_) ?_
        · skip
          go_simp
          have y0 : (v68.alloc (.cells #[.bool false, .slice none 0 0, .slice none 0 0] 27)).cell? ⟨v68.heap.size, 0, none⟩ = some (.bool false) := by go_simp
          have y1 : (v68.alloc (.cells #[.bool false, .slice none 0 0, .slice none 0 0] 27)).cell? ⟨v68.heap.size, 1, none⟩ = some (.slice none 0 0) := by go_simp
          have y2 : (v68.alloc (.cells #[.bool false, .slice none 0 0, .slice none 0 0] 27)).cell? ⟨v68.heap.size, 2, none⟩ = some (.slice none 0 0) := by go_simp
          have yR := row_new v68 #[.bool false, .slice none 0 0, .slice none 0 0] 27
          have yb := bW.size
          have b3 := below_alloc (w := v68) (.cells #[.bool false, .slice none 0 0, .slice none 0 0] 27)
          generalize v68.alloc (.cells #[.bool false, .slice none 0 0, .slice none 0 0] 27) = x71 at y0 y1 y2 yR b3 ⊢
          replace t67 := t67.on b3
          replace t68 := t68.on b3
          replace hB := hB.trans (b3.mono hB.size)
          replace bW := bW.trans (b3.mono bW.size)
          replace hHeld := (⟨below_cell b3 hHeld.1, below_cell b3 hHeld.2.1, below_cell b3 hHeld.2.2.1, below_cell b3 hHeld.2.2.2.1, below_cell b3 hHeld.2.2.2.2.1, below_cell b3 hHeld.2.2.2.2.2⟩ : _ ∧ _ ∧ _ ∧ _ ∧ _ ∧ _)
          clear b3
          refine hKK.out _ _ hHeld ?_
          clear hHeld
          intro hHeld
          clear hKK KK
          try simp only [Act.put, List.setIfInBounds_toArray, List.set_cons_zero, List.set_cons_succ]
          refine wpAnyH_ready (rs := [4]) (by kernel_rfl) (by simp) ?_
          refine cons' rfl (fun KK hKK => ?_)
          go_simp
          refine (divQ_zero (twR A p67 q67) (twR C p68 q68) _ t67 t68 ⟨sA.1, sA.2, sC.1, sC.2⟩ h0.out).mono ?_
          rintro e v72 ⟨rfl, b72⟩
          have bC := b72
          replace t67 := t67.on bC
          replace t68 := t68.on bC
          replace hB := hB.trans (bC.mono hB.size)
          replace bW := bW.trans (bC.mono bW.size)
          replace y0 := below_cell bC y0
          replace y1 := below_cell bC y1
          replace y2 := below_cell bC y2
          replace yR := below_row bC yR
          replace hHeld := (⟨below_cell bC hHeld.1, below_cell bC hHeld.2.1, below_cell bC hHeld.2.2.1, below_cell bC hHeld.2.2.2.1, below_cell bC hHeld.2.2.2.2.1, below_cell bC hHeld.2.2.2.2.2⟩ : _ ∧ _ ∧ _ ∧ _ ∧ _ ∧ _)
          clear bC
          go_wp2_with fail
          clear b72
          clear t67
          clear t68
          refine hKK.out _ _ hHeld ?_
          clear hHeld
          intro hHeld
          clear hKK KK
          try simp only [Act.put, List.setIfInBounds_toArray, List.set_cons_zero, List.set_cons_succ]
          refine take' 5 (v := ?_) rfl (by kernel_rfl) (by kernel_rfl) (by kernel_rfl) (fun _ _ _ h => h) (Or.inl ⟨by rfl, ?_⟩) (by assumption) ?_
          rotate_left
          · intro w9 hSw
            go_simp
            first | done | with_reducible rfl
          simp only [Act.put, List.setIfInBounds_toArray, List.set_cons_zero, List.set_cons_succ]
          refine take' 6 (v := ?_) rfl (by kernel_rfl) (by kernel_rfl) (by kernel_rfl) (fun _ _ _ h => h) (Or.inl ⟨by rfl, ?_⟩) (by assumption) ?_
          rotate_left
          · intro w9 hSw
            go_simp
            first | done | with_reducible rfl
          simp only [Act.put, List.setIfInBounds_toArray, List.set_cons_zero, List.set_cons_succ]
          refine take' 7 (v := ?_) rfl (by kernel_rfl) (by kernel_rfl) (by kernel_rfl) (fun _ _ _ h => h) (Or.inl ⟨by rfl, ?_⟩) (by assumption) ?_
          rotate_left
          · intro w9 hSw
            go_simp
            first | done | with_reducible rfl
          simp only [Act.put, List.setIfInBounds_toArray, List.set_cons_zero, List.set_cons_succ]
          refine wpAnyH_ready (rs := [9]) (by kernel_rfl) (by simp) ?_
          refine cons' rfl (fun KK hKK => ?_)
          have fz := fun o => yR.frozen o
          have kA := st3_at (u0 := .bool false) (u1 := .slice none 0 0) (u2 := .slice none 0 0) y0 y1 y2
          have kB := st3_bel (u0 := .bool false) (u1 := .slice none 0 0) (u2 := .slice none 0 0) bW yb
          have hH2 := (⟨st3_far (c := v68.heap.size) (u0 := .bool false) (u1 := .slice none 0 0) (u2 := .slice none 0 0) hHeld.1 (by have := hs4; omega), st3_far (c := v68.heap.size) (u0 := .bool false) (u1 := .slice none 0 0) (u2 := .slice none 0 0) hHeld.2.1 (by have := hs4; omega), st3_far (c := v68.heap.size) (u0 := .bool false) (u1 := .slice none 0 0) (u2 := .slice none 0 0) hHeld.2.2.1 (by have := hs4; omega), st3_far (c := v68.heap.size) (u0 := .bool false) (u1 := .slice none 0 0) (u2 := .slice none 0 0) hHeld.2.2.2.1 (by have := hs4; omega), st3_far (c := v68.heap.size) (u0 := .bool false) (u1 := .slice none 0 0) (u2 := .slice none 0 0) hHeld.2.2.2.2.1 (by have := hs4; omega), st3_far (c := v68.heap.size) (u0 := .bool false) (u1 := .slice none 0 0) (u2 := .slice none 0 0) hHeld.2.2.2.2.2 (by have := hs4; omega)⟩ : _ ∧ _ ∧ _ ∧ _ ∧ _ ∧ _)
          unfold st3 at kA kB hH2
          go_simp
          refine hKK.out _ _ hH2 ?_
          clear hHeld
          intro hHeld
          clear hKK KK
          try simp only [Act.put, List.setIfInBounds_toArray, List.set_cons_zero, List.set_cons_succ]
          refine take' 10 (v := ?_) rfl (by kernel_rfl) (by kernel_rfl) (by kernel_rfl) (fun _ _ _ h => h) (Or.inl ⟨by rfl, ?_⟩) (by assumption) ?_
          rotate_left
          · intro w9 hSw
            go_simp
            first | done | with_reducible rfl
          simp only [Act.put, List.setIfInBounds_toArray, List.set_cons_zero, List.set_cons_succ]
          refine wpAnyH_done (by kernel_rfl) ?_ _
          go_wp2_with fail
          go_meet
          exact ⟨_, rfl, rfl, yb, kA.1, kA.2.1, kA.2.2, kB⟩
        exact AllReadyH.nil
      refine consT rfl (fun KK hKK => ?_) ?_
      · skip
        go_simp
        have y0 : (v67.alloc (.cells #[.bool false, .slice none 0 0, .slice none 0 0] 27)).cell? ⟨v67.heap.size, 0, none⟩ = some (.bool false) := by go_simp
        have y1 : (v67.alloc (.cells #[.bool false, .slice none 0 0, .slice none 0 0] 27)).cell? ⟨v67.heap.size, 1, none⟩ = some (.slice none 0 0) := by go_simp
        have y2 : (v67.alloc (.cells #[.bool false, .slice none 0 0, .slice none 0 0] 27)).cell? ⟨v67.heap.size, 2, none⟩ = some (.slice none 0 0) := by go_simp
        have yR := row_new v67 #[.bool false, .slice none 0 0, .slice none 0 0] 27
        have yb := bW.size
        have b3 := below_alloc (w := v67) (.cells #[.bool false, .slice none 0 0, .slice none 0 0] 27)
        generalize v67.alloc (.cells #[.bool false, .slice none 0 0, .slice none 0 0] 27) = x73 at y0 y1 y2 yR b3 ⊢
        replace t67 := t67.on b3
        replace hB := hB.trans (b3.mono hB.size)
        replace bW := bW.trans (b3.mono bW.size)
        replace hHeld := (⟨below_cell b3 hHeld.1, below_cell b3 hHeld.2.1, below_cell b3 hHeld.2.2.1, below_cell b3 hHeld.2.2.2.1, below_cell b3 hHeld.2.2.2.2.1, below_cell b3 hHeld.2.2.2.2.2⟩ : _ ∧ _ ∧ _ ∧ _ ∧ _ ∧ _)
        clear b3
        refine hKK.out _ _ hHeld ?_
        clear hHeld
        intro hHeld
        clear hKK KK
        try simp only [Act.put, List.setIfInBounds_toArray, List.set_cons_zero, List.set_cons_succ]
        refine wpAnyH_ready (rs := [3]) (by kernel_rfl) (by simp) ?_
        refine cons' rfl (fun KK hKK => ?_)
        go_simp
        refine (GTC.out _ hB).mono ?_
        rintro e v74 ⟨p74, q74, rfl, b74, t74⟩
        have bC := b74
        replace t67 := t67.on bC
        replace hB := hB.trans (bC.mono hB.size)
        replace bW := bW.trans (bC.mono bW.size)
        replace y0 := below_cell bC y0
        replace y1 := below_cell bC y1
        replace y2 := below_cell bC y2
        replace yR := below_row bC yR
        replace hHeld := (⟨below_cell bC hHeld.1, below_cell bC hHeld.2.1, below_cell bC hHeld.2.2.1, below_cell bC hHeld.2.2.2.1, below_cell bC hHeld.2.2.2.2.1, below_cell bC hHeld.2.2.2.2.2⟩ : _ ∧ _ ∧ _ ∧ _ ∧ _ ∧ _)
        clear bC
        go_wp2_with fail
        clear b74
        refine hKK.out _ _ hHeld ?_
        clear hHeld
        intro hHeld
        clear hKK KK
        try simp only [Act.put, List.setIfInBounds_toArray, List.set_cons_zero, List.set_cons_succ]
        refine wpAnyH_ready (rs := [4]) (by kernel_rfl) (by simp) ?_
        refine cons' rfl (fun KK hKK => ?_)
        go_simp
        refine (divQ_zero (twR A p67 q67) (twR C p74 q74) _ t67 t74 ⟨sA.1, sA.2, sC.1, sC.2⟩ h0.out).mono ?_
        rintro e v75 ⟨rfl, b75⟩
        have bC := b75
        replace t67 := t67.on bC
        replace t74 := t74.on bC
        replace hB := hB.trans (bC.mono hB.size)
        replace bW := bW.trans (bC.mono bW.size)
        replace y0 := below_cell bC y0
        replace y1 := below_cell bC y1
        replace y2 := below_cell bC y2
        replace yR := below_row bC yR
        replace hHeld := (⟨below_cell bC hHeld.1, below_cell bC hHeld.2.1, below_cell bC hHeld.2.2.1, below_cell bC hHeld.2.2.2.1, below_cell bC hHeld.2.2.2.2.1, below_cell bC hHeld.2.2.2.2.2⟩ : _ ∧ _ ∧ _ ∧ _ ∧ _ ∧ _)
        clear bC
        go_wp2_with fail
        clear b75
        clear t67
        clear t74
        refine hKK.out _ _ hHeld ?_
        clear hHeld
        intro hHeld
        clear hKK KK
        try simp only [Act.put, List.setIfInBounds_toArray, List.set_cons_zero, List.set_cons_succ]
        refine take' 5 (v := ?_) rfl (by kernel_rfl) (by kernel_rfl) (by kernel_rfl) (fun _ _ _ h => h) (Or.inl ⟨by rfl, ?_⟩) (by assumption) ?_
        rotate_left
        · intro w9 hSw
          go_simp
          first | done | with_reducible rfl
        simp only [Act.put, List.setIfInBounds_toArray, List.set_cons_zero, List.set_cons_succ]
        refine take' 6 (v := ?_) rfl (by kernel_rfl) (by kernel_rfl) (by kernel_rfl) (fun _ _ _ h => h) (Or.inl ⟨by rfl, ?_⟩) (by assumption) ?_
        rotate_left
        · intro w9 hSw
          go_simp
          first | done | with_reducible rfl
        simp only [Act.put, List.setIfInBounds_toArray, List.set_cons_zero, List.set_cons_succ]
        refine take' 7 (v := ?_) rfl (by kernel_rfl) (by kernel_rfl) (by kernel_rfl) (fun _ _ _ h => h) (Or.inl ⟨by rfl, ?_⟩) (by assumption) ?_
        rotate_left
        · intro w9 hSw
          go_simp
          first | done | with_reducible rfl
        simp only [Act.put, List.setIfInBounds_toArray, List.set_cons_zero, List.set_cons_succ]
        refine wpAnyH_ready (rs := [9]) (by kernel_rfl) (by simp) ?_
        refine cons' rfl (fun KK hKK => ?_)
        have fz := fun o => yR.frozen o
        have kA := st3_at (u0 := .bool false) (u1 := .slice none 0 0) (u2 := .slice none 0 0) y0 y1 y2
        have kB := st3_bel (u0 := .bool false) (u1 := .slice none 0 0) (u2 := .slice none 0 0) bW yb
        have hH2 := (⟨st3_far (c := v67.heap.size) (u0 := .bool false) (u1 := .slice none 0 0) (u2 := .slice none 0 0) hHeld.1 (by have := hs4; omega), st3_far (c := v67.heap.size) (u0 := .bool false) (u1 := .slice none 0 0) (u2 := .slice none 0 0) hHeld.2.1 (by have := hs4; omega), st3_far (c := v67.heap.size) (u0 := .bool false) (u1 := .slice none 0 0) (u2 := .slice none 0 0) hHeld.2.2.1 (by have := hs4; omega), st3_far (c := v67.heap.size) (u0 := .bool false) (u1 := .slice none 0 0) (u2 := .slice none 0 0) hHeld.2.2.2.1 (by have := hs4; omega), st3_far (c := v67.heap.size) (u0 := .bool false) (u1 := .slice none 0 0) (u2 := .slice none 0 0) hHeld.2.2.2.2.1 (by have := hs4; omega), st3_far (c := v67.heap.size) (u0 := .bool false) (u1 := .slice none 0 0) (u2 := .slice none 0 0) hHeld.2.2.2.2.2 (by have := hs4; omega)⟩ : _ ∧ _ ∧ _ ∧ _ ∧ _ ∧ _)
        unfold st3 at kA kB hH2
        go_simp
        refine hKK.out _ _ hH2 ?_
        clear hHeld
        intro hHeld
        clear hKK KK
        try simp only [Act.put, List.setIfInBounds_toArray, List.set_cons_zero, List.set_cons_succ]
        refine take' 10 (v := ?_) rfl (by kernel_rfl) (by kernel_rfl) (by kernel_rfl) (fun _ _ _ h => h) (Or.inl ⟨by rfl, ?_⟩) (by assumption) ?_
        rotate_left
        · intro w9 hSw
          go_simp
          first | done | with_reducible rfl
        simp only [Act.put, List.setIfInBounds_toArray, List.set_cons_zero, List.set_cons_succ]
        refine wpAnyH_done (by kernel_rfl) ?_ _
        go_wp2_with fail
        go_meet
        exact ⟨_, rfl, rfl, yb, kA.1, kA.2.1, kA.2.2, kB⟩
      exact AllReadyH.nil
    refine consT rfl (fun KK hKK => ?_) ?_
    · skip
      go_simp
      have y0 : (w0.alloc (.cells #[.bool false, .slice none 0 0, .slice none 0 0] 27)).cell? ⟨w0.heap.size, 0, none⟩ = some (.bool false) := by go_simp
      have y1 : (w0.alloc (.cells #[.bool false, .slice none 0 0, .slice none 0 0] 27)).cell? ⟨w0.heap.size, 1, none⟩ = some (.slice none 0 0) := by go_simp
      have y2 : (w0.alloc (.cells #[.bool false, .slice none 0 0, .slice none 0 0] 27)).cell? ⟨w0.heap.size, 2, none⟩ = some (.slice none 0 0) := by go_simp
      have yR := row_new w0 #[.bool false, .slice none 0 0, .slice none 0 0] 27
      have yb := bW.size
      have b3 := below_alloc (w := w0) (.cells #[.bool false, .slice none 0 0, .slice none 0 0] 27)
      generalize w0.alloc (.cells #[.bool false, .slice none 0 0, .slice none 0 0] 27) = x76 at y0 y1 y2 yR b3 ⊢
      replace hB := hB.trans (b3.mono hB.size)
      replace bW := bW.trans (b3.mono bW.size)
      replace hHeld := (⟨below_cell b3 hHeld.1, below_cell b3 hHeld.2.1, below_cell b3 hHeld.2.2.1, below_cell b3 hHeld.2.2.2.1, below_cell b3 hHeld.2.2.2.2.1, below_cell b3 hHeld.2.2.2.2.2⟩ : _ ∧ _ ∧ _ ∧ _ ∧ _ ∧ _)
      clear b3
      refine hKK.out _ _ hHeld ?_
      clear hHeld
      intro hHeld
      clear hKK KK
      try simp only [Act.put, List.setIfInBounds_toArray, List.set_cons_zero, List.set_cons_succ]
      refine wpAnyH_ready (rs := [1]) (by kernel_rfl) (by simp) ?_
      refine cons' rfl (fun KK hKK => ?_)
      go_simp
      refine (GTA.out _ hB).mono ?_
      rintro e v77 ⟨p77, q77, rfl, b77, t77⟩
      have bC := b77
      replace hB := hB.trans (bC.mono hB.size)
      replace bW := bW.trans (bC.mono bW.size)
      replace y0 := below_cell bC y0
      replace y1 := below_cell bC y1
      replace y2 := below_cell bC y2
      replace yR := below_row bC yR
      replace hHeld := (⟨below_cell bC hHeld.1, below_cell bC hHeld.2.1, below_cell bC hHeld.2.2.1, below_cell bC hHeld.2.2.2.1, below_cell bC hHeld.2.2.2.2.1, below_cell bC hHeld.2.2.2.2.2⟩ : _ ∧ _ ∧ _ ∧ _ ∧ _ ∧ _)
      clear bC
      go_wp2_with fail
      clear b77
      refine hKK.out _ _ hHeld ?_
      clear hHeld
      intro hHeld
      clear hKK KK
      try simp only [Act.put, List.setIfInBounds_toArray, List.set_cons_zero, List.set_cons_succ]
      refine wpAnyH_ready (rs := [3]) (by kernel_rfl) (by simp) ?_
      refine cons' rfl (fun KK hKK => ?_)
      go_simp
      refine (GTC.out _ hB).mono ?_
      rintro e v78 ⟨p78, q78, rfl, b78, t78⟩
      have bC := b78
      replace t77 := t77.on bC
      replace hB := hB.trans (bC.mono hB.size)
      replace bW := bW.trans (bC.mono bW.size)
      replace y0 := below_cell bC y0
      replace y1 := below_cell bC y1
      replace y2 := below_cell bC y2
      replace yR := below_row bC yR
      replace hHeld := (⟨below_cell bC hHeld.1, below_cell bC hHeld.2.1, below_cell bC hHeld.2.2.1, below_cell bC hHeld.2.2.2.1, below_cell bC hHeld.2.2.2.2.1, below_cell bC hHeld.2.2.2.2.2⟩ : _ ∧ _ ∧ _ ∧ _ ∧ _ ∧ _)
      clear bC
      go_wp2_with fail
      clear b78
      refine hKK.out _ _ hHeld ?_
      clear hHeld
      intro hHeld
      clear hKK KK
      try simp only [Act.put, List.setIfInBounds_toArray, List.set_cons_zero, List.set_cons_succ]
      refine wpAnyH_ready (rs := [4]) (by kernel_rfl) (by simp) ?_
      refine cons' rfl (fun KK hKK => ?_)
      go_simp
      refine (divQ_zero (twR A p77 q77) (twR C p78 q78) _ t77 t78 ⟨sA.1, sA.2, sC.1, sC.2⟩ h0.out).mono ?_
      rintro e v79 ⟨rfl, b79⟩
      have bC := b79
      replace t77 := t77.on bC
      replace t78 := t78.on bC
      replace hB := hB.trans (bC.mono hB.size)
      replace bW := bW.trans (bC.mono bW.size)
      replace y0 := below_cell bC y0
      replace y1 := below_cell bC y1
      replace y2 := below_cell bC y2
      replace yR := below_row bC yR
      replace hHeld := (⟨below_cell bC hHeld.1, below_cell bC hHeld.2.1, below_cell bC hHeld.2.2.1, below_cell bC hHeld.2.2.2.1, below_cell bC hHeld.2.2.2.2.1, below_cell bC hHeld.2.2.2.2.2⟩ : _ ∧ _ ∧ _ ∧ _ ∧ _ ∧ _)
      clear bC
      go_wp2_with fail
      clear b79
      clear t77
      clear t78
      refine hKK.out _ _ hHeld ?_
      clear hHeld
      intro hHeld
      clear hKK KK
      try simp only [Act.put, List.setIfInBounds_toArray, List.set_cons_zero, List.set_cons_succ]
      refine take' 5 (v := ?_) rfl (by kernel_rfl) (by kernel_rfl) (by kernel_rfl) (fun _ _ _ h => h) (Or.inl ⟨by rfl, ?_⟩) (by assumption) ?_
      rotate_left
      · intro w9 hSw
        go_simp
        first | done | with_reducible rfl
      simp only [Act.put, List.setIfInBounds_toArray, List.set_cons_zero, List.set_cons_succ]
      refine take' 6 (v := ?_) rfl (by kernel_rfl) (by kernel_rfl) (by kernel_rfl) (fun _ _ _ h => h) (Or.inl ⟨by rfl, ?_⟩) (by assumption) ?_
      rotate_left
      · intro w9 hSw
        go_simp
        first | done | with_reducible rfl
      simp only [Act.put, List.setIfInBounds_toArray, List.set_cons_zero, List.set_cons_succ]
      refine take' 7 (v := ?_) rfl (by kernel_rfl) (by kernel_rfl) (by kernel_rfl) (fun _ _ _ h => h) (Or.inl ⟨by rfl, ?_⟩) (by assumption) ?_
      rotate_left
      · intro w9 hSw
        go_simp
        first | done | with_reducible rfl
      simp only [Act.put, List.setIfInBounds_toArray, List.set_cons_zero, List.set_cons_succ]
      refine wpAnyH_ready (rs := [9]) (by kernel_rfl) (by simp) ?_
      refine cons' rfl (fun KK hKK => ?_)
      have fz := fun o => yR.frozen o
      have kA := st3_at (u0 := .bool false) (u1 := .slice none 0 0) (u2 := .slice none 0 0) y0 y1 y2
      have kB := st3_bel (u0 := .bool false) (u1 := .slice none 0 0) (u2 := .slice none 0 0) bW yb
      have hH2 := (⟨st3_far (c := w0.heap.size) (u0 := .bool false) (u1 := .slice none 0 0) (u2 := .slice none 0 0) hHeld.1 (by have := hs4; omega), st3_far (c := w0.heap.size) (u0 := .bool false) (u1 := .slice none 0 0) (u2 := .slice none 0 0) hHeld.2.1 (by have := hs4; omega), st3_far (c := w0.heap.size) (u0 := .bool false) (u1 := .slice none 0 0) (u2 := .slice none 0 0) hHeld.2.2.1 (by have := hs4; omega), st3_far (c := w0.heap.size) (u0 := .bool false) (u1 := .slice none 0 0) (u2 := .slice none 0 0) hHeld.2.2.2.1 (by have := hs4; omega), st3_far (c := w0.heap.size) (u0 := .bool false) (u1 := .slice none 0 0) (u2 := .slice none 0 0) hHeld.2.2.2.2.1 (by have := hs4; omega), st3_far (c := w0.heap.size) (u0 := .bool false) (u1 := .slice none 0 0) (u2 := .slice none 0 0) hHeld.2.2.2.2.2 (by have := hs4; omega)⟩ : _ ∧ _ ∧ _ ∧ _ ∧ _ ∧ _)
      unfold st3 at kA kB hH2
      go_simp
      refine hKK.out _ _ hH2 ?_
      clear hHeld
      intro hHeld
      clear hKK KK
      try simp only [Act.put, List.setIfInBounds_toArray, List.set_cons_zero, List.set_cons_succ]
      refine take' 10 (v := ?_) rfl (by kernel_rfl) (by kernel_rfl) (by kernel_rfl) (fun _ _ _ h => h) (Or.inl ⟨by rfl, ?_⟩) (by assumption) ?_
      rotate_left
      · intro w9 hSw
        go_simp
        first | done | with_reducible rfl
      simp only [Act.put, List.setIfInBounds_toArray, List.set_cons_zero, List.set_cons_succ]
      refine wpAnyH_done (by kernel_rfl) ?_ _
      go_wp2_with fail
      go_meet
      exact ⟨_, rfl, rfl, yb, kA.1, kA.2.1, kA.2.2, kB⟩
    exact AllReadyH.nil
  case rest =>
  obtain ⟨cdc, rfl, rfl, cdge, cd0, cd1, cd2, bW⟩ := hcut
  replace ca0 := below_cell bW ca0
  replace ca1 := below_cell bW ca1
  replace ca2 := below_cell bW ca2
  replace cb0 := below_cell bW cb0
  replace cb1 := below_cell bW cb1
  replace cb2 := below_cell bW cb2
  replace cc0 := below_cell bW cc0
  replace cc1 := below_cell bW cc1
  replace cc2 := below_cell bW cc2
  replace cn0 := below_cell bW cn0
  replace cn1 := below_cell bW cn1
  replace cn2 := below_cell bW cn2
  replace cs0 := below_cell bW cs0
  replace cs1 := below_cell bW cs1
  replace cs2 := below_cell bW cs2
  replace cm0 := below_cell bW cm0
  replace cm1 := below_cell bW cm1
  replace cm2 := below_cell bW cm2
  replace okN := okN.on bW
  replace okcs := okcs.on bW
  replace okcm := okcm.on bW
  have hsz := bW.size
  replace hB := hB.trans (bW.mono hB.size)
  replace hs4 := Nat.le_trans hs4 hsz
  clear bW hsz
  go_wp2_with fail
  have hs5 : w.heap.size ≤ w.heap.size := Nat.le_refl _
  clear hs5
  have bD : Below wc.heap.size wc wc.drew := (Below.refl _ _).drew
  have kcc0 := below_cell bD cc0
  have kcc1 := below_cell bD cc1
  have kcc2 := below_cell bD cc2
  replace okN := okN.on bD
  replace okcs := okcs.on bD
  replace okcm := okcm.on bD
  replace hB := hB.trans (bD.mono hB.size)
  replace ca0 := below_cell bD ca0
  replace ca1 := below_cell bD ca1
  replace ca2 := below_cell bD ca2
  replace cb0 := below_cell bD cb0
  replace cb1 := below_cell bD cb1
  replace cb2 := below_cell bD cb2
  replace cn0 := below_cell bD cn0
  replace cn1 := below_cell bD cn1
  replace cn2 := below_cell bD cn2
  replace cs0 := below_cell bD cs0
  replace cs1 := below_cell bD cs1
  replace cs2 := below_cell bD cs2
  replace cm0 := below_cell bD cm0
  replace cm1 := below_cell bD cm1
  replace cm2 := below_cell bD cm2
  replace cd0 := below_cell bD cd0
  replace cd1 := below_cell bD cd1
  replace cd2 := below_cell bD cd2
  refine wp_region_held_drew (S := fun w' => w'.cell? ⟨w.heap.size + 1 + 1, 0, none⟩ = some (.bool C.s) ∧ w'.cell? ⟨w.heap.size + 1 + 1, 1, none⟩ = some (.slice C.a C.n C.c) ∧ w'.cell? ⟨w.heap.size + 1 + 1, 2, none⟩ = some (.slice C.b C.m C.e)) (by kernel_rfl) ⟨kcc0, kcc1, kcc2⟩ (fun hHeld => ?_)
  clear kcc0 kcc1 kcc2
  generalize wc.drew = wr80 at bD okN okcs okcm ca0 ca1 ca2 cb0 cb1 cb2 cn0 cn1 cn2 cs0 cs1 cs2 cm0 cm1 cm2 cd0 cd1 cd2 hB hHeld ⊢
  clear cc0 cc1 cc2
  refine take' 0 (v := ?_) rfl (by kernel_rfl) (by kernel_rfl) (by kernel_rfl) (fun _ _ _ h => h) (Or.inl ⟨by rfl, ?_⟩) (by assumption) ?_
  rotate_left
  · intro w9 hSw
    go_simp
    first | done | with_reducible rfl
  simp only [Act.put, List.setIfInBounds_toArray, List.set_cons_zero, List.set_cons_succ]
  refine take' 1 (v := ?_) rfl (by kernel_rfl) (by kernel_rfl) (by kernel_rfl) (fun _ _ _ h => h) (Or.inl ⟨by rfl, ?_⟩) (by assumption) ?_
  rotate_left
  · intro w9 hSw
    go_simp
    first | done | with_reducible rfl
  simp only [Act.put, List.setIfInBounds_toArray, List.set_cons_zero, List.set_cons_succ]
  refine take' 2 (v := ?_) rfl (by kernel_rfl) (by kernel_rfl) (by kernel_rfl) (fun _ _ _ h => h) (Or.inl ⟨by rfl, ?_⟩) (by assumption) ?_
  rotate_left
  · intro w9 hSw
    go_simp
    first | done | with_reducible rfl
  simp only [Act.put, List.setIfInBounds_toArray, List.set_cons_zero, List.set_cons_succ]
  refine take' 3 (v := undef) rfl (by kernel_rfl) (by kernel_rfl) (by kernel_rfl) (fun _ _ _ h => h) (Or.inr ⟨by rfl, rfl⟩) (by assumption) ?_
  simp only [Act.put, List.setIfInBounds_toArray, List.set_cons_zero, List.set_cons_succ]
  refine take' 4 (v := undef) rfl (by kernel_rfl) (by kernel_rfl) (by kernel_rfl) (fun _ _ _ h => h) (Or.inr ⟨by rfl, rfl⟩) (by assumption) ?_
  simp only [Act.put, List.setIfInBounds_toArray, List.set_cons_zero, List.set_cons_succ]
  refine take' 5 (v := undef) rfl (by kernel_rfl) (by kernel_rfl) (by kernel_rfl) (fun _ _ _ h => h) (Or.inr ⟨by rfl, rfl⟩) (by assumption) ?_
  simp only [Act.put, List.setIfInBounds_toArray, List.set_cons_zero, List.set_cons_succ]
  refine take' 6 (v := undef) rfl (by kernel_rfl) (by kernel_rfl) (by kernel_rfl) (fun _ _ _ h => h) (Or.inr ⟨by rfl, rfl⟩) (by assumption) ?_
  simp only [Act.put, List.setIfInBounds_toArray, List.set_cons_zero, List.set_cons_succ]
  refine take' 7 (v := undef) rfl (by kernel_rfl) (by kernel_rfl) (by kernel_rfl) (fun _ _ _ h => h) (Or.inr ⟨by rfl, rfl⟩) (by assumption) ?_
  simp only [Act.put, List.setIfInBounds_toArray, List.set_cons_zero, List.set_cons_succ]
  refine take' 8 (v := undef) rfl (by kernel_rfl) (by kernel_rfl) (by kernel_rfl) (fun _ _ _ h => h) (Or.inr ⟨by rfl, rfl⟩) (by assumption) ?_
  simp only [Act.put, List.setIfInBounds_toArray, List.set_cons_zero, List.set_cons_succ]
  refine take' 9 (v := undef) rfl (by kernel_rfl) (by kernel_rfl) (by kernel_rfl) (fun _ _ _ h => h) (Or.inr ⟨by rfl, rfl⟩) (by assumption) ?_
  simp only [Act.put, List.setIfInBounds_toArray, List.set_cons_zero, List.set_cons_succ]
  refine take' 10 (v := ?_) rfl (by kernel_rfl) (by kernel_rfl) (by kernel_rfl) (fun _ _ _ h => h) (Or.inl ⟨by rfl, ?_⟩) (by assumption) ?_
  rotate_left
  · intro w9 hSw
    go_simp
    first | done | with_reducible rfl
  simp only [Act.put, List.setIfInBounds_toArray, List.set_cons_zero, List.set_cons_succ]
  refine take' 11 (v := ?_) rfl (by kernel_rfl) (by kernel_rfl) (by kernel_rfl) (fun _ _ _ h => h) (Or.inl ⟨by rfl, ?_⟩) (by assumption) ?_
  rotate_left
  · intro w9 hSw
    go_simp
    first | done | with_reducible rfl
  simp only [Act.put, List.setIfInBounds_toArray, List.set_cons_zero, List.set_cons_succ]
  refine take' 12 (v := ?_) rfl (by kernel_rfl) (by kernel_rfl) (by kernel_rfl) (fun _ _ _ h => h) (Or.inl ⟨by rfl, ?_⟩) (by assumption) ?_
  rotate_left
  · intro w9 hSw
    go_simp
    first | done | with_reducible rfl
  simp only [Act.put, List.setIfInBounds_toArray, List.set_cons_zero, List.set_cons_succ]
  refine take' 13 (v := ?_) rfl (by kernel_rfl) (by kernel_rfl) (by kernel_rfl) (fun _ _ _ h => h) (Or.inl ⟨by rfl, ?_⟩) (by assumption) ?_
  rotate_left
  · intro w9 hSw
    go_simp
    first | done | with_reducible rfl
  simp only [Act.put, List.setIfInBounds_toArray, List.set_cons_zero, List.set_cons_succ]
  refine take' 14 (v := ?_) rfl (by kernel_rfl) (by kernel_rfl) (by kernel_rfl) (fun _ _ _ h => h) (Or.inl ⟨by rfl, ?_⟩) (by assumption) ?_
  rotate_left
  · intro w9 hSw
    go_simp
    first | done | with_reducible rfl
  simp only [Act.put, List.setIfInBounds_toArray, List.set_cons_zero, List.set_cons_succ]
  refine wpAnyH_ready (rs := [15]) (by kernel_rfl) (by simp) ?_
  refine cons' rfl (fun KK hKK => ?_)
  go_simp
  refine (GTC.out _ hB).mono ?_
  rintro e v81 ⟨p81, q81, rfl, b81, t81⟩
  have bC := b81
  replace okN := okN.on bC
  replace okcs := okcs.on bC
  replace okcm := okcm.on bC
  replace hB := hB.trans (bC.mono hB.size)
  replace ca0 := below_cell bC ca0
  replace ca1 := below_cell bC ca1
  replace ca2 := below_cell bC ca2
  replace cb0 := below_cell bC cb0
  replace cb1 := below_cell bC cb1
  replace cb2 := below_cell bC cb2
  replace cn0 := below_cell bC cn0
  replace cn1 := below_cell bC cn1
  replace cn2 := below_cell bC cn2
  replace cs0 := below_cell bC cs0
  replace cs1 := below_cell bC cs1
  replace cs2 := below_cell bC cs2
  replace cm0 := below_cell bC cm0
  replace cm1 := below_cell bC cm1
  replace cm2 := below_cell bC cm2
  replace cd0 := below_cell bC cd0
  replace cd1 := below_cell bC cd1
  replace cd2 := below_cell bC cd2
  replace hHeld := (⟨below_cell bC hHeld.1, below_cell bC hHeld.2.1, below_cell bC hHeld.2.2⟩ : _ ∧ _ ∧ _)
  clear bC
  go_wp2_with fail
  clear b81
  refine hKK.out _ _ hHeld ?_
  clear hHeld
  intro hHeld
  clear hKK KK
  try simp only [Act.put, List.setIfInBounds_toArray, List.set_cons_zero, List.set_cons_succ]
  refine wpAnyH_ready (rs := [16]) (by kernel_rfl) (by simp) ?_
  refine cons' rfl (fun KK hKK => ?_)
  go_simp
  refine (signQ (twR C p81 q81) _ t81 Cc kC.out).mono ?_
  rintro e v82 ⟨rfl, b82⟩
  have bC := b82
  replace okN := okN.on bC
  replace okcs := okcs.on bC
  replace okcm := okcm.on bC
  replace t81 := t81.on bC
  replace hB := hB.trans (bC.mono hB.size)
  replace ca0 := below_cell bC ca0
  replace ca1 := below_cell bC ca1
  replace ca2 := below_cell bC ca2
  replace cb0 := below_cell bC cb0
  replace cb1 := below_cell bC cb1
  replace cb2 := below_cell bC cb2
  replace cn0 := below_cell bC cn0
  replace cn1 := below_cell bC cn1
  replace cn2 := below_cell bC cn2
  replace cs0 := below_cell bC cs0
  replace cs1 := below_cell bC cs1
  replace cs2 := below_cell bC cs2
  replace cm0 := below_cell bC cm0
  replace cm1 := below_cell bC cm1
  replace cm2 := below_cell bC cm2
  replace cd0 := below_cell bC cd0
  replace cd1 := below_cell bC cd1
  replace cd2 := below_cell bC cd2
  replace hHeld := (⟨below_cell bC hHeld.1, below_cell bC hHeld.2.1, below_cell bC hHeld.2.2⟩ : _ ∧ _ ∧ _)
  clear bC
  go_wp2_with fail
  clear b82
  clear t81
  refine hKK.out _ _ hHeld ?_
  clear hHeld
  intro hHeld
  clear hKK KK
  try simp only [Act.put, List.setIfInBounds_toArray, List.set_cons_zero, List.set_cons_succ]
  refine take' 17 (v := ?_) rfl (by kernel_rfl) (by kernel_rfl) (by kernel_rfl) (fun _ _ _ h => h) (Or.inl ⟨by rfl, ?_⟩) (by assumption) ?_
  rotate_left
  · intro w9 hSw
    go_simp
    first | done | with_reducible rfl
  simp only [Act.put, List.setIfInBounds_toArray, List.set_cons_zero, List.set_cons_succ]
  refine take' 18 (v := ?_) rfl (by kernel_rfl) (by kernel_rfl) (by kernel_rfl) (fun _ _ _ h => h) (Or.inl ⟨by rfl, ?_⟩) (by assumption) ?_
  rotate_left
  · intro w9 hSw
    go_simp
    first | done | with_reducible rfl
  simp only [Act.put, List.setIfInBounds_toArray, List.set_cons_zero, List.set_cons_succ]
  refine take' 19 (v := ?_) rfl (by kernel_rfl) (by kernel_rfl) (by kernel_rfl) (fun _ _ _ h => h) (Or.inl ⟨by rfl, ?_⟩) (by assumption) ?_
  rotate_left
  · intro w9 hSw
    go_simp
    first | done | with_reducible rfl
  simp only [Act.put, List.setIfInBounds_toArray, List.set_cons_zero, List.set_cons_succ]
  refine wpAnyH_done (by kernel_rfl) ?_ _
  go_wp2_with fail
  have cc0 := hHeld.1
  have cc1 := hHeld.2.1
  have cc2 := hHeld.2.2
  clear hHeld
  have hs5 : w.heap.size ≤ w.heap.size := Nat.le_refl _
  clear hs5
  have bD : Below v82.heap.size v82 v82.drew := (Below.refl _ _).drew
  have kca0 := below_cell bD ca0
  have kca1 := below_cell bD ca1
  have kca2 := below_cell bD ca2
  have kcb0 := below_cell bD cb0
  have kcb1 := below_cell bD cb1
  have kcb2 := below_cell bD cb2
  replace okN := okN.on bD
  replace okcs := okcs.on bD
  replace okcm := okcm.on bD
  replace hB := hB.trans (bD.mono hB.size)
  replace cc0 := below_cell bD cc0
  replace cc1 := below_cell bD cc1
  replace cc2 := below_cell bD cc2
  replace cn0 := below_cell bD cn0
  replace cn1 := below_cell bD cn1
  replace cn2 := below_cell bD cn2
  replace cs0 := below_cell bD cs0
  replace cs1 := below_cell bD cs1
  replace cs2 := below_cell bD cs2
  replace cm0 := below_cell bD cm0
  replace cm1 := below_cell bD cm1
  replace cm2 := below_cell bD cm2
  replace cd0 := below_cell bD cd0
  replace cd1 := below_cell bD cd1
  replace cd2 := below_cell bD cd2
  refine wp_region_held_drew (S := fun w' => w'.cell? ⟨w.heap.size, 0, none⟩ = some (.bool A.s) ∧ w'.cell? ⟨w.heap.size, 1, none⟩ = some (.slice A.a A.n A.c) ∧ w'.cell? ⟨w.heap.size, 2, none⟩ = some (.slice A.b A.m A.e) ∧ w'.cell? ⟨w.heap.size + 1, 0, none⟩ = some (.bool B.s) ∧ w'.cell? ⟨w.heap.size + 1, 1, none⟩ = some (.slice B.a B.n B.c) ∧ w'.cell? ⟨w.heap.size + 1, 2, none⟩ = some (.slice B.b B.m B.e)) (by kernel_rfl) ⟨kca0, kca1, kca2, kcb0, kcb1, kcb2⟩ (fun hHeld => ?_)
  clear kca0 kca1 kca2 kcb0 kcb1 kcb2
  generalize v82.drew = wr83 at bD okN okcs okcm cc0 cc1 cc2 cn0 cn1 cn2 cs0 cs1 cs2 cm0 cm1 cm2 cd0 cd1 cd2 hB hHeld ⊢
  clear ca0 ca1 ca2 cb0 cb1 cb2
  refine take' 0 (v := ?_) rfl (by kernel_rfl) (by kernel_rfl) (by kernel_rfl) (fun _ _ _ h => h) (Or.inl ⟨by rfl, ?_⟩) (by assumption) ?_
  rotate_left
  · intro w9 hSw
    go_simp
    first | done | with_reducible rfl
  simp only [Act.put, List.setIfInBounds_toArray, List.set_cons_zero, List.set_cons_succ]
  refine take' 2 (v := ?_) rfl (by kernel_rfl) (by kernel_rfl) (by kernel_rfl) (fun _ _ _ h => h) (Or.inl ⟨by rfl, ?_⟩) (by assumption) ?_
  rotate_left
  · intro w9 hSw
    go_simp
    first | done | with_reducible rfl
  simp only [Act.put, List.setIfInBounds_toArray, List.set_cons_zero, List.set_cons_succ]
  refine wpAnyH_ready (rs := [1]) (by kernel_rfl) (by simp) ?_
  refine cons' rfl (fun KK hKK => ?_)
  go_simp
  refine (GTA.out _ hB).mono ?_
  rintro e v84 ⟨p84, q84, rfl, b84, t84⟩
  have bC := b84
  replace okN := okN.on bC
  replace okcs := okcs.on bC
  replace okcm := okcm.on bC
  replace hB := hB.trans (bC.mono hB.size)
  replace cc0 := below_cell bC cc0
  replace cc1 := below_cell bC cc1
  replace cc2 := below_cell bC cc2
  replace cn0 := below_cell bC cn0
  replace cn1 := below_cell bC cn1
  replace cn2 := below_cell bC cn2
  replace cs0 := below_cell bC cs0
  replace cs1 := below_cell bC cs1
  replace cs2 := below_cell bC cs2
  replace cm0 := below_cell bC cm0
  replace cm1 := below_cell bC cm1
  replace cm2 := below_cell bC cm2
  replace cd0 := below_cell bC cd0
  replace cd1 := below_cell bC cd1
  replace cd2 := below_cell bC cd2
  replace hHeld := (⟨below_cell bC hHeld.1, below_cell bC hHeld.2.1, below_cell bC hHeld.2.2.1, below_cell bC hHeld.2.2.2.1, below_cell bC hHeld.2.2.2.2.1, below_cell bC hHeld.2.2.2.2.2⟩ : _ ∧ _ ∧ _ ∧ _ ∧ _ ∧ _)
  clear bC
  go_wp2_with fail
  clear b84
  refine hKK.out _ _ hHeld ?_
  clear hHeld
  intro hHeld
  clear hKK KK
  try simp only [Act.put, List.setIfInBounds_toArray, List.set_cons_zero, List.set_cons_succ]
  refine wpAnyH_ready (rs := [3]) (by kernel_rfl) (by simp) ?_
  refine cons' rfl (fun KK hKK => ?_)
  go_simp
  refine (GTB.out _ hB).mono ?_
  rintro e v85 ⟨p85, q85, rfl, b85, t85⟩
  have bC := b85
  replace okN := okN.on bC
  replace okcs := okcs.on bC
  replace okcm := okcm.on bC
  replace t84 := t84.on bC
  replace hB := hB.trans (bC.mono hB.size)
  replace cc0 := below_cell bC cc0
  replace cc1 := below_cell bC cc1
  replace cc2 := below_cell bC cc2
  replace cn0 := below_cell bC cn0
  replace cn1 := below_cell bC cn1
  replace cn2 := below_cell bC cn2
  replace cs0 := below_cell bC cs0
  replace cs1 := below_cell bC cs1
  replace cs2 := below_cell bC cs2
  replace cm0 := below_cell bC cm0
  replace cm1 := below_cell bC cm1
  replace cm2 := below_cell bC cm2
  replace cd0 := below_cell bC cd0
  replace cd1 := below_cell bC cd1
  replace cd2 := below_cell bC cd2
  replace hHeld := (⟨below_cell bC hHeld.1, below_cell bC hHeld.2.1, below_cell bC hHeld.2.2.1, below_cell bC hHeld.2.2.2.1, below_cell bC hHeld.2.2.2.2.1, below_cell bC hHeld.2.2.2.2.2⟩ : _ ∧ _ ∧ _ ∧ _ ∧ _ ∧ _)
  clear bC
  go_wp2_with fail
  clear b85
  refine hKK.out _ _ hHeld ?_
  clear hHeld
  intro hHeld
  clear hKK KK
  try simp only [Act.put, List.setIfInBounds_toArray, List.set_cons_zero, List.set_cons_succ]
  refine wpAnyH_ready (rs := [4]) (by kernel_rfl) (by simp) ?_
  refine cons' rfl (fun KK hKK => ?_)
  go_simp
  refine (cmpQ (twR A p84 q84) (twR B p85 q85) _ t84 t85 ⟨sA.1, sA.2, sB.1, sB.2⟩ Cx kX.out).mono ?_
  rintro e v86 ⟨rfl, b86⟩
  have bC := b86
  replace okN := okN.on bC
  replace okcs := okcs.on bC
  replace okcm := okcm.on bC
  replace t84 := t84.on bC
  replace t85 := t85.on bC
  replace hB := hB.trans (bC.mono hB.size)
  replace cc0 := below_cell bC cc0
  replace cc1 := below_cell bC cc1
  replace cc2 := below_cell bC cc2
  replace cn0 := below_cell bC cn0
  replace cn1 := below_cell bC cn1
  replace cn2 := below_cell bC cn2
  replace cs0 := below_cell bC cs0
  replace cs1 := below_cell bC cs1
  replace cs2 := below_cell bC cs2
  replace cm0 := below_cell bC cm0
  replace cm1 := below_cell bC cm1
  replace cm2 := below_cell bC cm2
  replace cd0 := below_cell bC cd0
  replace cd1 := below_cell bC cd1
  replace cd2 := below_cell bC cd2
  replace hHeld := (⟨below_cell bC hHeld.1, below_cell bC hHeld.2.1, below_cell bC hHeld.2.2.1, below_cell bC hHeld.2.2.2.1, below_cell bC hHeld.2.2.2.2.1, below_cell bC hHeld.2.2.2.2.2⟩ : _ ∧ _ ∧ _ ∧ _ ∧ _ ∧ _)
  clear bC
  go_wp2_with fail
  clear b86
  clear t84
  clear t85
  refine hKK.out _ _ hHeld ?_
  clear hHeld
  intro hHeld
  clear hKK KK
  try simp only [Act.put, List.setIfInBounds_toArray, List.set_cons_zero, List.set_cons_succ]
  refine take' 5 (v := ?_) rfl (by kernel_rfl) (by kernel_rfl) (by kernel_rfl) (fun _ _ _ h => h) (Or.inl ⟨by rfl, ?_⟩) (by assumption) ?_
  rotate_left
  · intro w9 hSw
    go_simp
    first | done | with_reducible rfl
  simp only [Act.put, List.setIfInBounds_toArray, List.set_cons_zero, List.set_cons_succ]
  refine wpAnyH_done (by kernel_rfl) ?_ _
  go_wp2_with fail
  have ca0 := hHeld.1
  have ca1 := hHeld.2.1
  have ca2 := hHeld.2.2.1
  have cb0 := hHeld.2.2.2.1
  have cb1 := hHeld.2.2.2.2.1
  have cb2 := hHeld.2.2.2.2.2
  clear hHeld
  have hs5 : w.heap.size ≤ w.heap.size := Nat.le_refl _
  clear hs5
  have bD : Below v86.heap.size v86 v86.drew := (Below.refl _ _).drew
  have kca0 := below_cell bD ca0
  have kca1 := below_cell bD ca1
  have kca2 := below_cell bD ca2
  have kcb0 := below_cell bD cb0
  have kcb1 := below_cell bD cb1
  have kcb2 := below_cell bD cb2
  have kcc0 := below_cell bD cc0
  have kcc1 := below_cell bD cc1
  have kcc2 := below_cell bD cc2
  replace okN := okN.on bD
  replace okcs := okcs.on bD
  replace okcm := okcm.on bD
  replace hB := hB.trans (bD.mono hB.size)
  replace cn0 := below_cell bD cn0
  replace cn1 := below_cell bD cn1
  replace cn2 := below_cell bD cn2
  replace cs0 := below_cell bD cs0
  replace cs1 := below_cell bD cs1
  replace cs2 := below_cell bD cs2
  replace cm0 := below_cell bD cm0
  replace cm1 := below_cell bD cm1
  replace cm2 := below_cell bD cm2
  replace cd0 := below_cell bD cd0
  replace cd1 := below_cell bD cd1
  replace cd2 := below_cell bD cd2
  refine wp_region_held_drew (S := fun w' => w'.cell? ⟨w.heap.size, 0, none⟩ = some (.bool A.s) ∧ w'.cell? ⟨w.heap.size, 1, none⟩ = some (.slice A.a A.n A.c) ∧ w'.cell? ⟨w.heap.size, 2, none⟩ = some (.slice A.b A.m A.e) ∧ w'.cell? ⟨w.heap.size + 1, 0, none⟩ = some (.bool B.s) ∧ w'.cell? ⟨w.heap.size + 1, 1, none⟩ = some (.slice B.a B.n B.c) ∧ w'.cell? ⟨w.heap.size + 1, 2, none⟩ = some (.slice B.b B.m B.e) ∧ w'.cell? ⟨w.heap.size + 1 + 1, 0, none⟩ = some (.bool C.s) ∧ w'.cell? ⟨w.heap.size + 1 + 1, 1, none⟩ = some (.slice C.a C.n C.c) ∧ w'.cell? ⟨w.heap.size + 1 + 1, 2, none⟩ = some (.slice C.b C.m C.e)) (by kernel_rfl) ⟨kca0, kca1, kca2, kcb0, kcb1, kcb2, kcc0, kcc1, kcc2⟩ (fun hHeld => ?_)
  clear kca0 kca1 kca2 kcb0 kcb1 kcb2 kcc0 kcc1 kcc2
  generalize v86.drew = wr87 at bD okN okcs okcm cn0 cn1 cn2 cs0 cs1 cs2 cm0 cm1 cm2 cd0 cd1 cd2 hB hHeld ⊢
  clear ca0 ca1 ca2 cb0 cb1 cb2 cc0 cc1 cc2
  refine take' 0 (v := ?_) rfl (by kernel_rfl) (by kernel_rfl) (by kernel_rfl) (fun _ _ _ h => h) (Or.inl ⟨by rfl, ?_⟩) (by assumption) ?_
  rotate_left
  · intro w9 hSw
    go_simp
    first | done | with_reducible rfl
  simp only [Act.put, List.setIfInBounds_toArray, List.set_cons_zero, List.set_cons_succ]
  refine take' 1 (v := ?_) rfl (by kernel_rfl) (by kernel_rfl) (by kernel_rfl) (fun _ _ _ h => h) (Or.inl ⟨by rfl, ?_⟩) (by assumption) ?_
  rotate_left
  · intro w9 hSw
    go_simp
    first | done | with_reducible rfl
  simp only [Act.put, List.setIfInBounds_toArray, List.set_cons_zero, List.set_cons_succ]
  refine take' 3 (v := ?_) rfl (by kernel_rfl) (by kernel_rfl) (by kernel_rfl) (fun _ _ _ h => h) (Or.inl ⟨by rfl, ?_⟩) (by assumption) ?_
  rotate_left
  · intro w9 hSw
    go_simp
    first | done | with_reducible rfl
  simp only [Act.put, List.setIfInBounds_toArray, List.set_cons_zero, List.set_cons_succ]
  refine wpAnyH_ready (rs := [2]) (by kernel_rfl) (by simp) ?_
  refine cons' rfl (fun KK hKK => ?_)
  go_simp
  refine (GTB.out _ hB).mono ?_
  rintro e v88 ⟨p88, q88, rfl, b88, t88⟩
  have bC := b88
  replace okN := okN.on bC
  replace okcs := okcs.on bC
  replace okcm := okcm.on bC
  replace hB := hB.trans (bC.mono hB.size)
  replace cn0 := below_cell bC cn0
  replace cn1 := below_cell bC cn1
  replace cn2 := below_cell bC cn2
  replace cs0 := below_cell bC cs0
  replace cs1 := below_cell bC cs1
  replace cs2 := below_cell bC cs2
  replace cm0 := below_cell bC cm0
  replace cm1 := below_cell bC cm1
  replace cm2 := below_cell bC cm2
  replace cd0 := below_cell bC cd0
  replace cd1 := below_cell bC cd1
  replace cd2 := below_cell bC cd2
  replace hHeld := (⟨below_cell bC hHeld.1, below_cell bC hHeld.2.1, below_cell bC hHeld.2.2.1, below_cell bC hHeld.2.2.2.1, below_cell bC hHeld.2.2.2.2.1, below_cell bC hHeld.2.2.2.2.2.1, below_cell bC hHeld.2.2.2.2.2.2.1, below_cell bC hHeld.2.2.2.2.2.2.2.1, below_cell bC hHeld.2.2.2.2.2.2.2.2⟩ : _ ∧ _ ∧ _ ∧ _ ∧ _ ∧ _ ∧ _ ∧ _ ∧ _)
  clear bC
  go_wp2_with fail
  clear b88
  refine hKK.out _ _ hHeld ?_
  clear hHeld
  intro hHeld
  clear hKK KK
  try simp only [Act.put, List.setIfInBounds_toArray, List.set_cons_zero, List.set_cons_succ]
  refine wpAnyH_ready (rs := [4]) (by kernel_rfl) (by simp) ?_
  refine cons' rfl (fun KK hKK => ?_)
  go_simp
  refine (GTA.out _ hB).mono ?_
  rintro e v89 ⟨p89, q89, rfl, b89, t89⟩
  have bC := b89
  replace okN := okN.on bC
  replace okcs := okcs.on bC
  replace okcm := okcm.on bC
  replace t88 := t88.on bC
  replace hB := hB.trans (bC.mono hB.size)
  replace cn0 := below_cell bC cn0
  replace cn1 := below_cell bC cn1
  replace cn2 := below_cell bC cn2
  replace cs0 := below_cell bC cs0
  replace cs1 := below_cell bC cs1
  replace cs2 := below_cell bC cs2
  replace cm0 := below_cell bC cm0
  replace cm1 := below_cell bC cm1
  replace cm2 := below_cell bC cm2
  replace cd0 := below_cell bC cd0
  replace cd1 := below_cell bC cd1
  replace cd2 := below_cell bC cd2
  replace hHeld := (⟨below_cell bC hHeld.1, below_cell bC hHeld.2.1, below_cell bC hHeld.2.2.1, below_cell bC hHeld.2.2.2.1, below_cell bC hHeld.2.2.2.2.1, below_cell bC hHeld.2.2.2.2.2.1, below_cell bC hHeld.2.2.2.2.2.2.1, below_cell bC hHeld.2.2.2.2.2.2.2.1, below_cell bC hHeld.2.2.2.2.2.2.2.2⟩ : _ ∧ _ ∧ _ ∧ _ ∧ _ ∧ _ ∧ _ ∧ _ ∧ _)
  clear bC
  go_wp2_with fail
  clear b89
  refine hKK.out _ _ hHeld ?_
  clear hHeld
  intro hHeld
  clear hKK KK
  try simp only [Act.put, List.setIfInBounds_toArray, List.set_cons_zero, List.set_cons_succ]
  refine wpAnyH_ready (rs := [5]) (by kernel_rfl) (by simp) ?_
  refine cons' rfl (fun KK hKK => ?_)
  go_simp
  refine (cmpQ (twR B p88 q88) (twR A p89 q89) _ t88 t89 ⟨sB.1, sB.2, sA.1, sA.2⟩ Cy kY.out).mono ?_
  rintro e v90 ⟨rfl, b90⟩
  have bC := b90
  replace okN := okN.on bC
  replace okcs := okcs.on bC
  replace okcm := okcm.on bC
  replace t88 := t88.on bC
  replace t89 := t89.on bC
  replace hB := hB.trans (bC.mono hB.size)
  replace cn0 := below_cell bC cn0
  replace cn1 := below_cell bC cn1
  replace cn2 := below_cell bC cn2
  replace cs0 := below_cell bC cs0
  replace cs1 := below_cell bC cs1
  replace cs2 := below_cell bC cs2
  replace cm0 := below_cell bC cm0
  replace cm1 := below_cell bC cm1
  replace cm2 := below_cell bC cm2
  replace cd0 := below_cell bC cd0
  replace cd1 := below_cell bC cd1
  replace cd2 := below_cell bC cd2
  replace hHeld := (⟨below_cell bC hHeld.1, below_cell bC hHeld.2.1, below_cell bC hHeld.2.2.1, below_cell bC hHeld.2.2.2.1, below_cell bC hHeld.2.2.2.2.1, below_cell bC hHeld.2.2.2.2.2.1, below_cell bC hHeld.2.2.2.2.2.2.1, below_cell bC hHeld.2.2.2.2.2.2.2.1, below_cell bC hHeld.2.2.2.2.2.2.2.2⟩ : _ ∧ _ ∧ _ ∧ _ ∧ _ ∧ _ ∧ _ ∧ _ ∧ _)
  clear bC
  go_wp2_with fail
  clear b90
  clear t88
  clear t89
  refine hKK.out _ _ hHeld ?_
  clear hHeld
  intro hHeld
  clear hKK KK
  try simp only [Act.put, List.setIfInBounds_toArray, List.set_cons_zero, List.set_cons_succ]
  refine take' 6 (v := ?_) rfl (by kernel_rfl) (by kernel_rfl) (by kernel_rfl) (fun _ _ _ h => h) (Or.inl ⟨by rfl, ?_⟩) (by assumption) ?_
  rotate_left
  · intro w9 hSw
    go_simp
    first | done | with_reducible rfl
  simp only [Act.put, List.setIfInBounds_toArray, List.set_cons_zero, List.set_cons_succ]
  refine take' 7 (v := ?_) rfl (by kernel_rfl) (by kernel_rfl) (by kernel_rfl) (fun _ _ _ h => h) (Or.inl ⟨by rfl, ?_⟩) (by assumption) ?_
  rotate_left
  · intro w9 hSw
    go_simp
    first | done | with_reducible rfl
  simp only [Act.put, List.setIfInBounds_toArray, List.set_cons_zero, List.set_cons_succ]
  refine take' 8 (v := ?_) rfl (by kernel_rfl) (by kernel_rfl) (by kernel_rfl) (fun _ _ _ h => h) (Or.inl ⟨by rfl, ?_⟩) (by assumption) ?_
  rotate_left
  · intro w9 hSw
    go_simp
    first | done | with_reducible rfl
  simp only [Act.put, List.setIfInBounds_toArray, List.set_cons_zero, List.set_cons_succ]
  refine take' 9 (v := ?_) rfl (by kernel_rfl) (by kernel_rfl) (by kernel_rfl) (fun _ _ _ h => h) (Or.inl ⟨by rfl, ?_⟩) (by assumption) ?_
  rotate_left
  · intro w9 hSw
    go_simp
    first | done | with_reducible rfl
  simp only [Act.put, List.setIfInBounds_toArray, List.set_cons_zero, List.set_cons_succ]
  refine take' 11 (v := ?_) rfl (by kernel_rfl) (by kernel_rfl) (by kernel_rfl) (fun _ _ _ h => h) (Or.inl ⟨by rfl, ?_⟩) (by assumption) ?_
  rotate_left
  · intro w9 hSw
    go_simp
    first | done | with_reducible rfl
  simp only [Act.put, List.setIfInBounds_toArray, List.set_cons_zero, List.set_cons_succ]
  refine take' 14 (v := ?_) rfl (by kernel_rfl) (by kernel_rfl) (by kernel_rfl) (fun _ _ _ h => h) (Or.inl ⟨by rfl, ?_⟩) (by assumption) ?_
  rotate_left
  · intro w9 hSw
    go_simp
    first | done | with_reducible rfl
  simp only [Act.put, List.setIfInBounds_toArray, List.set_cons_zero, List.set_cons_succ]
  refine take' 16 (v := ?_) rfl (by kernel_rfl) (by kernel_rfl) (by kernel_rfl) (fun _ _ _ h => h) (Or.inl ⟨by rfl, ?_⟩) (by assumption) ?_
  rotate_left
  · intro w9 hSw
    go_simp
    first | done | with_reducible rfl
  simp only [Act.put, List.setIfInBounds_toArray, List.set_cons_zero, List.set_cons_succ]
  refine take' 20 (v := ?_) rfl (by kernel_rfl) (by kernel_rfl) (by kernel_rfl) (fun _ _ _ h => h) (Or.inl ⟨by rfl, ?_⟩) (by assumption) ?_
  rotate_left
  · intro w9 hSw
    go_simp
    first | done | with_reducible rfl
  simp only [Act.put, List.setIfInBounds_toArray, List.set_cons_zero, List.set_cons_succ]
  refine wpAnyH_ready (rs := [10]) (by kernel_rfl) (by simp) ?_
  refine cons' rfl (fun KK hKK => ?_)
  go_simp
  refine (GTA.out _ hB).mono ?_
  rintro e v91 ⟨p91, q91, rfl, b91, t91⟩
  have bC := b91
  replace okN := okN.on bC
  replace okcs := okcs.on bC
  replace okcm := okcm.on bC
  replace hB := hB.trans (bC.mono hB.size)
  replace cn0 := below_cell bC cn0
  replace cn1 := below_cell bC cn1
  replace cn2 := below_cell bC cn2
  replace cs0 := below_cell bC cs0
  replace cs1 := below_cell bC cs1
  replace cs2 := below_cell bC cs2
  replace cm0 := below_cell bC cm0
  replace cm1 := below_cell bC cm1
  replace cm2 := below_cell bC cm2
  replace cd0 := below_cell bC cd0
  replace cd1 := below_cell bC cd1
  replace cd2 := below_cell bC cd2
  replace hHeld := (⟨below_cell bC hHeld.1, below_cell bC hHeld.2.1, below_cell bC hHeld.2.2.1, below_cell bC hHeld.2.2.2.1, below_cell bC hHeld.2.2.2.2.1, below_cell bC hHeld.2.2.2.2.2.1, below_cell bC hHeld.2.2.2.2.2.2.1, below_cell bC hHeld.2.2.2.2.2.2.2.1, below_cell bC hHeld.2.2.2.2.2.2.2.2⟩ : _ ∧ _ ∧ _ ∧ _ ∧ _ ∧ _ ∧ _ ∧ _ ∧ _)
  clear bC
  go_wp2_with fail
  clear b91
  refine hKK.out _ _ hHeld ?_
  clear hHeld
  intro hHeld
  clear hKK KK
  try simp only [Act.put, List.setIfInBounds_toArray, List.set_cons_zero, List.set_cons_succ]
  refine wpAnyH_ready (rs := [12]) (by kernel_rfl) (by simp) ?_
  refine cons' rfl (fun KK hKK => ?_)
  go_simp
  refine (GTC.out _ hB).mono ?_
  rintro e v92 ⟨p92, q92, rfl, b92, t92⟩
  have bC := b92
  replace okN := okN.on bC
  replace okcs := okcs.on bC
  replace okcm := okcm.on bC
  replace t91 := t91.on bC
  replace hB := hB.trans (bC.mono hB.size)
  replace cn0 := below_cell bC cn0
  replace cn1 := below_cell bC cn1
  replace cn2 := below_cell bC cn2
  replace cs0 := below_cell bC cs0
  replace cs1 := below_cell bC cs1
  replace cs2 := below_cell bC cs2
  replace cm0 := below_cell bC cm0
  replace cm1 := below_cell bC cm1
  replace cm2 := below_cell bC cm2
  replace cd0 := below_cell bC cd0
  replace cd1 := below_cell bC cd1
  replace cd2 := below_cell bC cd2
  replace hHeld := (⟨below_cell bC hHeld.1, below_cell bC hHeld.2.1, below_cell bC hHeld.2.2.1, below_cell bC hHeld.2.2.2.1, below_cell bC hHeld.2.2.2.2.1, below_cell bC hHeld.2.2.2.2.2.1, below_cell bC hHeld.2.2.2.2.2.2.1, below_cell bC hHeld.2.2.2.2.2.2.2.1, below_cell bC hHeld.2.2.2.2.2.2.2.2⟩ : _ ∧ _ ∧ _ ∧ _ ∧ _ ∧ _ ∧ _ ∧ _ ∧ _)
  clear bC
  go_wp2_with fail
  clear b92
  refine hKK.out _ _ hHeld ?_
  clear hHeld
  intro hHeld
  clear hKK KK
  try simp only [Act.put, List.setIfInBounds_toArray, List.set_cons_zero, List.set_cons_succ]
  refine wpAnyH_ready (rs := [13]) (by kernel_rfl) (by simp) ?_
  refine cons' rfl (fun KK hKK => ?_)
  go_simp
  refine (addQ (twR A p91 q91) (twR C p92 q92) Y _ t91 t92 ⟨sA.1, sA.2, sC.1, sC.2⟩ eY.out zY.out).mono ?_
  rintro e v93 ⟨p93, q93, rfl, b93, r93⟩
  have bC := b93
  replace okN := okN.on bC
  replace okcs := okcs.on bC
  replace okcm := okcm.on bC
  replace t91 := t91.on bC
  replace t92 := t92.on bC
  replace hB := hB.trans (bC.mono hB.size)
  replace cn0 := below_cell bC cn0
  replace cn1 := below_cell bC cn1
  replace cn2 := below_cell bC cn2
  replace cs0 := below_cell bC cs0
  replace cs1 := below_cell bC cs1
  replace cs2 := below_cell bC cs2
  replace cm0 := below_cell bC cm0
  replace cm1 := below_cell bC cm1
  replace cm2 := below_cell bC cm2
  replace cd0 := below_cell bC cd0
  replace cd1 := below_cell bC cd1
  replace cd2 := below_cell bC cd2
  replace hHeld := (⟨below_cell bC hHeld.1, below_cell bC hHeld.2.1, below_cell bC hHeld.2.2.1, below_cell bC hHeld.2.2.2.1, below_cell bC hHeld.2.2.2.2.1, below_cell bC hHeld.2.2.2.2.2.1, below_cell bC hHeld.2.2.2.2.2.2.1, below_cell bC hHeld.2.2.2.2.2.2.2.1, below_cell bC hHeld.2.2.2.2.2.2.2.2⟩ : _ ∧ _ ∧ _ ∧ _ ∧ _ ∧ _ ∧ _ ∧ _ ∧ _)
  clear bC
  go_wp2_with fail
  clear b93
  clear t91
  clear t92
  refine hKK.out _ _ hHeld ?_
  clear hHeld
  intro hHeld
  clear hKK KK
  try simp only [Act.put, List.setIfInBounds_toArray, List.set_cons_zero, List.set_cons_succ]
  refine wpAnyH_ready (rs := [15]) (by kernel_rfl) (by simp) ?_
  refine cons' rfl (fun KK hKK => ?_)
  go_simp
  refine (GTB.out _ hB).mono ?_
  rintro e v94 ⟨p94, q94, rfl, b94, t94⟩
  have bC := b94
  replace okN := okN.on bC
  replace okcs := okcs.on bC
  replace okcm := okcm.on bC
  replace r93 := r93.on bC
  replace hB := hB.trans (bC.mono hB.size)
  replace cn0 := below_cell bC cn0
  replace cn1 := below_cell bC cn1
  replace cn2 := below_cell bC cn2
  replace cs0 := below_cell bC cs0
  replace cs1 := below_cell bC cs1
  replace cs2 := below_cell bC cs2
  replace cm0 := below_cell bC cm0
  replace cm1 := below_cell bC cm1
  replace cm2 := below_cell bC cm2
  replace cd0 := below_cell bC cd0
  replace cd1 := below_cell bC cd1
  replace cd2 := below_cell bC cd2
  replace hHeld := (⟨below_cell bC hHeld.1, below_cell bC hHeld.2.1, below_cell bC hHeld.2.2.1, below_cell bC hHeld.2.2.2.1, below_cell bC hHeld.2.2.2.2.1, below_cell bC hHeld.2.2.2.2.2.1, below_cell bC hHeld.2.2.2.2.2.2.1, below_cell bC hHeld.2.2.2.2.2.2.2.1, below_cell bC hHeld.2.2.2.2.2.2.2.2⟩ : _ ∧ _ ∧ _ ∧ _ ∧ _ ∧ _ ∧ _ ∧ _ ∧ _)
  clear bC
  go_wp2_with fail
  clear b94
  refine hKK.out _ _ hHeld ?_
  clear hHeld
  intro hHeld
  clear hKK KK
  try simp only [Act.put, List.setIfInBounds_toArray, List.set_cons_zero, List.set_cons_succ]
  refine wpAnyH_ready (rs := [17]) (by kernel_rfl) (by simp) ?_
  refine cons' rfl (fun KK hKK => ?_)
  go_simp
  refine (GTC.out _ hB).mono ?_
  rintro e v95 ⟨p95, q95, rfl, b95, t95⟩
  have bC := b95
  replace okN := okN.on bC
  replace okcs := okcs.on bC
  replace okcm := okcm.on bC
  replace r93 := r93.on bC
  replace t94 := t94.on bC
  replace hB := hB.trans (bC.mono hB.size)
  replace cn0 := below_cell bC cn0
  replace cn1 := below_cell bC cn1
  replace cn2 := below_cell bC cn2
  replace cs0 := below_cell bC cs0
  replace cs1 := below_cell bC cs1
  replace cs2 := below_cell bC cs2
  replace cm0 := below_cell bC cm0
  replace cm1 := below_cell bC cm1
  replace cm2 := below_cell bC cm2
  replace cd0 := below_cell bC cd0
  replace cd1 := below_cell bC cd1
  replace cd2 := below_cell bC cd2
  replace hHeld := (⟨below_cell bC hHeld.1, below_cell bC hHeld.2.1, below_cell bC hHeld.2.2.1, below_cell bC hHeld.2.2.2.1, below_cell bC hHeld.2.2.2.2.1, below_cell bC hHeld.2.2.2.2.2.1, below_cell bC hHeld.2.2.2.2.2.2.1, below_cell bC hHeld.2.2.2.2.2.2.2.1, below_cell bC hHeld.2.2.2.2.2.2.2.2⟩ : _ ∧ _ ∧ _ ∧ _ ∧ _ ∧ _ ∧ _ ∧ _ ∧ _)
  clear bC
  go_wp2_with fail
  clear b95
  refine hKK.out _ _ hHeld ?_
  clear hHeld
  intro hHeld
  clear hKK KK
  try simp only [Act.put, List.setIfInBounds_toArray, List.set_cons_zero, List.set_cons_succ]
  refine wpAnyH_ready (rs := [18]) (by kernel_rfl) (by simp) ?_
  refine cons' rfl (fun KK hKK => ?_)
  go_simp
  refine (addQ (twR B p94 q94) (twR C p95 q95) U _ t94 t95 ⟨sB.1, sB.2, sC.1, sC.2⟩ eU.out zU.out).mono ?_
  rintro e v96 ⟨p96, q96, rfl, b96, r96⟩
  have bC := b96
  replace okN := okN.on bC
  replace okcs := okcs.on bC
  replace okcm := okcm.on bC
  replace r93 := r93.on bC
  replace t94 := t94.on bC
  replace t95 := t95.on bC
  replace hB := hB.trans (bC.mono hB.size)
  replace cn0 := below_cell bC cn0
  replace cn1 := below_cell bC cn1
  replace cn2 := below_cell bC cn2
  replace cs0 := below_cell bC cs0
  replace cs1 := below_cell bC cs1
  replace cs2 := below_cell bC cs2
  replace cm0 := below_cell bC cm0
  replace cm1 := below_cell bC cm1
  replace cm2 := below_cell bC cm2
  replace cd0 := below_cell bC cd0
  replace cd1 := below_cell bC cd1
  replace cd2 := below_cell bC cd2
  replace hHeld := (⟨below_cell bC hHeld.1, below_cell bC hHeld.2.1, below_cell bC hHeld.2.2.1, below_cell bC hHeld.2.2.2.1, below_cell bC hHeld.2.2.2.2.1, below_cell bC hHeld.2.2.2.2.2.1, below_cell bC hHeld.2.2.2.2.2.2.1, below_cell bC hHeld.2.2.2.2.2.2.2.1, below_cell bC hHeld.2.2.2.2.2.2.2.2⟩ : _ ∧ _ ∧ _ ∧ _ ∧ _ ∧ _ ∧ _ ∧ _ ∧ _)
  clear bC
  go_wp2_with fail
  clear b96
  clear t94
  clear t95
  refine hKK.out _ _ hHeld ?_
  clear hHeld
  intro hHeld
  clear hKK KK
  try simp only [Act.put, List.setIfInBounds_toArray, List.set_cons_zero, List.set_cons_succ]
  refine wpAnyH_ready (rs := [19]) (by kernel_rfl) (by simp) ?_
  refine cons' rfl (fun KK hKK => ?_)
  go_simp
  refine (cmpQ (nR Y p93 q93) (nR U p96 q96) _ r93 r96 ⟨zY.out.1, zY.out.2, zU.out.1, zU.out.2⟩ Cx (by rw [nR_val, nR_val]; exact kZ.out)).mono ?_
  rintro e v97 ⟨rfl, b97⟩
  have bC := b97
  replace okN := okN.on bC
  replace okcs := okcs.on bC
  replace okcm := okcm.on bC
  replace r93 := r93.on bC
  replace r96 := r96.on bC
  replace hB := hB.trans (bC.mono hB.size)
  replace cn0 := below_cell bC cn0
  replace cn1 := below_cell bC cn1
  replace cn2 := below_cell bC cn2
  replace cs0 := below_cell bC cs0
  replace cs1 := below_cell bC cs1
  replace cs2 := below_cell bC cs2
  replace cm0 := below_cell bC cm0
  replace cm1 := below_cell bC cm1
  replace cm2 := below_cell bC cm2
  replace cd0 := below_cell bC cd0
  replace cd1 := below_cell bC cd1
  replace cd2 := below_cell bC cd2
  replace hHeld := (⟨below_cell bC hHeld.1, below_cell bC hHeld.2.1, below_cell bC hHeld.2.2.1, below_cell bC hHeld.2.2.2.1, below_cell bC hHeld.2.2.2.2.1, below_cell bC hHeld.2.2.2.2.2.1, below_cell bC hHeld.2.2.2.2.2.2.1, below_cell bC hHeld.2.2.2.2.2.2.2.1, below_cell bC hHeld.2.2.2.2.2.2.2.2⟩ : _ ∧ _ ∧ _ ∧ _ ∧ _ ∧ _ ∧ _ ∧ _ ∧ _)
  clear bC
  go_wp2_with fail
  clear b97
  clear r93
  clear r96
  refine hKK.out _ _ hHeld ?_
  clear hHeld
  intro hHeld
  clear hKK KK
  try simp only [Act.put, List.setIfInBounds_toArray, List.set_cons_zero, List.set_cons_succ]
  refine take' 21 (v := ?_) rfl (by kernel_rfl) (by kernel_rfl) (by kernel_rfl) (fun _ _ _ h => h) (Or.inl ⟨by rfl, ?_⟩) (by assumption) ?_
  rotate_left
  · intro w9 hSw
    go_simp
    first | done | with_reducible rfl
  simp only [Act.put, List.setIfInBounds_toArray, List.set_cons_zero, List.set_cons_succ]
  refine take' 22 (v := ?_) rfl (by kernel_rfl) (by kernel_rfl) (by kernel_rfl) (fun _ _ _ h => h) (Or.inl ⟨by rfl, ?_⟩) (by assumption) ?_
  rotate_left
  · intro w9 hSw
    go_simp
    first | done | with_reducible rfl
  simp only [Act.put, List.setIfInBounds_toArray, List.set_cons_zero, List.set_cons_succ]
  refine wpAnyH_done (by kernel_rfl) ?_ _
  go_wp2_with fail
  have ca0 := hHeld.1
  have ca1 := hHeld.2.1
  have ca2 := hHeld.2.2.1
  have cb0 := hHeld.2.2.2.1
  have cb1 := hHeld.2.2.2.2.1
  have cb2 := hHeld.2.2.2.2.2.1
  have cc0 := hHeld.2.2.2.2.2.2.1
  have cc1 := hHeld.2.2.2.2.2.2.2.1
  have cc2 := hHeld.2.2.2.2.2.2.2.2
  clear hHeld
  have hs5 : w.heap.size ≤ w.heap.size := Nat.le_refl _
  clear hs5
  have bD : Below v97.heap.size v97 v97.drew := (Below.refl _ _).drew
  have kca0 := below_cell bD ca0
  have kca1 := below_cell bD ca1
  have kca2 := below_cell bD ca2
  have kcb0 := below_cell bD cb0
  have kcb1 := below_cell bD cb1
  have kcb2 := below_cell bD cb2
  have kcc0 := below_cell bD cc0
  have kcc1 := below_cell bD cc1
  have kcc2 := below_cell bD cc2
  replace okN := okN.on bD
  replace okcs := okcs.on bD
  replace okcm := okcm.on bD
  replace hB := hB.trans (bD.mono hB.size)
  replace cn0 := below_cell bD cn0
  replace cn1 := below_cell bD cn1
  replace cn2 := below_cell bD cn2
  replace cs0 := below_cell bD cs0
  replace cs1 := below_cell bD cs1
  replace cs2 := below_cell bD cs2
  replace cm0 := below_cell bD cm0
  replace cm1 := below_cell bD cm1
  replace cm2 := below_cell bD cm2
  replace cd0 := below_cell bD cd0
  replace cd1 := below_cell bD cd1
  replace cd2 := below_cell bD cd2
  refine wp_region_held_drew (S := fun w' => w'.cell? ⟨w.heap.size, 0, none⟩ = some (.bool A.s) ∧ w'.cell? ⟨w.heap.size, 1, none⟩ = some (.slice A.a A.n A.c) ∧ w'.cell? ⟨w.heap.size, 2, none⟩ = some (.slice A.b A.m A.e) ∧ w'.cell? ⟨w.heap.size + 1, 0, none⟩ = some (.bool B.s) ∧ w'.cell? ⟨w.heap.size + 1, 1, none⟩ = some (.slice B.a B.n B.c) ∧ w'.cell? ⟨w.heap.size + 1, 2, none⟩ = some (.slice B.b B.m B.e) ∧ w'.cell? ⟨w.heap.size + 1 + 1, 0, none⟩ = some (.bool C.s) ∧ w'.cell? ⟨w.heap.size + 1 + 1, 1, none⟩ = some (.slice C.a C.n C.c) ∧ w'.cell? ⟨w.heap.size + 1 + 1, 2, none⟩ = some (.slice C.b C.m C.e)) (by kernel_rfl) ⟨kca0, kca1, kca2, kcb0, kcb1, kcb2, kcc0, kcc1, kcc2⟩ (fun hHeld => ?_)
  clear kca0 kca1 kca2 kcb0 kcb1 kcb2 kcc0 kcc1 kcc2
  generalize v97.drew = wr98 at bD okN okcs okcm cn0 cn1 cn2 cs0 cs1 cs2 cm0 cm1 cm2 cd0 cd1 cd2 hB hHeld ⊢
  clear ca0 ca1 ca2 cb0 cb1 cb2 cc0 cc1 cc2
  refine take' 0 (v := ?_) rfl (by kernel_rfl) (by kernel_rfl) (by kernel_rfl) (fun _ _ _ h => h) (Or.inl ⟨by rfl, ?_⟩) (by assumption) ?_
  rotate_left
  · intro w9 hSw
    go_simp
    first | done | with_reducible rfl
  simp only [Act.put, List.setIfInBounds_toArray, List.set_cons_zero, List.set_cons_succ]
  refine take' 2 (v := ?_) rfl (by kernel_rfl) (by kernel_rfl) (by kernel_rfl) (fun _ _ _ h => h) (Or.inl ⟨by rfl, ?_⟩) (by assumption) ?_
  rotate_left
  · intro w9 hSw
    go_simp
    first | done | with_reducible rfl
  simp only [Act.put, List.setIfInBounds_toArray, List.set_cons_zero, List.set_cons_succ]
  refine take' 5 (v := ?_) rfl (by kernel_rfl) (by kernel_rfl) (by kernel_rfl) (fun _ _ _ h => h) (Or.inl ⟨by rfl, ?_⟩) (by assumption) ?_
  rotate_left
  · intro w9 hSw
    go_simp
    first | done | with_reducible rfl
  simp only [Act.put, List.setIfInBounds_toArray, List.set_cons_zero, List.set_cons_succ]
  refine take' 7 (v := ?_) rfl (by kernel_rfl) (by kernel_rfl) (by kernel_rfl) (fun _ _ _ h => h) (Or.inl ⟨by rfl, ?_⟩) (by assumption) ?_
  rotate_left
  · intro w9 hSw
    go_simp
    first | done | with_reducible rfl
  simp only [Act.put, List.setIfInBounds_toArray, List.set_cons_zero, List.set_cons_succ]
  refine take' 11 (v := ?_) rfl (by kernel_rfl) (by kernel_rfl) (by kernel_rfl) (fun _ _ _ h => h) (Or.inl ⟨by rfl, ?_⟩) (by assumption) ?_
  rotate_left
  · intro w9 hSw
    go_simp
    first | done | with_reducible rfl
  simp only [Act.put, List.setIfInBounds_toArray, List.set_cons_zero, List.set_cons_succ]
  refine take' 12 (v := ?_) rfl (by kernel_rfl) (by kernel_rfl) (by kernel_rfl) (fun _ _ _ h => h) (Or.inl ⟨by rfl, ?_⟩) (by assumption) ?_
  rotate_left
  · intro w9 hSw
    go_simp
    first | done | with_reducible rfl
  simp only [Act.put, List.setIfInBounds_toArray, List.set_cons_zero, List.set_cons_succ]
  refine wpAnyH_ready (rs := [1]) (by kernel_rfl) (by simp) ?_
  refine cons' rfl (fun KK hKK => ?_)
  go_simp
  refine (GTA.out _ hB).mono ?_
  rintro e v99 ⟨p99, q99, rfl, b99, t99⟩
  have bC := b99
  replace okN := okN.on bC
  replace okcs := okcs.on bC
  replace okcm := okcm.on bC
  replace hB := hB.trans (bC.mono hB.size)
  replace cn0 := below_cell bC cn0
  replace cn1 := below_cell bC cn1
  replace cn2 := below_cell bC cn2
  replace cs0 := below_cell bC cs0
  replace cs1 := below_cell bC cs1
  replace cs2 := below_cell bC cs2
  replace cm0 := below_cell bC cm0
  replace cm1 := below_cell bC cm1
  replace cm2 := below_cell bC cm2
  replace cd0 := below_cell bC cd0
  replace cd1 := below_cell bC cd1
  replace cd2 := below_cell bC cd2
  replace hHeld := (⟨below_cell bC hHeld.1, below_cell bC hHeld.2.1, below_cell bC hHeld.2.2.1, below_cell bC hHeld.2.2.2.1, below_cell bC hHeld.2.2.2.2.1, below_cell bC hHeld.2.2.2.2.2.1, below_cell bC hHeld.2.2.2.2.2.2.1, below_cell bC hHeld.2.2.2.2.2.2.2.1, below_cell bC hHeld.2.2.2.2.2.2.2.2⟩ : _ ∧ _ ∧ _ ∧ _ ∧ _ ∧ _ ∧ _ ∧ _ ∧ _)
  clear bC
  go_wp2_with fail
  clear b99
  refine hKK.out _ _ hHeld ?_
  clear hHeld
  intro hHeld
  clear hKK KK
  try simp only [Act.put, List.setIfInBounds_toArray, List.set_cons_zero, List.set_cons_succ]
  refine wpAnyH_ready (rs := [3]) (by kernel_rfl) (by simp) ?_
  refine cons' rfl (fun KK hKK => ?_)
  go_simp
  refine (GTC.out _ hB).mono ?_
  rintro e v100 ⟨p100, q100, rfl, b100, t100⟩
  have bC := b100
  replace okN := okN.on bC
  replace okcs := okcs.on bC
  replace okcm := okcm.on bC
  replace t99 := t99.on bC
  replace hB := hB.trans (bC.mono hB.size)
  replace cn0 := below_cell bC cn0
  replace cn1 := below_cell bC cn1
  replace cn2 := below_cell bC cn2
  replace cs0 := below_cell bC cs0
  replace cs1 := below_cell bC cs1
  replace cs2 := below_cell bC cs2
  replace cm0 := below_cell bC cm0
  replace cm1 := below_cell bC cm1
  replace cm2 := below_cell bC cm2
  replace cd0 := below_cell bC cd0
  replace cd1 := below_cell bC cd1
  replace cd2 := below_cell bC cd2
  replace hHeld := (⟨below_cell bC hHeld.1, below_cell bC hHeld.2.1, below_cell bC hHeld.2.2.1, below_cell bC hHeld.2.2.2.1, below_cell bC hHeld.2.2.2.2.1, below_cell bC hHeld.2.2.2.2.2.1, below_cell bC hHeld.2.2.2.2.2.2.1, below_cell bC hHeld.2.2.2.2.2.2.2.1, below_cell bC hHeld.2.2.2.2.2.2.2.2⟩ : _ ∧ _ ∧ _ ∧ _ ∧ _ ∧ _ ∧ _ ∧ _ ∧ _)
  clear bC
  go_wp2_with fail
  clear b100
  refine hKK.out _ _ hHeld ?_
  clear hHeld
  intro hHeld
  clear hKK KK
  try simp only [Act.put, List.setIfInBounds_toArray, List.set_cons_zero, List.set_cons_succ]
  refine wpAnyH_ready (rs := [4]) (by kernel_rfl) (by simp) ?_
  refine cons' rfl (fun KK hKK => ?_)
  go_simp
  refine (mulQ (twR A p99 q99) (twR C p100 q100) X _ t99 t100 ⟨sA.1, sA.2, sC.1, sC.2⟩ eX.out zX.out).mono ?_
  rintro e v101 ⟨p101, q101, rfl, b101, r101⟩
  have bC := b101
  replace okN := okN.on bC
  replace okcs := okcs.on bC
  replace okcm := okcm.on bC
  replace t99 := t99.on bC
  replace t100 := t100.on bC
  replace hB := hB.trans (bC.mono hB.size)
  replace cn0 := below_cell bC cn0
  replace cn1 := below_cell bC cn1
  replace cn2 := below_cell bC cn2
  replace cs0 := below_cell bC cs0
  replace cs1 := below_cell bC cs1
  replace cs2 := below_cell bC cs2
  replace cm0 := below_cell bC cm0
  replace cm1 := below_cell bC cm1
  replace cm2 := below_cell bC cm2
  replace cd0 := below_cell bC cd0
  replace cd1 := below_cell bC cd1
  replace cd2 := below_cell bC cd2
  replace hHeld := (⟨below_cell bC hHeld.1, below_cell bC hHeld.2.1, below_cell bC hHeld.2.2.1, below_cell bC hHeld.2.2.2.1, below_cell bC hHeld.2.2.2.2.1, below_cell bC hHeld.2.2.2.2.2.1, below_cell bC hHeld.2.2.2.2.2.2.1, below_cell bC hHeld.2.2.2.2.2.2.2.1, below_cell bC hHeld.2.2.2.2.2.2.2.2⟩ : _ ∧ _ ∧ _ ∧ _ ∧ _ ∧ _ ∧ _ ∧ _ ∧ _)
  clear bC
  go_wp2_with fail
  clear b101
  clear t99
  clear t100
  refine hKK.out _ _ hHeld ?_
  clear hHeld
  intro hHeld
  clear hKK KK
  try simp only [Act.put, List.setIfInBounds_toArray, List.set_cons_zero, List.set_cons_succ]
  refine wpAnyH_ready (rs := [6]) (by kernel_rfl) (by simp) ?_
  refine cons' rfl (fun KK hKK => ?_)
  go_simp
  refine (GTB.out _ hB).mono ?_
  rintro e v102 ⟨p102, q102, rfl, b102, t102⟩
  have bC := b102
  replace okN := okN.on bC
  replace okcs := okcs.on bC
  replace okcm := okcm.on bC
  replace r101 := r101.on bC
  replace hB := hB.trans (bC.mono hB.size)
  replace cn0 := below_cell bC cn0
  replace cn1 := below_cell bC cn1
  replace cn2 := below_cell bC cn2
  replace cs0 := below_cell bC cs0
  replace cs1 := below_cell bC cs1
  replace cs2 := below_cell bC cs2
  replace cm0 := below_cell bC cm0
  replace cm1 := below_cell bC cm1
  replace cm2 := below_cell bC cm2
  replace cd0 := below_cell bC cd0
  replace cd1 := below_cell bC cd1
  replace cd2 := below_cell bC cd2
  replace hHeld := (⟨below_cell bC hHeld.1, below_cell bC hHeld.2.1, below_cell bC hHeld.2.2.1, below_cell bC hHeld.2.2.2.1, below_cell bC hHeld.2.2.2.2.1, below_cell bC hHeld.2.2.2.2.2.1, below_cell bC hHeld.2.2.2.2.2.2.1, below_cell bC hHeld.2.2.2.2.2.2.2.1, below_cell bC hHeld.2.2.2.2.2.2.2.2⟩ : _ ∧ _ ∧ _ ∧ _ ∧ _ ∧ _ ∧ _ ∧ _ ∧ _)
  clear bC
  go_wp2_with fail
  clear b102
  refine hKK.out _ _ hHeld ?_
  clear hHeld
  intro hHeld
  clear hKK KK
  try simp only [Act.put, List.setIfInBounds_toArray, List.set_cons_zero, List.set_cons_succ]
  refine wpAnyH_ready (rs := [8]) (by kernel_rfl) (by simp) ?_
  refine cons' rfl (fun KK hKK => ?_)
  go_simp
  refine (GTC.out _ hB).mono ?_
  rintro e v103 ⟨p103, q103, rfl, b103, t103⟩
  have bC := b103
  replace okN := okN.on bC
  replace okcs := okcs.on bC
  replace okcm := okcm.on bC
  replace r101 := r101.on bC
  replace t102 := t102.on bC
  replace hB := hB.trans (bC.mono hB.size)
  replace cn0 := below_cell bC cn0
  replace cn1 := below_cell bC cn1
  replace cn2 := below_cell bC cn2
  replace cs0 := below_cell bC cs0
  replace cs1 := below_cell bC cs1
  replace cs2 := below_cell bC cs2
  replace cm0 := below_cell bC cm0
  replace cm1 := below_cell bC cm1
  replace cm2 := below_cell bC cm2
  replace cd0 := below_cell bC cd0
  replace cd1 := below_cell bC cd1
  replace cd2 := below_cell bC cd2
  replace hHeld := (⟨below_cell bC hHeld.1, below_cell bC hHeld.2.1, below_cell bC hHeld.2.2.1, below_cell bC hHeld.2.2.2.1, below_cell bC hHeld.2.2.2.2.1, below_cell bC hHeld.2.2.2.2.2.1, below_cell bC hHeld.2.2.2.2.2.2.1, below_cell bC hHeld.2.2.2.2.2.2.2.1, below_cell bC hHeld.2.2.2.2.2.2.2.2⟩ : _ ∧ _ ∧ _ ∧ _ ∧ _ ∧ _ ∧ _ ∧ _ ∧ _)
  clear bC
  go_wp2_with fail
  clear b103
  refine hKK.out _ _ hHeld ?_
  clear hHeld
  intro hHeld
  clear hKK KK
  try simp only [Act.put, List.setIfInBounds_toArray, List.set_cons_zero, List.set_cons_succ]
  refine wpAnyH_ready (rs := [9]) (by kernel_rfl) (by simp) ?_
  refine cons' rfl (fun KK hKK => ?_)
  go_simp
  refine (mulQ (twR B p102 q102) (twR C p103 q103) Q _ t102 t103 ⟨sB.1, sB.2, sC.1, sC.2⟩ eQ.out zQ.out).mono ?_
  rintro e v104 ⟨p104, q104, rfl, b104, r104⟩
  have bC := b104
  replace okN := okN.on bC
  replace okcs := okcs.on bC
  replace okcm := okcm.on bC
  replace r101 := r101.on bC
  replace t102 := t102.on bC
  replace t103 := t103.on bC
  replace hB := hB.trans (bC.mono hB.size)
  replace cn0 := below_cell bC cn0
  replace cn1 := below_cell bC cn1
  replace cn2 := below_cell bC cn2
  replace cs0 := below_cell bC cs0
  replace cs1 := below_cell bC cs1
  replace cs2 := below_cell bC cs2
  replace cm0 := below_cell bC cm0
  replace cm1 := below_cell bC cm1
  replace cm2 := below_cell bC cm2
  replace cd0 := below_cell bC cd0
  replace cd1 := below_cell bC cd1
  replace cd2 := below_cell bC cd2
  replace hHeld := (⟨below_cell bC hHeld.1, below_cell bC hHeld.2.1, below_cell bC hHeld.2.2.1, below_cell bC hHeld.2.2.2.1, below_cell bC hHeld.2.2.2.2.1, below_cell bC hHeld.2.2.2.2.2.1, below_cell bC hHeld.2.2.2.2.2.2.1, below_cell bC hHeld.2.2.2.2.2.2.2.1, below_cell bC hHeld.2.2.2.2.2.2.2.2⟩ : _ ∧ _ ∧ _ ∧ _ ∧ _ ∧ _ ∧ _ ∧ _ ∧ _)
  clear bC
  go_wp2_with fail
  clear b104
  clear t102
  clear t103
  refine hKK.out _ _ hHeld ?_
  clear hHeld
  intro hHeld
  clear hKK KK
  try simp only [Act.put, List.setIfInBounds_toArray, List.set_cons_zero, List.set_cons_succ]
  refine wpAnyH_ready (rs := [10]) (by kernel_rfl) (by simp) ?_
  refine cons' rfl (fun KK hKK => ?_)
  go_simp
  refine (cmpQ (nR X p101 q101) (nR Q p104 q104) _ r101 r104 ⟨zX.out.1, zX.out.2, zQ.out.1, zQ.out.2⟩ Cw (by rw [nR_val, nR_val]; exact kW.out)).mono ?_
  rintro e v105 ⟨rfl, b105⟩
  have bC := b105
  replace okN := okN.on bC
  replace okcs := okcs.on bC
  replace okcm := okcm.on bC
  replace r101 := r101.on bC
  replace r104 := r104.on bC
  replace hB := hB.trans (bC.mono hB.size)
  replace cn0 := below_cell bC cn0
  replace cn1 := below_cell bC cn1
  replace cn2 := below_cell bC cn2
  replace cs0 := below_cell bC cs0
  replace cs1 := below_cell bC cs1
  replace cs2 := below_cell bC cs2
  replace cm0 := below_cell bC cm0
  replace cm1 := below_cell bC cm1
  replace cm2 := below_cell bC cm2
  replace cd0 := below_cell bC cd0
  replace cd1 := below_cell bC cd1
  replace cd2 := below_cell bC cd2
  replace hHeld := (⟨below_cell bC hHeld.1, below_cell bC hHeld.2.1, below_cell bC hHeld.2.2.1, below_cell bC hHeld.2.2.2.1, below_cell bC hHeld.2.2.2.2.1, below_cell bC hHeld.2.2.2.2.2.1, below_cell bC hHeld.2.2.2.2.2.2.1, below_cell bC hHeld.2.2.2.2.2.2.2.1, below_cell bC hHeld.2.2.2.2.2.2.2.2⟩ : _ ∧ _ ∧ _ ∧ _ ∧ _ ∧ _ ∧ _ ∧ _ ∧ _)
  clear bC
  go_wp2_with fail
  clear b105
  clear r101
  clear r104
  refine hKK.out _ _ hHeld ?_
  clear hHeld
  intro hHeld
  clear hKK KK
  try simp only [Act.put, List.setIfInBounds_toArray, List.set_cons_zero, List.set_cons_succ]
  refine wpAnyH_ready (rs := [13]) (by kernel_rfl) (by simp) ?_
  refine cons' rfl (fun KK hKK => ?_)
  go_simp
  refine (GTC.out _ hB).mono ?_
  rintro e v106 ⟨p106, q106, rfl, b106, t106⟩
  have bC := b106
  replace okN := okN.on bC
  replace okcs := okcs.on bC
  replace okcm := okcm.on bC
  replace hB := hB.trans (bC.mono hB.size)
  replace cn0 := below_cell bC cn0
  replace cn1 := below_cell bC cn1
  replace cn2 := below_cell bC cn2
  replace cs0 := below_cell bC cs0
  replace cs1 := below_cell bC cs1
  replace cs2 := below_cell bC cs2
  replace cm0 := below_cell bC cm0
  replace cm1 := below_cell bC cm1
  replace cm2 := below_cell bC cm2
  replace cd0 := below_cell bC cd0
  replace cd1 := below_cell bC cd1
  replace cd2 := below_cell bC cd2
  replace hHeld := (⟨below_cell bC hHeld.1, below_cell bC hHeld.2.1, below_cell bC hHeld.2.2.1, below_cell bC hHeld.2.2.2.1, below_cell bC hHeld.2.2.2.2.1, below_cell bC hHeld.2.2.2.2.2.1, below_cell bC hHeld.2.2.2.2.2.2.1, below_cell bC hHeld.2.2.2.2.2.2.2.1, below_cell bC hHeld.2.2.2.2.2.2.2.2⟩ : _ ∧ _ ∧ _ ∧ _ ∧ _ ∧ _ ∧ _ ∧ _ ∧ _)
  clear bC
  go_wp2_with fail
  clear b106
  refine hKK.out _ _ hHeld ?_
  clear hHeld
  intro hHeld
  clear hKK KK
  try simp only [Act.put, List.setIfInBounds_toArray, List.set_cons_zero, List.set_cons_succ]
  refine wpAnyH_ready (rs := [14]) (by kernel_rfl) (by simp) ?_
  refine cons' rfl (fun KK hKK => ?_)
  go_simp
  refine (signQ (twR C p106 q106) _ t106 Cc kC.out).mono ?_
  rintro e v107 ⟨rfl, b107⟩
  have bC := b107
  replace okN := okN.on bC
  replace okcs := okcs.on bC
  replace okcm := okcm.on bC
  replace t106 := t106.on bC
  replace hB := hB.trans (bC.mono hB.size)
  replace cn0 := below_cell bC cn0
  replace cn1 := below_cell bC cn1
  replace cn2 := below_cell bC cn2
  replace cs0 := below_cell bC cs0
  replace cs1 := below_cell bC cs1
  replace cs2 := below_cell bC cs2
  replace cm0 := below_cell bC cm0
  replace cm1 := below_cell bC cm1
  replace cm2 := below_cell bC cm2
  replace cd0 := below_cell bC cd0
  replace cd1 := below_cell bC cd1
  replace cd2 := below_cell bC cd2
  replace hHeld := (⟨below_cell bC hHeld.1, below_cell bC hHeld.2.1, below_cell bC hHeld.2.2.1, below_cell bC hHeld.2.2.2.1, below_cell bC hHeld.2.2.2.2.1, below_cell bC hHeld.2.2.2.2.2.1, below_cell bC hHeld.2.2.2.2.2.2.1, below_cell bC hHeld.2.2.2.2.2.2.2.1, below_cell bC hHeld.2.2.2.2.2.2.2.2⟩ : _ ∧ _ ∧ _ ∧ _ ∧ _ ∧ _ ∧ _ ∧ _ ∧ _)
  clear bC
  go_wp2_with fail
  clear b107
  clear t106
  refine hKK.out _ _ hHeld ?_
  clear hHeld
  intro hHeld
  clear hKK KK
  try simp only [Act.put, List.setIfInBounds_toArray, List.set_cons_zero, List.set_cons_succ]
  refine take' 15 (v := ?_) rfl (by kernel_rfl) (by kernel_rfl) (by kernel_rfl) (fun _ _ _ h => h) (Or.inl ⟨by rfl, ?_⟩) (by assumption) ?_
  rotate_left
  · intro w9 hSw
    go_simp
    first | done | with_reducible rfl
  simp only [Act.put, List.setIfInBounds_toArray, List.set_cons_zero, List.set_cons_succ]
  refine take' 16 (v := ?_) rfl (by kernel_rfl) (by kernel_rfl) (by kernel_rfl) (fun _ _ _ h => h) (Or.inl ⟨by rfl, ?_⟩) (by assumption) ?_
  rotate_left
  · intro w9 hSw
    go_simp
    first | done | with_reducible rfl
  simp only [Act.put, List.setIfInBounds_toArray, List.set_cons_zero, List.set_cons_succ]
  refine take' 17 (v := ?_) rfl (by kernel_rfl) (by kernel_rfl) (by kernel_rfl) (fun _ _ _ h => h) (Or.inl ⟨by rfl, ?_⟩) (by assumption) ?_
  rotate_left
  · intro w9 hSw
    go_simp
    first | done | with_reducible rfl
  simp only [Act.put, List.setIfInBounds_toArray, List.set_cons_zero, List.set_cons_succ]
  refine wpAnyH_done (by kernel_rfl) ?_ _
  go_wp2
  go_ret
  exact ⟨rfl, hB⟩
end Go.Proofs.YtppjfghaboeceaaGreatDoor.ratioField
