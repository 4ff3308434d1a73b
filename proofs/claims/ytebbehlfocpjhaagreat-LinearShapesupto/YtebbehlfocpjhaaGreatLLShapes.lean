import Derived.Test.YtebbehlfocpjhaaGreatWK6
import Derived.Test.YtebbehlfocpjhaaGreatWK5
import Derived.Test.YtebbehlfocpjhaaGreatWLA
import Derived.Test.YtebbehlfocpjhaaGreatWQD
import Derived.Test.YtebbehlfocpjhaaGreatWQ9
import Derived.Test.YtebbehlfocpjhaaGreatWN12
import Derived.Test.YtebbehlfocpjhaaGreatOpenR
set_option linter.unusedSimpArgs false
namespace Go.Proofs.YtebbehlfocpjhaaGreat.linearShapes
open Go.ChangeShapes Go.WideShapes Go.ChangeAt Go.RowKit Go.Proofs.YtebbehlfocpjhaaGreat
set_option linter.unusedVariables false
set_option maxHeartbeats 8000000 in
set_option maxRecDepth 100000 in
theorem walkM (a : Option Addr) (ca : Nat) (L : List Mo) (b : Option Addr) (cb : Nat) (M : List Mo) (C : RatV) (w : World) (hF : FAt w a L) (hok : ∀ p ∈ L, p.2.ok w ∧ p.2.n ≤ 2097152 ∧ p.2.m ≤ 2097152) (hc : L.length ≤ ca) (hm : L.length ≤ 1048576) (hwL : wts (fo L) ≤ 2097152)
    (hG : FAt w b M) (hkG : ∀ p ∈ M, p.2.ok w ∧ p.2.n ≤ 2097152 ∧ p.2.m ≤ 2097152) (hcG : M.length ≤ cb) (hmG : M.length ≤ 1048576) (hwM : wts (fo M) ≤ 2097152) (hC : C.ok w) (hCn : C.n + C.m ≤ 1048576) :
    Calls Tryz.prog 3 #[.slice a L.length ca, .slice b M.length cb, .agg #[.bool C.s, .slice C.a C.n C.c, .slice C.b C.m C.e]] w fun e w' => e = .returned (.bool true) ∧ Below w.heap.size w w' := by
  have GP1 := hide' (fun w' (hb : Below w.heap.size w w') => lPrime_is a ca L w' (hF.later hb) (fun p hp => (hok p hp).1.later hb) hc hm (fun p hp => by have := (hok p hp).2; omega) (by omega))
  have GP2 := hide' (fun w' (hb : Below w.heap.size w w') => lPrime_is b cb M w' (hG.later hb) (fun p hp => (hkG p hp).1.later hb) hcG hmG (fun p hp => by have := (hkG p hp).2; omega) (by omega))
  have GN1 := hide' (fun w' (hb : Below w.heap.size w w') => lNorm_is a ca L w' (hF.later hb) (fun p hp => (hok p hp).1.later hb) hc hm (fun p hp => by have := (hok p hp).2; omega) (thin_of (by omega)))
  have GN2 := hide' (fun w' (hb : Below w.heap.size w w') => lNorm_is b cb M w' (hG.later hb) (fun p hp => (hkG p hp).1.later hb) hcG hmG (fun p hp => by have := (hkG p hp).2; omega) (thin_of (by omega)))
  have hCz : sz 1048577 C.val := by obtain ⟨h1, h2⟩ := norm_sz hC; exact ⟨by omega, by omega⟩
  have GC := hide' (fun w' (hb : Below w.heap.size w w') => lScaleF_is C a ca L 20000000 w' (hF.later hb) (fun p hp => (hok p hp).1.later hb) hc hm (hC.later hb) (fun p hp => by have := (hok p hp).2; omega) (by omega) (by omega) (fine_scale hCz (by omega)))
  have GK : Hid (∀ w' (k : Rat) x y, Below w.heap.size w w' → sz 5000000 k → Seg w' x (am k.num) (ln (am k.num)) → Seg w' y k.den (ln k.den) → Calls Tryz.prog 6 #[.agg #[.bool (ng k.num), .slice x (ln (am k.num)) (ln (am k.num)), .slice y (ln k.den) (ln k.den)], .slice a L.length ca] w' (FAns w' (nfm (fmap (fun r => k * r) (fo L))))) := hide' (fun w' k x y hb hk k1 k2 => by
    have h := lScaleF_is (nR k x y) a ca L 20000000 w' (hF.later hb) (fun p hp => (hok p hp).1.later hb) hc hm (ok_nR9 (hk.mono (by omega)) k1 k2) (fun p hp => by have := (hok p hp).2; have := hk.1; have := hk.2; show ln (am k.num) + ln k.den + _ + _ ≤ _; omega) (by have := hk.1; have := hk.2; show ln (am k.num) + ln k.den ≤ _; omega) (by omega) (by rw [nR_val]; exact fine_scale hk (by omega))
    rw [nR_val] at h
    exact h)
  have GZ := hide' (fun w' (hb : Below w.heap.size w w') => vqSign_is C.s C.a C.n C.c C.X C.b C.m C.e C.Y (sR C.val) w' hC.2.1 hC.2.2.1 (hC.later hb).1 hC.2.2.2.2.1 hC.2.2.2.2.2 (hC.later hb).2.2.2.1 (sR_val C))
  have GM := hide' (fun w' (hb : Below w.heap.size w w') (g : Rat) x y (hg : sz 2097153 g) (k1 : Seg w' x (am g.num) (ln (am g.num))) (k2 : Seg w' y g.den (ln g.den)) => vqMul_is C.s C.a C.n C.c C.X C.b C.m C.e C.Y (ng g.num) x (ln (am g.num)) (ln (am g.num)) (am g.num) y (ln g.den) (ln g.den) g.den (C.val * g).num (C.val * g).den w' hC.2.1 (by omega) (hC.later hb).1 hC.2.2.2.2.1 (by omega) (hC.later hb).2.2.2.1 (Nat.le_refl _) (Nat.le_trans hg.1 (by omega)) k1 (Nat.le_refl _) (Nat.le_trans hg.2 (by omega)) k2 (by have h := low_mul C (nR g x y); rw [nR_val] at h; exact h))
  have hFL := FS.of hwL (by rw [fo_length]; exact hm)
  have hFM := FS.of hwM (by rw [fo_length]; exact hmG)
  by_cases hc0 : C.val ≠ 0
  · have en := nfm_scale (fo L) hc0
    rw [en] at GC
    clear en
    obtain ⟨l, hl⟩ : ∃ l, nfm (fo L) = l := ⟨_, rfl⟩
    obtain ⟨m, hm9⟩ : ∃ m, nfm (fo M) = m := ⟨_, rfl⟩
    rw [hl] at GP1 GN1 hFL GC
    rw [hm9] at GP2 GN2 hFM
    have GL := hide' (fun k (hk : k ≠ 0) => (show nfm (fmap (fun r => k * r) (fo L)) = fmap (fun r => k * r) l by rw [nfm_scale _ hk, hl]))
    replace hl := hide' hl
    replace hm9 := hide' hm9
    clear hF hok hc hm hwL hG hkG hcG hmG hwM
    have HC := hide' (And.intro hC (And.intro hCn hCz))
    clear hC hCn hCz
    replace hc0 := hide' hc0
    obtain ⟨cv, hcv⟩ : ∃ cv, C.val = cv := ⟨_, rfl⟩
    obtain ⟨sv, hsv⟩ : ∃ sv, sR C.val = sv := ⟨_, rfl⟩
    have hs0 : sv ≠ 0 := fun e => hc0.out (sR_zero (hsv.trans e))
    rw [hsv] at GZ
    replace hcv := hide' hcv
    replace hsv := hide' hsv
    go_enter Tryz.func3, Tryz.ntmps3
    go_wp2_with fail
    obtain ⟨wA, hwA⟩ : ∃ wA, w.alloc (.cells #[.bool C.s, .slice C.a C.n C.c, .slice C.b C.m C.e] 29) = wA := ⟨_, rfl⟩
    have hB : Below w.heap.size w wA := by subst hwA; exact below_alloc _
    have q0 : wA.cell? ⟨w.heap.size, 0, none⟩ = some (.bool C.s) := by subst hwA; go_simp
    have q1 : wA.cell? ⟨w.heap.size, 1, none⟩ = some (.slice C.a C.n C.c) := by subst hwA; go_simp
    have q2 : wA.cell? ⟨w.heap.size, 2, none⟩ = some (.slice C.b C.m C.e) := by subst hwA; go_simp
    rw [hwA]
    clear hwA
    refine (GP1.out _ hB).mono ?_
    rintro e w1 ⟨g, a1, c1, R1, x1, y1, rfl, hP, b1, s1, E1, f1, k1, k2⟩
    replace q0 := below_cell b1 q0
    replace q1 := below_cell b1 q1
    replace q2 := below_cell b1 q2
    replace hB := hB.trans (b1.mono hB.size)
    clear b1
    have hz := hFL.prm hP
    rw [nfm_scale_nrm hFL.nr (fun e => hP.ne (by rw [← Rat.inv_inv g, e, Rat.inv_zero]))] at f1
    have hR1 : R1.length ≤ 2097152 := by rw [← fo_length, f1, fmap_length]; have := hFL.len; omega
    obtain ⟨wB, hwB⟩ : ∃ wB, w1.alloc (.cells #[.bool (ng g.num), .slice x1 (ln (am g.num)) (ln (am g.num)), .slice y1 (ln g.den) (ln g.den)] 29) = wB := ⟨_, rfl⟩
    have bwB : Below w1.heap.size w1 wB := by subst hwB; exact below_alloc _
    have r0 : wB.cell? ⟨w1.heap.size, 0, none⟩ = some (.bool (ng g.num)) := by subst hwB; go_simp
    have r1 : wB.cell? ⟨w1.heap.size, 1, none⟩ = some (.slice x1 (ln (am g.num)) (ln (am g.num))) := by subst hwB; go_simp
    have r2 : wB.cell? ⟨w1.heap.size, 2, none⟩ = some (.slice y1 (ln g.den) (ln g.den)) := by subst hwB; go_simp
    replace s1 := s1.later bwB
    replace E1 := E1.later bwB
    replace k1 := k1.later bwB
    replace k2 := k2.later bwB
    replace q0 := below_cell bwB q0
    replace q1 := below_cell bwB q1
    replace q2 := below_cell bwB q2
    replace hB := hB.trans (bwB.mono hB.size)
    clear bwB
    have GX := hide' (scaleBack_is l g a1 c1 R1 x1 y1 wB hFL hP s1 E1 f1 k1 k2)
    replace f1 := hide' f1
    replace hP := hide' hP
    replace hFL := hide' hFL
    replace hFM := hide' hFM
    go_wp2_with fail
    clear hwB
    refine (GX.out).mono ?_
    rintro e w3 ⟨a3, c3, R3, rfl, b3, s3, E3, f3⟩
    replace s1 := s1.later b3
    replace E1 := E1.later b3
    replace k1 := k1.later b3
    replace k2 := k2.later b3
    replace q0 := below_cell b3 q0
    replace q1 := below_cell b3 q1
    replace q2 := below_cell b3 q2
    replace r0 := below_cell b3 r0
    replace r1 := below_cell b3 r1
    replace r2 := below_cell b3 r2
    replace hB := hB.trans (b3.mono hB.size)
    clear b3
    replace E3 : Ents w3 R3 := E3
    clear GX
    go_wp2_with fail
    refine (GN1.out _ hB).mono ?_
    rintro e w4 ⟨a4, c4, R4, rfl, b4, s4, E4, f4⟩
    replace s1 := s1.later b4
    replace E1 := E1.later b4
    replace k1 := k1.later b4
    replace k2 := k2.later b4
    replace s3 := s3.later b4
    replace E3 := E3.later b4
    replace q0 := below_cell b4 q0
    replace q1 := below_cell b4 q1
    replace q2 := below_cell b4 q2
    replace r0 := below_cell b4 r0
    replace r1 := below_cell b4 r1
    replace r2 := below_cell b4 r2
    replace hB := hB.trans (b4.mono hB.size)
    clear b4
    replace E4 : Ents w4 R4 := E4
    have GE := hide' (SameForm_is a3 c3 R3 a4 c4 R4 w4 s3.lies s4.lies E3 E4 s3.len s4.len (by rw [← fo_length, f3]; have := hFL.out.len; omega) (f3.trans f4.symm))
    clear s3 E3 s4 E4
    clear f3 f4
    go_wp2_with fail
    refine (GE.out).mono ?_
    rintro e w5 ⟨rfl, b5⟩
    replace s1 := s1.later b5
    replace E1 := E1.later b5
    replace k1 := k1.later b5
    replace k2 := k2.later b5
    replace q0 := below_cell b5 q0
    replace q1 := below_cell b5 q1
    replace q2 := below_cell b5 q2
    replace r0 := below_cell b5 r0
    replace r1 := below_cell b5 r1
    replace r2 := below_cell b5 r2
    replace hB := hB.trans (b5.mono hB.size)
    clear b5
    clear GE
    go_wp2_with fail
    refine (GZ.out _ hB).mono ?_
    rintro e w6 ⟨rfl, b6⟩
    replace s1 := s1.later b6
    replace E1 := E1.later b6
    replace k1 := k1.later b6
    replace k2 := k2.later b6
    replace q0 := below_cell b6 q0
    replace q1 := below_cell b6 q1
    replace q2 := below_cell b6 q2
    replace r0 := below_cell b6 r0
    replace r1 := below_cell b6 r1
    replace r2 := below_cell b6 r2
    replace hB := hB.trans (b6.mono hB.size)
    clear b6
    clear GZ
    have hsb : (sv == 0) = false := beq_eq_false_iff_ne.2 hs0
    have hsn : (sv != 0) = true := by unfold bne; rw [hsb]; rfl
    go_wp2_with fail
    refine (GC.out _ hB).mono ?_
    rintro e w7 ⟨a7, c7, R7, rfl, b7, s7, E7, f7⟩
    replace s1 := s1.later b7
    replace E1 := E1.later b7
    replace k1 := k1.later b7
    replace k2 := k2.later b7
    replace q0 := below_cell b7 q0
    replace q1 := below_cell b7 q1
    replace q2 := below_cell b7 q2
    replace r0 := below_cell b7 r0
    replace r1 := below_cell b7 r1
    replace r2 := below_cell b7 r2
    replace hB := hB.trans (b7.mono hB.size)
    clear b7
    replace E7 : Ents w7 R7 := E7
    clear GC
    have GP3 := hide' (primeScaled_is l C.val a7 c7 R7 w7 hFL.out hc0.out (HC.out.2.2.mono (by omega)) s7 E7 f7)
    clear s7 E7
    clear f7
    go_wp2_with fail
    refine (GP3.out).mono ?_
    rintro e w8 ⟨g8, a8, c8, R8, x8, y8, rfl, hP8, b8, s8, E8, f8, k5, k6⟩
    replace s1 := s1.later b8
    replace E1 := E1.later b8
    replace k1 := k1.later b8
    replace k2 := k2.later b8
    replace q0 := below_cell b8 q0
    replace q1 := below_cell b8 q1
    replace q2 := below_cell b8 q2
    replace r0 := below_cell b8 r0
    replace r1 := below_cell b8 r1
    replace r2 := below_cell b8 r2
    replace hB := hB.trans (b8.mono hB.size)
    clear b8
    clear GP3
    obtain ⟨h1, h2⟩ := shape_scale hP.out hc0.out hP8
    have hg8 := hide' h2
    have f9 : fo R8 = fo R1 := by rw [f8, nfm_scale_nrm (nrm_scale hFL.out.nr hc0.out) (fun e => hP8.ne (by rw [← Rat.inv_inv g8, e, Rat.inv_zero])), h1]; exact f1.out.symm
    have hl9 : Hid (R1.length ≠ 0 → l ≠ []) := hide' (fun h e => h (by rw [← fo_length, f1.out, e]; rfl))
    clear h1 h2 hP8 f8
    obtain ⟨wC, hwC⟩ : ∃ wC, w8.alloc (.cells #[.bool (ng g8.num), .slice x8 (ln (am g8.num)) (ln (am g8.num)), .slice y8 (ln g8.den) (ln g8.den)] 29) = wC := ⟨_, rfl⟩
    have bwC : Below w8.heap.size w8 wC := by subst hwC; exact below_alloc _
    have u0 : wC.cell? ⟨w8.heap.size, 0, none⟩ = some (.bool (ng g8.num)) := by subst hwC; go_simp
    have u1 : wC.cell? ⟨w8.heap.size, 1, none⟩ = some (.slice x8 (ln (am g8.num)) (ln (am g8.num))) := by subst hwC; go_simp
    have u2 : wC.cell? ⟨w8.heap.size, 2, none⟩ = some (.slice y8 (ln g8.den) (ln g8.den)) := by subst hwC; go_simp
    replace s1 := s1.later bwC
    replace E1 := E1.later bwC
    replace k1 := k1.later bwC
    replace k2 := k2.later bwC
    replace s8 := s8.later bwC
    replace E8 := E8.later bwC
    replace k5 := k5.later bwC
    replace k6 := k6.later bwC
    replace q0 := below_cell bwC q0
    replace q1 := below_cell bwC q1
    replace q2 := below_cell bwC q2
    replace r0 := below_cell bwC r0
    replace r1 := below_cell bwC r1
    replace r2 := below_cell bwC r2
    replace hB := hB.trans (bwC.mono hB.size)
    clear bwC
    have GE := hide' (fun w' (s1 : Sl w' a1 c1 R1) (s8 : Sl w' a8 c8 R8) (E1 : Ents w' R1) (E8 : Ents w' R8) => SameForm_is a1 c1 R1 a8 c8 R8 w' s1.lies s8.lies E1 E8 s1.len s8.len hR1 f9.symm)
    go_wp2_with fail
    clear hwC
    by_cases hlen : R1.length = 0
    · have il : ¬ (0 : Int) < (R1.length : Int) := by omega
      have il2 : ¬ (R1.length : Int) > 0 := by omega
      have iln : ¬ 0 < R1.length := by omega
      replace hlen := hide' hlen
      have bD : Below wC.heap.size wC wC.drew := (Below.refl _ _).drew
      have ku0 := below_cell bD u0
      have ku1 := below_cell bD u1
      have ku2 := below_cell bD u2
      have kq0 := below_cell bD q0
      have kq1 := below_cell bD q1
      have kq2 := below_cell bD q2
      have kr0 := below_cell bD r0
      have kr1 := below_cell bD r1
      have kr2 := below_cell bD r2
      replace hB := hB.trans (bD.mono hB.size)
      replace s1 := s1.later bD
      replace E1 := E1.later bD
      replace s8 := s8.later bD
      replace E8 := E8.later bD
      replace k1 := k1.later bD
      replace k2 := k2.later bD
      replace k5 := k5.later bD
      replace k6 := k6.later bD
      replace q0 := below_cell bD q0
      replace q1 := below_cell bD q1
      replace q2 := below_cell bD q2
      replace r0 := below_cell bD r0
      replace r1 := below_cell bD r1
      replace r2 := below_cell bD r2
      refine wp_region_held_drew (S := fun w' => w'.cell? ⟨w8.heap.size, 0, none⟩ = some (.bool (ng g8.num)) ∧ w'.cell? ⟨w8.heap.size, 1, none⟩ = some (.slice x8 (ln (am g8.num)) (ln (am g8.num))) ∧ w'.cell? ⟨w8.heap.size, 2, none⟩ = some (.slice y8 (ln g8.den) (ln g8.den)) ∧ w'.cell? ⟨w.heap.size, 0, none⟩ = some (.bool C.s) ∧ w'.cell? ⟨w.heap.size, 1, none⟩ = some (.slice C.a C.n C.c) ∧ w'.cell? ⟨w.heap.size, 2, none⟩ = some (.slice C.b C.m C.e) ∧ w'.cell? ⟨w1.heap.size, 0, none⟩ = some (.bool (ng g.num)) ∧ w'.cell? ⟨w1.heap.size, 1, none⟩ = some (.slice x1 (ln (am g.num)) (ln (am g.num))) ∧ w'.cell? ⟨w1.heap.size, 2, none⟩ = some (.slice y1 (ln g.den) (ln g.den))) (by kernel_rfl) ⟨ku0, ku1, ku2, kq0, kq1, kq2, kr0, kr1, kr2⟩ (fun hHeld => ?_)
      clear ku0 ku1 ku2 kq0 kq1 kq2 kr0 kr1 kr2
      generalize wC.drew = w0 at bD s1 E1 s8 E8 k1 k2 k5 k6 q0 q1 q2 r0 r1 r2 hB hHeld ⊢
      clear bD u0 u1 u2
      refine tk 0 (v := ?_) rfl (Or.inl ⟨by rfl, ?_⟩) ?_
      rotate_left
      · intro w9 hSw
        go_simp
        first | done | with_reducible rfl
      simp only [pP, pN, pS, pZ, pC]
      refine tk 1 (v := ?_) rfl (Or.inl ⟨by rfl, ?_⟩) ?_
      rotate_left
      · intro w9 hSw
        go_simp
        first | done | with_reducible rfl
      simp only [pP, pN, pS, pZ, pC]
      refine wpAnyH_ready (rs := [2]) (by kernel_rfl) (by simp) ?_
      refine cons' rfl (fun KK hKK => ?_)
      go_simp
      refine (GE.out _ s1 s8 E1 E8).mono ?_
      rintro e w9 ⟨rfl, b9⟩
      have bC := b9
      replace hB := hB.trans (bC.mono hB.size)
      replace s1 := s1.later bC
      replace E1 := E1.later bC
      replace s8 := s8.later bC
      replace E8 := E8.later bC
      replace k1 := k1.later bC
      replace k2 := k2.later bC
      replace k5 := k5.later bC
      replace k6 := k6.later bC
      replace q0 := below_cell bC q0
      replace q1 := below_cell bC q1
      replace q2 := below_cell bC q2
      replace r0 := below_cell bC r0
      replace r1 := below_cell bC r1
      replace r2 := below_cell bC r2
      replace hHeld := (⟨below_cell bC hHeld.1, below_cell bC hHeld.2.1, below_cell bC hHeld.2.2.1, below_cell bC hHeld.2.2.2.1, below_cell bC hHeld.2.2.2.2.1, below_cell bC hHeld.2.2.2.2.2.1, below_cell bC hHeld.2.2.2.2.2.2.1, below_cell bC hHeld.2.2.2.2.2.2.2.1, below_cell bC hHeld.2.2.2.2.2.2.2.2⟩ : _ ∧ _ ∧ _ ∧ _ ∧ _ ∧ _ ∧ _ ∧ _ ∧ _)
      clear bC
      go_wp2_with fail
      clear b9 GE s8 E8
      refine hKK.out _ _ hHeld ?_
      clear hHeld
      intro hHeld
      clear hKK KK
      try simp only [pP, pN, pS, pZ, pC]
      refine tk 3 (v := ?_) rfl (Or.inl ⟨by rfl, ?_⟩) ?_
      rotate_left
      · intro w9 hSw
        go_simp
        first | done | with_reducible rfl
      simp only [pP, pN, pS, pZ, pC]
      refine tk 4 (v := ?_) rfl (Or.inl ⟨by rfl, ?_⟩) ?_
      rotate_left
      · intro w9 hSw
        go_simp
        first | done | with_reducible rfl
      simp only [pP, pN, pS, pZ, pC]
      refine tk 5 (v := ?_) rfl (Or.inl ⟨by rfl, ?_⟩) ?_
      rotate_left
      · intro w9 hSw
        go_simp
        first | done | with_reducible rfl
      simp only [pP, pN, pS, pZ, pC]
      refine tk 6 (v := ?_) rfl (Or.inl ⟨by rfl, ?_⟩) ?_
      rotate_left
      · intro w9 hSw
        go_simp
        first | done | with_reducible rfl
      simp only [pP, pN, pS, pZ, pC]
      refine tk 7 (v := ?_) rfl (Or.inl ⟨by rfl, ?_⟩) ?_
      rotate_left
      · intro w9 hSw
        go_simp
        first | done | with_reducible rfl
      simp only [pP, pN, pS, pZ, pC]
      refine tk 8 (v := ?_) rfl (Or.inl ⟨by rfl, ?_⟩) ?_
      rotate_left
      · intro w9 hSw
        go_simp
        first | done | with_reducible rfl
      simp only [pP, pN, pS, pZ, pC]
      clear k5 k6
      refine tk 9 (v := undef) rfl (Or.inr ⟨by rfl, rfl⟩) ?_
      simp only [pP, pN, pS, pZ, pC]
      refine tk 10 (v := undef) rfl (Or.inr ⟨by rfl, rfl⟩) ?_
      simp only [pP, pN, pS, pZ, pC]
      refine tk 11 (v := undef) rfl (Or.inr ⟨by rfl, rfl⟩) ?_
      simp only [pP, pN, pS, pZ, pC]
      refine tk 12 (v := undef) rfl (Or.inr ⟨by rfl, rfl⟩) ?_
      simp only [pP, pN, pS, pZ, pC]
      refine tk 13 (v := undef) rfl (Or.inr ⟨by rfl, rfl⟩) ?_
      simp only [pP, pN, pS, pZ, pC]
      refine tk 14 (v := undef) rfl (Or.inr ⟨by rfl, rfl⟩) ?_
      simp only [pP, pN, pS, pZ, pC]
      refine tk 15 (v := ?_) rfl (Or.inl ⟨by rfl, ?_⟩) ?_
      rotate_left
      · intro w9 hSw
        go_simp
        first | done | with_reducible rfl
      simp only [pP, pN, pS, pZ, pC]
      refine tk 16 (v := ?_) rfl (Or.inl ⟨by rfl, ?_⟩) ?_
      rotate_left
      · intro w9 hSw
        go_simp
        first | done | with_reducible rfl
      simp only [pP, pN, pS, pZ, pC]
      refine wpAnyH_done (by kernel_rfl) ?_ _
      clear hHeld q0 q1 q2
      go_wp2_with fail
      refine (GP2.out _ hB).mono ?_
      rintro e w12 ⟨h, a12, c12, R12, x12, y12, rfl, hQ, b12, s12, E12, f12, k12, k13⟩
      replace s1 := s1.later b12
      replace E1 := E1.later b12
      replace k1 := k1.later b12
      replace k2 := k2.later b12
      replace r0 := below_cell b12 r0
      replace r1 := below_cell b12 r1
      replace r2 := below_cell b12 r2
      replace hB := hB.trans (b12.mono hB.size)
      clear b12
      have hzh := hFM.out.prm hQ
      rw [nfm_scale_nrm hFM.out.nr (fun e => hQ.ne (by rw [← Rat.inv_inv h, e, Rat.inv_zero]))] at f12
      obtain ⟨wD, hwD⟩ : ∃ wD, w12.alloc (.cells #[.bool (ng h.num), .slice x12 (ln (am h.num)) (ln (am h.num)), .slice y12 (ln h.den) (ln h.den)] 29) = wD := ⟨_, rfl⟩
      have bwD : Below w12.heap.size w12 wD := by subst hwD; exact below_alloc _
      have v0 : wD.cell? ⟨w12.heap.size, 0, none⟩ = some (.bool (ng h.num)) := by subst hwD; go_simp
      have v1 : wD.cell? ⟨w12.heap.size, 1, none⟩ = some (.slice x12 (ln (am h.num)) (ln (am h.num))) := by subst hwD; go_simp
      have v2 : wD.cell? ⟨w12.heap.size, 2, none⟩ = some (.slice y12 (ln h.den) (ln h.den)) := by subst hwD; go_simp
      replace s1 := s1.later bwD
      replace E1 := E1.later bwD
      replace k1 := k1.later bwD
      replace k2 := k2.later bwD
      replace s12 := s12.later bwD
      replace E12 := E12.later bwD
      replace k12 := k12.later bwD
      replace k13 := k13.later bwD
      replace r0 := below_cell bwD r0
      replace r1 := below_cell bwD r1
      replace r2 := below_cell bwD r2
      replace hB := hB.trans (bwD.mono hB.size)
      clear bwD
      by_cases he : fo R1 = fo R12
      · skip
        have GE := hide' (SameForm_is a1 c1 R1 a12 c12 R12 wD s1.lies s12.lies E1 E12 s1.len s12.len hR1 he)
        have hsh := hide' (shape_eq hP.out.ne hQ.ne (by rw [← f1.out, ← f12]; exact he))
        clear s12 E12 s1 E1
        clear f12 he
        go_wp2_with fail
        clear hwD
        refine (GE.out).mono ?_
        rintro e w13 ⟨rfl, b13⟩
        replace k1 := k1.later b13
        replace k2 := k2.later b13
        replace k12 := k12.later b13
        replace k13 := k13.later b13
        replace r0 := below_cell b13 r0
        replace r1 := below_cell b13 r1
        replace r2 := below_cell b13 r2
        replace v0 := below_cell b13 v0
        replace v1 := below_cell b13 v1
        replace v2 := below_cell b13 v2
        replace hB := hB.trans (b13.mono hB.size)
        clear b13
        clear GE
        by_cases hl0 : R1.length = 0
        · have i0 : ((R1.length : Nat) : Int) = 0 := by omega
          go_wp2_with fail
          refine (awake_is _).mono ?_
          rintro e w14 ⟨rfl, b14⟩
          go_wp2
          go_ret
          exact ⟨rfl, hB.trans (b14.mono hB.size)⟩
        · exact absurd hlen.out hl0
      · skip
        have GE := hide' (SameForm_ne a1 c1 R1 a12 c12 R12 wD s1.lies s12.lies E1 E12 s1.len s12.len hR1 he)
        have hsh := hide' (shape_ne hP.out hQ hFL.out.nr hFM.out.nr (by rw [← f1.out, ← f12]; exact he))
        clear s12 E12 s1 E1 k1 k2 k12 k13 r0 r1 r2 v0 v1 v2
        clear f12 he
        go_wp2_with fail
        clear hwD
        refine (GE.out).mono ?_
        rintro e w13 ⟨rfl, b13⟩
        replace hB := hB.trans (b13.mono hB.size)
        clear b13
        clear GE
        go_wp2_with fail
        refine (GN1.out _ hB).mono ?_
        rintro e w14 ⟨a14, c14, R14, rfl, b14, s14, E14, f14⟩
        replace hB := hB.trans (b14.mono hB.size)
        clear b14
        replace E14 : Ents w14 R14 := E14
        go_wp2_with fail
        refine (GN2.out _ hB).mono ?_
        rintro e w15 ⟨a15, c15, R15, rfl, b15, s15, E15, f15⟩
        replace s14 := s14.later b15
        replace E14 := E14.later b15
        replace hB := hB.trans (b15.mono hB.size)
        clear b15
        replace E15 : Ents w15 R15 := E15
        obtain ⟨hne, hmul⟩ := hsh.out
        clear hsh
        replace hmul := hide' hmul
        have hnm : R14.length ≠ 0 ∨ R15.length ≠ 0 := by
          rcases Nat.eq_zero_or_pos R14.length with h1 | h1
          · rcases Nat.eq_zero_or_pos R15.length with h2 | h2
            · exact absurd ⟨by rw [← f14, List.length_eq_zero_iff.1 h1]; rfl, by rw [← f15, List.length_eq_zero_iff.1 h2]; rfl⟩ hne
            · exact Or.inr (by omega)
          · exact Or.inl (by omega)
        clear hne
        have hl14 : R14.length ≤ 1048576 := by rw [← fo_length, f14]; exact hFL.out.len
        have hl15 : R15.length ≤ 1048576 := by rw [← fo_length, f15]; exact hFM.out.len
        by_cases h14 : R14.length = 0
        · skip
          have i0 : ((R14.length : Nat) : Int) = 0 := by omega
          have i9 : ((R14.length : Nat) : Int) + ((R15.length : Nat) : Int) > 0 := by omega
          have iw : wrap64 (((R14.length : Nat) : Int) + ((R15.length : Nat) : Int)) = ((R14.length : Nat) : Int) + ((R15.length : Nat) : Int) := wrap64_small (by omega) (by omega)
          clear hmul
          go_wp2
          go_ret
          exact ⟨by first | rfl | (simp [i9, iw]; omega) | simp [i9, iw], hB⟩
        · have i0 : ¬ ((R14.length : Nat) : Int) = 0 := by omega
          by_cases h15 : R15.length = 0
          · skip
            have i1 : ((R15.length : Nat) : Int) = 0 := by omega
            have i9 : ((R14.length : Nat) : Int) + ((R15.length : Nat) : Int) > 0 := by omega
            have iw : wrap64 (((R14.length : Nat) : Int) + ((R15.length : Nat) : Int)) = ((R14.length : Nat) : Int) + ((R15.length : Nat) : Int) := wrap64_small (by omega) (by omega)
            clear hmul
            go_wp2
            go_ret
            exact ⟨by first | rfl | (simp [i9, iw]; omega) | simp [i9, iw], hB⟩
          · skip
            have i1 : ¬ ((R15.length : Nat) : Int) = 0 := by omega
            have ib14 : (((R14.length : Nat) : Int) == 0) = false := beq_eq_false_iff_ne.2 i0
            have ib15 : (((R15.length : Nat) : Int) == 0) = false := beq_eq_false_iff_ne.2 i1
            obtain ⟨p14, T14, hR14⟩ : ∃ p T, R14 = p :: T := by rcases R14 with _ | ⟨p, T⟩; exact absurd rfl h14; exact ⟨p, T, rfl⟩
            have hp14 : R14[0]? = some p14 := by rw [hR14]; rfl
            obtain ⟨bk14, o14, rfl, hbk14, hcl14⟩ := s14.lies (by rw [hR14]; simp)
            obtain ⟨_, d141, d142, d143⟩ := hcl14 0 p14 hp14
            rw [Nat.zero_mul, Nat.add_zero] at d141 d142 d143
            have hcap14 := s14.len
            have hq14 := E14 p14 (List.mem_of_getElem? hp14)
            have hi14 : (0 : Int) < (R14.length : Int) := by omega
            have hj14 : 0 < R14.length := by omega
            obtain ⟨p15, T15, hR15⟩ : ∃ p T, R15 = p :: T := by rcases R15 with _ | ⟨p, T⟩; exact absurd rfl h15; exact ⟨p, T, rfl⟩
            have hp15 : R15[0]? = some p15 := by rw [hR15]; rfl
            obtain ⟨bk15, o15, rfl, hbk15, hcl15⟩ := s15.lies (by rw [hR15]; simp)
            obtain ⟨_, d151, d152, d153⟩ := hcl15 0 p15 hp15
            rw [Nat.zero_mul, Nat.add_zero] at d151 d152 d153
            have hcap15 := s15.len
            have hq15 := E15 p15 (List.mem_of_getElem? hp15)
            have hi15 : (0 : Int) < (R15.length : Int) := by omega
            have hj15 : 0 < R15.length := by omega
            have hm14 : (p14.1, p14.2.val) ∈ l := by rw [← f14, hR14]; exact List.mem_cons_self ..
            have hm15 : (p15.1, p15.2.val) ∈ m := by rw [← f15, hR15]; exact List.mem_cons_self ..
            have hz14 := hFL.out.co _ hm14
            have hz15 := hFM.out.co _ hm15
            have hn14 := hFL.out.nr.2 _ hm14
            have hn15 := hFM.out.nr.2 _ hm15
            simp only at hz14 hz15 hn14 hn15
            have hmu := hmul.out (p14.1, p14.2.val) (fo T14) (by rw [← f14, hR14]; rfl) (p15.1, p15.2.val) (fo T15) (by rw [← f15, hR15]; rfl)
            simp only at hmu
            clear hmul
            obtain ⟨e14, P⟩ := p14
            obtain ⟨e15, Q⟩ := p15
            simp only at d141 d142 d143 d151 d152 d153 hz14 hz15 hn14 hn15 hmu
            obtain ⟨ho14, hlo14⟩ := hq14
            obtain ⟨ho15, hlo15⟩ := hq15
            simp only at ho14 ho15 hlo14 hlo15
            have hkz := (sz_mulY hz15 (szInv hz14 hn14)).mono (show 2097153 + 2097153 ≤ 5000000 by omega)
            rw [← Rat.div_def] at hkz
            have hk0 : Q.val / P.val ≠ 0 := fun e => by rw [Rat.div_def] at e; rcases Rat.mul_eq_zero.1 e with e | e; exact hn15 e; exact hn14 (by rw [← Rat.inv_inv P.val, e, Rat.inv_zero])
            have HD := hide' (fun w' (hP9 : P.ok w') (hQ9 : Q.ok w') (hpn : P.n ≤ 5000000 ∧ P.m ≤ 5000000) (hqn : Q.n ≤ 5000000 ∧ Q.m ≤ 5000000) => vqDiv_is Q.s Q.a Q.n Q.c Q.X Q.b Q.m Q.e Q.Y P.s P.a P.n P.c P.X P.b P.m P.e P.Y (Q.val / P.val).num (Q.val / P.val).den w' hQ9.2.1 (by omega) hQ9.1 hQ9.2.2.2.2.1 (by omega) hQ9.2.2.2.1 hP9.2.1 (by omega) hP9.1 hP9.2.2.2.2.1 (by omega) hP9.2.2.2.1 (low_divY Q P hn14))
            have hfl := GL.out _ hk0
            obtain ⟨kq, hkq⟩ : ∃ kq, Q.val / P.val = kq := ⟨_, rfl⟩
            rw [hkq] at HD hkz hfl hmu
            replace hfl := hide' hfl
            replace hmu := hide' hmu
            replace hkq := hide' hkq
            have hpn : P.n ≤ 5000000 ∧ P.m ≤ 5000000 := by obtain ⟨h1, h2⟩ := low_ns hlo14; have := hz14.1; have := hz14.2; omega
            have hqn : Q.n ≤ 5000000 ∧ Q.m ≤ 5000000 := by obtain ⟨h1, h2⟩ := low_ns hlo15; have := hz15.1; have := hz15.2; omega
            have HG := hide' (fun w' (hb : Below w.heap.size w w') x y k1 k2 => GK.out w' kq x y hb hkz k1 k2)
            clear hz14 hz15 hn14 hn15 hk0 hm14 hm15 hkz hP hQ GP1 GP2 GN1 GN2 GL hlo14 hlo15 hcl14 hcl15 hp14 hp15 hR14 hR15 hnm
            go_wp2_with fail
            have hB0 := hB
            have hlt14 : bk14 < w15.heap.size := hbk14
            have hlt15 : bk15 < w15.heap.size := hbk15
            have bT : Below w15.heap.size w15 w15 := Below.refl _ _
            have bD : Below w15.heap.size w15 w15.drew := (Below.refl _ _).drew
            have kd151 := below_cell bD d151
            have kd152 := below_cell bD d152
            have kd153 := below_cell bD d153
            have kd141 := below_cell bD d141
            have kd142 := below_cell bD d142
            have kd143 := below_cell bD d143
            replace hB := hB.trans (bD.mono hB.size)
            replace bT := bT.trans (bD.mono bT.size)
            replace ho14 := ho14.later bD
            replace ho15 := ho15.later bD
            replace s15 := s15.later bD
            replace E15 := E15.later bD
            refine wp_region_held_drew (S := fun w' => w'.cell? ⟨bk15, o15 + 1, none⟩ = some (.bool Q.s) ∧ w'.cell? ⟨bk15, o15 + 1 + 1, none⟩ = some (.slice Q.a Q.n Q.c) ∧ w'.cell? ⟨bk15, o15 + 1 + 2, none⟩ = some (.slice Q.b Q.m Q.e) ∧ w'.cell? ⟨bk14, o14 + 1, none⟩ = some (.bool P.s) ∧ w'.cell? ⟨bk14, o14 + 1 + 1, none⟩ = some (.slice P.a P.n P.c) ∧ w'.cell? ⟨bk14, o14 + 1 + 2, none⟩ = some (.slice P.b P.m P.e)) (by kernel_rfl) ⟨kd151, kd152, kd153, kd141, kd142, kd143⟩ (fun hHeld => ?_)
            clear kd151 kd152 kd153 kd141 kd142 kd143
            generalize w15.drew = wF0 at bD ho14 ho15 s15 E15 hB bT hHeld ⊢
            clear bD d151 d152 d153 d141 d142 d143
            refine tk 0 (v := ?_) rfl (Or.inl ⟨by rfl, ?_⟩) ?_
            rotate_left
            · intro w9 hSw
              go_simp
              first | done | with_reducible rfl
            simp only [pP, pN, pS, pZ, pC]
            refine tk 1 (v := ?_) rfl (Or.inl ⟨by rfl, ?_⟩) ?_
            rotate_left
            · intro w9 hSw
              go_simp
              first | done | with_reducible rfl
            simp only [pP, pN, pS, pZ, pC]
            refine tk 2 (v := ?_) rfl (Or.inl ⟨by rfl, ?_⟩) ?_
            rotate_left
            · intro w9 hSw
              go_simp
              first | done | with_reducible rfl
            simp only [pP, pN, pS, pZ, pC]
            refine tk 3 (v := ?_) rfl (Or.inl ⟨by rfl, ?_⟩) ?_
            rotate_left
            · intro w9 hSw
              go_simp
              first | done | with_reducible rfl
            simp only [pP, pN, pS, pZ, pC]
            refine tk 4 (v := ?_) rfl (Or.inl ⟨by rfl, ?_⟩) ?_
            rotate_left
            · intro w9 hSw
              go_simp
              first | done | with_reducible rfl
            simp only [pP, pN, pS, pZ, pC]
            refine tk 5 (v := ?_) rfl (Or.inl ⟨by rfl, ?_⟩) ?_
            rotate_left
            · intro w9 hSw
              go_simp
              first | done | with_reducible rfl
            simp only [pP, pN, pS, pZ, pC]
            refine tk 6 (v := ?_) rfl (Or.inl ⟨by rfl, ?_⟩) ?_
            rotate_left
            · intro w9 hSw
              go_simp
              first | done | with_reducible rfl
            simp only [pP, pN, pS, pZ, pC]
            refine tk 7 (v := ?_) rfl (Or.inl ⟨by rfl, ?_⟩) ?_
            rotate_left
            · intro w9 hSw
              go_simp
              first | done | with_reducible rfl
            simp only [pP, pN, pS, pZ, pC]
            refine wpAnyH_ready (rs := [8, 12]) (by kernel_rfl) (by simp) ?_
            refine consT rfl (fun KK hKK => ?_) ?_
            · skip
              go_simp
              refine (HD.out _ ho14 ho15 hpn hqn).mono ?_
              rintro e wF1 ⟨p, q, rfl, n1, n2⟩
              have bC := n1.below
              replace hB := hB.trans (bC.mono hB.size)
              replace bT := bT.trans (bC.mono bT.size)
              replace ho14 := ho14.later bC
              replace ho15 := ho15.later bC
              replace s15 := s15.later bC
              replace E15 := E15.later bC
              replace hHeld := (⟨below_cell bC hHeld.1, below_cell bC hHeld.2.1, below_cell bC hHeld.2.2.1, below_cell bC hHeld.2.2.2.1, below_cell bC hHeld.2.2.2.2.1, below_cell bC hHeld.2.2.2.2.2⟩ : _ ∧ _ ∧ _ ∧ _ ∧ _ ∧ _)
              clear bC
              go_wp2_with fail
              have k1 := n1.seg
              have k2 := n2.seg
              clear n1 n2
              refine hKK.out _ _ hHeld ?_
              clear hHeld
              intro hHeld
              clear hKK KK
              try simp only [pP, pN, pS, pZ, pC]
              refine tk 9 (v := ?_) rfl (Or.inl ⟨by rfl, ?_⟩) ?_
              rotate_left
              · intro w9 hSw
                go_simp
                first | done | with_reducible rfl
              simp only [pP, pN, pS, pZ, pC]
              refine tk 10 (v := ?_) rfl (Or.inl ⟨by rfl, ?_⟩) ?_
              rotate_left
              · intro w9 hSw
                go_simp
                first | done | with_reducible rfl
              simp only [pP, pN, pS, pZ, pC]
              refine tk 11 (v := ?_) rfl (Or.inl ⟨by rfl, ?_⟩) ?_
              rotate_left
              · intro w9 hSw
                go_simp
                first | done | with_reducible rfl
              simp only [pP, pN, pS, pZ, pC]
              refine wpAnyH_ready (rs := [12]) (by kernel_rfl) (by simp) ?_
              refine cons' rfl (fun KK hKK => ?_)
              go_simp
              have vN : Thr (wF1.alloc (.cells #[.bool false, .slice none 0 0, .slice none 0 0] 29)) wF1.heap.size (.bool false) (.slice none 0 0) (.slice none 0 0) := ⟨⟨by go_simp, by go_simp, by go_simp⟩, row_new wF1 _ 29⟩
              have bA := below_alloc (w := wF1) (.cells #[.bool false, .slice none 0 0, .slice none 0 0] 29)
              have hc9 : w15.heap.size ≤ wF1.heap.size := bT.size
              generalize wF1.alloc (.cells #[.bool false, .slice none 0 0, .slice none 0 0] 29) = wF2 at vN bA ⊢
              replace hB := hB.trans (bA.mono hB.size)
              replace bT := bT.trans (bA.mono bT.size)
              replace ho14 := ho14.later bA
              replace ho15 := ho15.later bA
              replace s15 := s15.later bA
              replace E15 := E15.later bA
              replace k1 := k1.later bA
              replace k2 := k2.later bA
              replace hHeld := (⟨below_cell bA hHeld.1, below_cell bA hHeld.2.1, below_cell bA hHeld.2.2.1, below_cell bA hHeld.2.2.2.1, below_cell bA hHeld.2.2.2.2.1, below_cell bA hHeld.2.2.2.2.2⟩ : _ ∧ _ ∧ _ ∧ _ ∧ _ ∧ _)
              clear bA
              refine hKK.out _ _ hHeld ?_
              clear hHeld
              intro hHeld
              clear hKK KK
              try simp only [pP, pN, pS, pZ, pC]
              obtain ⟨cc, hcc⟩ : ∃ cc, wF1.heap.size = cc := ⟨_, rfl⟩
              rw [hcc] at vN hc9
              try rw [hcc]
              clear hcc
              refine wpAnyH_ready (rs := [13]) (by kernel_rfl) (by simp) ?_
              refine cons' rfl (fun KK hKK => ?_)
              have fz := fun o => vN.2.frozen o
              replace k1 := vN.seg (u0 := .bool (ng kq.num)) (u1 := .slice p (ln (am kq.num)) (ln (am kq.num))) (u2 := .slice q (ln kq.den) (ln kq.den)) (by simp) (by simp) (by simp) k1
              replace k2 := vN.seg (u0 := .bool (ng kq.num)) (u1 := .slice p (ln (am kq.num)) (ln (am kq.num))) (u2 := .slice q (ln kq.den) (ln kq.den)) (by simp) (by simp) (by simp) k2
              replace bT := below_set3 (u0 := .bool (ng kq.num)) (u1 := .slice p (ln (am kq.num)) (ln (am kq.num))) (u2 := .slice q (ln kq.den) (ln kq.den)) bT hc9
              have hs9 := hB0.size
              have hBn := hB0.trans (bT.mono hB0.size)
              have s9 : Sl _ _ _ _ := ⟨vN.fatB (u0 := .bool (ng kq.num)) (u1 := .slice p (ln (am kq.num)) (ln (am kq.num))) (u2 := .slice q (ln kq.den) (ln kq.den)) s15.lies, s15.len, s15.nn⟩
              have E9 : Ents _ _ := vN.entsB (u0 := .bool (ng kq.num)) (u1 := .slice p (ln (am kq.num)) (ln (am kq.num))) (u2 := .slice q (ln kq.den) (ln kq.den)) E15
              have hH2 := (⟨(set3_far (w := wF2) (c := cc) (b := bk15) (o := o15 + 1) (u0 := .bool (ng kq.num)) (u1 := .slice p (ln (am kq.num)) (ln (am kq.num))) (u2 := .slice q (ln kq.den) (ln kq.den)) (by omega)).trans hHeld.1, (set3_far (w := wF2) (c := cc) (b := bk15) (o := o15 + 1 + 1) (u0 := .bool (ng kq.num)) (u1 := .slice p (ln (am kq.num)) (ln (am kq.num))) (u2 := .slice q (ln kq.den) (ln kq.den)) (by omega)).trans hHeld.2.1, (set3_far (w := wF2) (c := cc) (b := bk15) (o := o15 + 1 + 2) (u0 := .bool (ng kq.num)) (u1 := .slice p (ln (am kq.num)) (ln (am kq.num))) (u2 := .slice q (ln kq.den) (ln kq.den)) (by omega)).trans hHeld.2.2.1, (set3_far (w := wF2) (c := cc) (b := bk14) (o := o14 + 1) (u0 := .bool (ng kq.num)) (u1 := .slice p (ln (am kq.num)) (ln (am kq.num))) (u2 := .slice q (ln kq.den) (ln kq.den)) (by omega)).trans hHeld.2.2.2.1, (set3_far (w := wF2) (c := cc) (b := bk14) (o := o14 + 1 + 1) (u0 := .bool (ng kq.num)) (u1 := .slice p (ln (am kq.num)) (ln (am kq.num))) (u2 := .slice q (ln kq.den) (ln kq.den)) (by omega)).trans hHeld.2.2.2.2.1, (set3_far (w := wF2) (c := cc) (b := bk14) (o := o14 + 1 + 2) (u0 := .bool (ng kq.num)) (u1 := .slice p (ln (am kq.num)) (ln (am kq.num))) (u2 := .slice q (ln kq.den) (ln kq.den)) (by omega)).trans hHeld.2.2.2.2.2⟩ : _ ∧ _ ∧ _ ∧ _ ∧ _ ∧ _)
              have vN2 := vN.put (u0 := .bool (ng kq.num)) (u1 := .slice p (ln (am kq.num)) (ln (am kq.num))) (u2 := .slice q (ln kq.den) (ln kq.den))
              have z0 := vN.1.1
              have z1 := vN.1.2.1
              have z2 := vN.1.2.2
              go_simp
              clear z0 z1 z2 vN fz s15 E15 hB ho14 ho15
              refine hKK.out _ _ hH2 ?_
              clear hHeld
              intro hHeld
              clear hKK KK
              try simp only [pP, pN, pS, pZ, pC]
              clear hH2
              refine tk 14 (v := ?_) rfl (Or.inl ⟨by rfl, ?_⟩) ?_
              rotate_left
              · intro w9 hSw
                go_simp
                first | done | with_reducible rfl
              simp only [pP, pN, pS, pZ, pC]
              refine wpAnyH_done (by kernel_rfl) ?_ _
              clear hHeld
              try unfold set3 at k1
              try unfold set3 at k2
              try unfold set3 at bT
              try unfold set3 at hBn
              try unfold set3 at s9
              try unfold set3 at E9
              try unfold set3 at vN2
              generalize (((wF2.setCell ⟨cc, 0, none⟩ (.bool (ng kq.num))).setCell ⟨cc, 1, none⟩ (.slice p (ln (am kq.num)) (ln (am kq.num)))).setCell ⟨cc, 2, none⟩ (.slice q (ln kq.den) (ln kq.den))) = wG at k1 k2 bT hBn s9 E9 vN2 ⊢
              obtain ⟨⟨z0, z1, z2⟩, vR⟩ := vN2
              go_wp2_with fail
              refine (HG.out _ hBn p q k1 k2).mono ?_
              rintro e w20 ⟨a20, c20, R20, rfl, b20, s20, E20, f20⟩
              have GE := hide' (SameForm_ne a20 c20 R20 _ _ R15 w20 s20.lies (s9.lies.later b20) E20 (E9.later b20) s20.len s9.len (by rw [← fo_length, f20, hfl.out, fmap_length]; have := hFL.out.len; omega) (by rw [f20, hfl.out, f15]; exact hmu.out))
              go_wp2_with fail
              refine GE.out.mono ?_
              rintro e w21 ⟨rfl, b21⟩
              go_wp2
              go_ret
              exact ⟨rfl, (hBn.trans (b20.mono hBn.size)).trans (b21.mono (hBn.trans (b20.mono hBn.size)).size)⟩
            refine consT rfl (fun KK hKK => ?_) ?_
            · skip
              go_simp
              have vN : Thr (wF0.alloc (.cells #[.bool false, .slice none 0 0, .slice none 0 0] 29)) wF0.heap.size (.bool false) (.slice none 0 0) (.slice none 0 0) := ⟨⟨by go_simp, by go_simp, by go_simp⟩, row_new wF0 _ 29⟩
              have bA := below_alloc (w := wF0) (.cells #[.bool false, .slice none 0 0, .slice none 0 0] 29)
              have hc9 : w15.heap.size ≤ wF0.heap.size := bT.size
              generalize wF0.alloc (.cells #[.bool false, .slice none 0 0, .slice none 0 0] 29) = wF3 at vN bA ⊢
              replace hB := hB.trans (bA.mono hB.size)
              replace bT := bT.trans (bA.mono bT.size)
              replace ho14 := ho14.later bA
              replace ho15 := ho15.later bA
              replace s15 := s15.later bA
              replace E15 := E15.later bA
              replace hHeld := (⟨below_cell bA hHeld.1, below_cell bA hHeld.2.1, below_cell bA hHeld.2.2.1, below_cell bA hHeld.2.2.2.1, below_cell bA hHeld.2.2.2.2.1, below_cell bA hHeld.2.2.2.2.2⟩ : _ ∧ _ ∧ _ ∧ _ ∧ _ ∧ _)
              clear bA
              refine hKK.out _ _ hHeld ?_
              clear hHeld
              intro hHeld
              clear hKK KK
              try simp only [pP, pN, pS, pZ, pC]
              obtain ⟨cc, hcc⟩ : ∃ cc, wF0.heap.size = cc := ⟨_, rfl⟩
              rw [hcc] at vN hc9
              try rw [hcc]
              clear hcc
              refine wpAnyH_ready (rs := [8]) (by kernel_rfl) (by simp) ?_
              refine cons' rfl (fun KK hKK => ?_)
              go_simp
              refine (HD.out _ ho14 ho15 hpn hqn).mono ?_
              rintro e wF4 ⟨p, q, rfl, n1, n2⟩
              have bC := n1.below
              replace hB := hB.trans (bC.mono hB.size)
              replace bT := bT.trans (bC.mono bT.size)
              replace ho14 := ho14.later bC
              replace ho15 := ho15.later bC
              replace s15 := s15.later bC
              replace E15 := E15.later bC
              replace vN := vN.later bC
              replace hHeld := (⟨below_cell bC hHeld.1, below_cell bC hHeld.2.1, below_cell bC hHeld.2.2.1, below_cell bC hHeld.2.2.2.1, below_cell bC hHeld.2.2.2.2.1, below_cell bC hHeld.2.2.2.2.2⟩ : _ ∧ _ ∧ _ ∧ _ ∧ _ ∧ _)
              clear bC
              go_wp2_with fail
              have k1 := n1.seg
              have k2 := n2.seg
              clear n1 n2
              refine hKK.out _ _ hHeld ?_
              clear hHeld
              intro hHeld
              clear hKK KK
              try simp only [pP, pN, pS, pZ, pC]
              refine tk 9 (v := ?_) rfl (Or.inl ⟨by rfl, ?_⟩) ?_
              rotate_left
              · intro w9 hSw
                go_simp
                first | done | with_reducible rfl
              simp only [pP, pN, pS, pZ, pC]
              refine tk 10 (v := ?_) rfl (Or.inl ⟨by rfl, ?_⟩) ?_
              rotate_left
              · intro w9 hSw
                go_simp
                first | done | with_reducible rfl
              simp only [pP, pN, pS, pZ, pC]
              refine tk 11 (v := ?_) rfl (Or.inl ⟨by rfl, ?_⟩) ?_
              rotate_left
              · intro w9 hSw
                go_simp
                first | done | with_reducible rfl
              simp only [pP, pN, pS, pZ, pC]
              refine wpAnyH_ready (rs := [13]) (by kernel_rfl) (by simp) ?_
              refine cons' rfl (fun KK hKK => ?_)
              have fz := fun o => vN.2.frozen o
              replace k1 := vN.seg (u0 := .bool (ng kq.num)) (u1 := .slice p (ln (am kq.num)) (ln (am kq.num))) (u2 := .slice q (ln kq.den) (ln kq.den)) (by simp) (by simp) (by simp) k1
              replace k2 := vN.seg (u0 := .bool (ng kq.num)) (u1 := .slice p (ln (am kq.num)) (ln (am kq.num))) (u2 := .slice q (ln kq.den) (ln kq.den)) (by simp) (by simp) (by simp) k2
              replace bT := below_set3 (u0 := .bool (ng kq.num)) (u1 := .slice p (ln (am kq.num)) (ln (am kq.num))) (u2 := .slice q (ln kq.den) (ln kq.den)) bT hc9
              have hs9 := hB0.size
              have hBn := hB0.trans (bT.mono hB0.size)
              have s9 : Sl _ _ _ _ := ⟨vN.fatB (u0 := .bool (ng kq.num)) (u1 := .slice p (ln (am kq.num)) (ln (am kq.num))) (u2 := .slice q (ln kq.den) (ln kq.den)) s15.lies, s15.len, s15.nn⟩
              have E9 : Ents _ _ := vN.entsB (u0 := .bool (ng kq.num)) (u1 := .slice p (ln (am kq.num)) (ln (am kq.num))) (u2 := .slice q (ln kq.den) (ln kq.den)) E15
              have hH2 := (⟨(set3_far (w := wF4) (c := cc) (b := bk15) (o := o15 + 1) (u0 := .bool (ng kq.num)) (u1 := .slice p (ln (am kq.num)) (ln (am kq.num))) (u2 := .slice q (ln kq.den) (ln kq.den)) (by omega)).trans hHeld.1, (set3_far (w := wF4) (c := cc) (b := bk15) (o := o15 + 1 + 1) (u0 := .bool (ng kq.num)) (u1 := .slice p (ln (am kq.num)) (ln (am kq.num))) (u2 := .slice q (ln kq.den) (ln kq.den)) (by omega)).trans hHeld.2.1, (set3_far (w := wF4) (c := cc) (b := bk15) (o := o15 + 1 + 2) (u0 := .bool (ng kq.num)) (u1 := .slice p (ln (am kq.num)) (ln (am kq.num))) (u2 := .slice q (ln kq.den) (ln kq.den)) (by omega)).trans hHeld.2.2.1, (set3_far (w := wF4) (c := cc) (b := bk14) (o := o14 + 1) (u0 := .bool (ng kq.num)) (u1 := .slice p (ln (am kq.num)) (ln (am kq.num))) (u2 := .slice q (ln kq.den) (ln kq.den)) (by omega)).trans hHeld.2.2.2.1, (set3_far (w := wF4) (c := cc) (b := bk14) (o := o14 + 1 + 1) (u0 := .bool (ng kq.num)) (u1 := .slice p (ln (am kq.num)) (ln (am kq.num))) (u2 := .slice q (ln kq.den) (ln kq.den)) (by omega)).trans hHeld.2.2.2.2.1, (set3_far (w := wF4) (c := cc) (b := bk14) (o := o14 + 1 + 2) (u0 := .bool (ng kq.num)) (u1 := .slice p (ln (am kq.num)) (ln (am kq.num))) (u2 := .slice q (ln kq.den) (ln kq.den)) (by omega)).trans hHeld.2.2.2.2.2⟩ : _ ∧ _ ∧ _ ∧ _ ∧ _ ∧ _)
              have vN2 := vN.put (u0 := .bool (ng kq.num)) (u1 := .slice p (ln (am kq.num)) (ln (am kq.num))) (u2 := .slice q (ln kq.den) (ln kq.den))
              have z0 := vN.1.1
              have z1 := vN.1.2.1
              have z2 := vN.1.2.2
              go_simp
              clear z0 z1 z2 vN fz s15 E15 hB ho14 ho15
              refine hKK.out _ _ hH2 ?_
              clear hHeld
              intro hHeld
              clear hKK KK
              try simp only [pP, pN, pS, pZ, pC]
              clear hH2
              refine tk 14 (v := ?_) rfl (Or.inl ⟨by rfl, ?_⟩) ?_
              rotate_left
              · intro w9 hSw
                go_simp
                first | done | with_reducible rfl
              simp only [pP, pN, pS, pZ, pC]
              refine wpAnyH_done (by kernel_rfl) ?_ _
              clear hHeld
              try unfold set3 at k1
              try unfold set3 at k2
              try unfold set3 at bT
              try unfold set3 at hBn
              try unfold set3 at s9
              try unfold set3 at E9
              try unfold set3 at vN2
              generalize (((wF4.setCell ⟨cc, 0, none⟩ (.bool (ng kq.num))).setCell ⟨cc, 1, none⟩ (.slice p (ln (am kq.num)) (ln (am kq.num)))).setCell ⟨cc, 2, none⟩ (.slice q (ln kq.den) (ln kq.den))) = wG at k1 k2 bT hBn s9 E9 vN2 ⊢
              obtain ⟨⟨z0, z1, z2⟩, vR⟩ := vN2
              go_wp2_with fail
              refine (HG.out _ hBn p q k1 k2).mono ?_
              rintro e w20 ⟨a20, c20, R20, rfl, b20, s20, E20, f20⟩
              have GE := hide' (SameForm_ne a20 c20 R20 _ _ R15 w20 s20.lies (s9.lies.later b20) E20 (E9.later b20) s20.len s9.len (by rw [← fo_length, f20, hfl.out, fmap_length]; have := hFL.out.len; omega) (by rw [f20, hfl.out, f15]; exact hmu.out))
              go_wp2_with fail
              refine GE.out.mono ?_
              rintro e w21 ⟨rfl, b21⟩
              go_wp2
              go_ret
              exact ⟨rfl, (hBn.trans (b20.mono hBn.size)).trans (b21.mono (hBn.trans (b20.mono hBn.size)).size)⟩
            exact AllReadyH.nil
    · have il : (0 : Int) < (R1.length : Int) := by omega
      have il2 : (R1.length : Int) > 0 := il
      have iln : 0 < R1.length := by omega
      have e8 := hg8.out (hl9.out hlen)
      have hzd := (sz_mulY (HC.out.2.2) hz).mono (show 1048577 + 2097153 ≤ 4000000 by omega)
      have hzc := hzd
      rw [← e8] at hzc
      have hcmp : sgn (rn (ng g8.num) (am g8.num) g8.den * ((rd (C.val * g).den : Nat) : Int) - rn (ng (C.val * g).num) (am (C.val * g).num) (C.val * g).den * ((rd g8.den : Nat) : Int)) = 0 := by rw [e8, Int.sub_self]; rfl
      clear e8
      have bD : Below wC.heap.size wC wC.drew := (Below.refl _ _).drew
      have ku0 := below_cell bD u0
      have ku1 := below_cell bD u1
      have ku2 := below_cell bD u2
      have kq0 := below_cell bD q0
      have kq1 := below_cell bD q1
      have kq2 := below_cell bD q2
      have kr0 := below_cell bD r0
      have kr1 := below_cell bD r1
      have kr2 := below_cell bD r2
      replace hB := hB.trans (bD.mono hB.size)
      replace s1 := s1.later bD
      replace E1 := E1.later bD
      replace s8 := s8.later bD
      replace E8 := E8.later bD
      replace k1 := k1.later bD
      replace k2 := k2.later bD
      replace k5 := k5.later bD
      replace k6 := k6.later bD
      replace q0 := below_cell bD q0
      replace q1 := below_cell bD q1
      replace q2 := below_cell bD q2
      replace r0 := below_cell bD r0
      replace r1 := below_cell bD r1
      replace r2 := below_cell bD r2
      refine wp_region_held_drew (S := fun w' => w'.cell? ⟨w8.heap.size, 0, none⟩ = some (.bool (ng g8.num)) ∧ w'.cell? ⟨w8.heap.size, 1, none⟩ = some (.slice x8 (ln (am g8.num)) (ln (am g8.num))) ∧ w'.cell? ⟨w8.heap.size, 2, none⟩ = some (.slice y8 (ln g8.den) (ln g8.den)) ∧ w'.cell? ⟨w.heap.size, 0, none⟩ = some (.bool C.s) ∧ w'.cell? ⟨w.heap.size, 1, none⟩ = some (.slice C.a C.n C.c) ∧ w'.cell? ⟨w.heap.size, 2, none⟩ = some (.slice C.b C.m C.e) ∧ w'.cell? ⟨w1.heap.size, 0, none⟩ = some (.bool (ng g.num)) ∧ w'.cell? ⟨w1.heap.size, 1, none⟩ = some (.slice x1 (ln (am g.num)) (ln (am g.num))) ∧ w'.cell? ⟨w1.heap.size, 2, none⟩ = some (.slice y1 (ln g.den) (ln g.den))) (by kernel_rfl) ⟨ku0, ku1, ku2, kq0, kq1, kq2, kr0, kr1, kr2⟩ (fun hHeld => ?_)
      clear ku0 ku1 ku2 kq0 kq1 kq2 kr0 kr1 kr2
      generalize wC.drew = w0 at bD s1 E1 s8 E8 k1 k2 k5 k6 q0 q1 q2 r0 r1 r2 hB hHeld ⊢
      clear bD u0 u1 u2
      refine tk 0 (v := ?_) rfl (Or.inl ⟨by rfl, ?_⟩) ?_
      rotate_left
      · intro w9 hSw
        go_simp
        first | done | with_reducible rfl
      simp only [pP, pN, pS, pZ, pC]
      refine tk 1 (v := ?_) rfl (Or.inl ⟨by rfl, ?_⟩) ?_
      rotate_left
      · intro w9 hSw
        go_simp
        first | done | with_reducible rfl
      simp only [pP, pN, pS, pZ, pC]
      refine wpAnyH_ready (rs := [2]) (by kernel_rfl) (by simp) ?_
      refine cons' rfl (fun KK hKK => ?_)
      go_simp
      refine (GE.out _ s1 s8 E1 E8).mono ?_
      rintro e w9 ⟨rfl, b9⟩
      have bC := b9
      replace hB := hB.trans (bC.mono hB.size)
      replace s1 := s1.later bC
      replace E1 := E1.later bC
      replace s8 := s8.later bC
      replace E8 := E8.later bC
      replace k1 := k1.later bC
      replace k2 := k2.later bC
      replace k5 := k5.later bC
      replace k6 := k6.later bC
      replace q0 := below_cell bC q0
      replace q1 := below_cell bC q1
      replace q2 := below_cell bC q2
      replace r0 := below_cell bC r0
      replace r1 := below_cell bC r1
      replace r2 := below_cell bC r2
      replace hHeld := (⟨below_cell bC hHeld.1, below_cell bC hHeld.2.1, below_cell bC hHeld.2.2.1, below_cell bC hHeld.2.2.2.1, below_cell bC hHeld.2.2.2.2.1, below_cell bC hHeld.2.2.2.2.2.1, below_cell bC hHeld.2.2.2.2.2.2.1, below_cell bC hHeld.2.2.2.2.2.2.2.1, below_cell bC hHeld.2.2.2.2.2.2.2.2⟩ : _ ∧ _ ∧ _ ∧ _ ∧ _ ∧ _ ∧ _ ∧ _ ∧ _)
      clear bC
      go_wp2_with fail
      clear b9 GE s8 E8
      refine hKK.out _ _ hHeld ?_
      clear hHeld
      intro hHeld
      clear hKK KK
      try simp only [pP, pN, pS, pZ, pC]
      refine tk 3 (v := ?_) rfl (Or.inl ⟨by rfl, ?_⟩) ?_
      rotate_left
      · intro w9 hSw
        go_simp
        first | done | with_reducible rfl
      simp only [pP, pN, pS, pZ, pC]
      refine tk 4 (v := ?_) rfl (Or.inl ⟨by rfl, ?_⟩) ?_
      rotate_left
      · intro w9 hSw
        go_simp
        first | done | with_reducible rfl
      simp only [pP, pN, pS, pZ, pC]
      refine tk 5 (v := ?_) rfl (Or.inl ⟨by rfl, ?_⟩) ?_
      rotate_left
      · intro w9 hSw
        go_simp
        first | done | with_reducible rfl
      simp only [pP, pN, pS, pZ, pC]
      refine tk 6 (v := ?_) rfl (Or.inl ⟨by rfl, ?_⟩) ?_
      rotate_left
      · intro w9 hSw
        go_simp
        first | done | with_reducible rfl
      simp only [pP, pN, pS, pZ, pC]
      refine tk 7 (v := ?_) rfl (Or.inl ⟨by rfl, ?_⟩) ?_
      rotate_left
      · intro w9 hSw
        go_simp
        first | done | with_reducible rfl
      simp only [pP, pN, pS, pZ, pC]
      refine tk 8 (v := ?_) rfl (Or.inl ⟨by rfl, ?_⟩) ?_
      rotate_left
      · intro w9 hSw
        go_simp
        first | done | with_reducible rfl
      simp only [pP, pN, pS, pZ, pC]
      refine tk 9 (v := ?_) rfl (Or.inl ⟨by rfl, ?_⟩) ?_
      rotate_left
      · intro w9 hSw
        go_simp
        first | done | with_reducible rfl
      simp only [pP, pN, pS, pZ, pC]
      refine tk 10 (v := ?_) rfl (Or.inl ⟨by rfl, ?_⟩) ?_
      rotate_left
      · intro w9 hSw
        go_simp
        first | done | with_reducible rfl
      simp only [pP, pN, pS, pZ, pC]
      refine tk 11 (v := ?_) rfl (Or.inl ⟨by rfl, ?_⟩) ?_
      rotate_left
      · intro w9 hSw
        go_simp
        first | done | with_reducible rfl
      simp only [pP, pN, pS, pZ, pC]
      refine wpAnyH_ready (rs := [12]) (by kernel_rfl) (by simp) ?_
      refine cons' rfl (fun KK hKK => ?_)
      go_simp
      refine (GM.out _ hB g x1 y1 hz k1 k2).mono ?_
      rintro e w10 ⟨x9, y9, rfl, n1, n2⟩
      have bC := n1.below
      replace hB := hB.trans (bC.mono hB.size)
      replace s1 := s1.later bC
      replace E1 := E1.later bC
      replace k1 := k1.later bC
      replace k2 := k2.later bC
      replace k5 := k5.later bC
      replace k6 := k6.later bC
      replace q0 := below_cell bC q0
      replace q1 := below_cell bC q1
      replace q2 := below_cell bC q2
      replace r0 := below_cell bC r0
      replace r1 := below_cell bC r1
      replace r2 := below_cell bC r2
      replace hHeld := (⟨below_cell bC hHeld.1, below_cell bC hHeld.2.1, below_cell bC hHeld.2.2.1, below_cell bC hHeld.2.2.2.1, below_cell bC hHeld.2.2.2.2.1, below_cell bC hHeld.2.2.2.2.2.1, below_cell bC hHeld.2.2.2.2.2.2.1, below_cell bC hHeld.2.2.2.2.2.2.2.1, below_cell bC hHeld.2.2.2.2.2.2.2.2⟩ : _ ∧ _ ∧ _ ∧ _ ∧ _ ∧ _ ∧ _ ∧ _ ∧ _)
      clear bC
      go_wp2_with fail
      have k8 := n1.seg
      have k9 := n2.seg
      clear n1 n2 GM
      refine hKK.out _ _ hHeld ?_
      clear hHeld
      intro hHeld
      clear hKK KK
      try simp only [pP, pN, pS, pZ, pC]
      refine wpAnyH_ready (rs := [13]) (by kernel_rfl) (by simp) ?_
      refine cons' rfl (fun KK hKK => ?_)
      have GV := hide' (vqCmp_is (ng g8.num) x8 (ln (am g8.num)) (ln (am g8.num)) (am g8.num) y8 (ln g8.den) (ln g8.den) g8.den (ng (C.val * g).num) x9 (ln (am (C.val * g).num)) (ln (am (C.val * g).num)) (am (C.val * g).num) y9 (ln (C.val * g).den) (ln (C.val * g).den) (C.val * g).den 0 _ (Nat.le_refl _) (Nat.le_trans hzc.1 (by omega)) k5 (Nat.le_refl _) (Nat.le_trans hzc.2 (by omega)) k6 (Nat.le_refl _) (Nat.le_trans hzd.1 (by omega)) k8 (Nat.le_refl _) (Nat.le_trans hzd.2 (by omega)) k9 hcmp)
      go_simp
      refine (GV.out).mono ?_
      rintro e w11 ⟨rfl, b9⟩
      have bC := b9
      replace hB := hB.trans (bC.mono hB.size)
      replace s1 := s1.later bC
      replace E1 := E1.later bC
      replace k1 := k1.later bC
      replace k2 := k2.later bC
      replace k5 := k5.later bC
      replace k6 := k6.later bC
      replace k8 := k8.later bC
      replace k9 := k9.later bC
      replace q0 := below_cell bC q0
      replace q1 := below_cell bC q1
      replace q2 := below_cell bC q2
      replace r0 := below_cell bC r0
      replace r1 := below_cell bC r1
      replace r2 := below_cell bC r2
      replace hHeld := (⟨below_cell bC hHeld.1, below_cell bC hHeld.2.1, below_cell bC hHeld.2.2.1, below_cell bC hHeld.2.2.2.1, below_cell bC hHeld.2.2.2.2.1, below_cell bC hHeld.2.2.2.2.2.1, below_cell bC hHeld.2.2.2.2.2.2.1, below_cell bC hHeld.2.2.2.2.2.2.2.1, below_cell bC hHeld.2.2.2.2.2.2.2.2⟩ : _ ∧ _ ∧ _ ∧ _ ∧ _ ∧ _ ∧ _ ∧ _ ∧ _)
      clear bC
      go_wp2_with fail
      clear b9 GV k8 k9 k5 k6
      refine hKK.out _ _ hHeld ?_
      clear hHeld
      intro hHeld
      clear hKK KK
      try simp only [pP, pN, pS, pZ, pC]
      refine tk 14 (v := ?_) rfl (Or.inl ⟨by rfl, ?_⟩) ?_
      rotate_left
      · intro w9 hSw
        go_simp
        first | done | with_reducible rfl
      simp only [pP, pN, pS, pZ, pC]
      refine tk 15 (v := ?_) rfl (Or.inl ⟨by rfl, ?_⟩) ?_
      rotate_left
      · intro w9 hSw
        go_simp
        first | done | with_reducible rfl
      simp only [pP, pN, pS, pZ, pC]
      refine tk 16 (v := ?_) rfl (Or.inl ⟨by rfl, ?_⟩) ?_
      rotate_left
      · intro w9 hSw
        go_simp
        first | done | with_reducible rfl
      simp only [pP, pN, pS, pZ, pC]
      refine wpAnyH_done (by kernel_rfl) ?_ _
      clear hHeld q0 q1 q2
      go_wp2_with fail
      refine (GP2.out _ hB).mono ?_
      rintro e w12 ⟨h, a12, c12, R12, x12, y12, rfl, hQ, b12, s12, E12, f12, k12, k13⟩
      replace s1 := s1.later b12
      replace E1 := E1.later b12
      replace k1 := k1.later b12
      replace k2 := k2.later b12
      replace r0 := below_cell b12 r0
      replace r1 := below_cell b12 r1
      replace r2 := below_cell b12 r2
      replace hB := hB.trans (b12.mono hB.size)
      clear b12
      have hzh := hFM.out.prm hQ
      rw [nfm_scale_nrm hFM.out.nr (fun e => hQ.ne (by rw [← Rat.inv_inv h, e, Rat.inv_zero]))] at f12
      obtain ⟨wD, hwD⟩ : ∃ wD, w12.alloc (.cells #[.bool (ng h.num), .slice x12 (ln (am h.num)) (ln (am h.num)), .slice y12 (ln h.den) (ln h.den)] 29) = wD := ⟨_, rfl⟩
      have bwD : Below w12.heap.size w12 wD := by subst hwD; exact below_alloc _
      have v0 : wD.cell? ⟨w12.heap.size, 0, none⟩ = some (.bool (ng h.num)) := by subst hwD; go_simp
      have v1 : wD.cell? ⟨w12.heap.size, 1, none⟩ = some (.slice x12 (ln (am h.num)) (ln (am h.num))) := by subst hwD; go_simp
      have v2 : wD.cell? ⟨w12.heap.size, 2, none⟩ = some (.slice y12 (ln h.den) (ln h.den)) := by subst hwD; go_simp
      replace s1 := s1.later bwD
      replace E1 := E1.later bwD
      replace k1 := k1.later bwD
      replace k2 := k2.later bwD
      replace s12 := s12.later bwD
      replace E12 := E12.later bwD
      replace k12 := k12.later bwD
      replace k13 := k13.later bwD
      replace r0 := below_cell bwD r0
      replace r1 := below_cell bwD r1
      replace r2 := below_cell bwD r2
      replace hB := hB.trans (bwD.mono hB.size)
      clear bwD
      by_cases he : fo R1 = fo R12
      · skip
        have GE := hide' (SameForm_is a1 c1 R1 a12 c12 R12 wD s1.lies s12.lies E1 E12 s1.len s12.len hR1 he)
        have hsh := hide' (shape_eq hP.out.ne hQ.ne (by rw [← f1.out, ← f12]; exact he))
        clear s12 E12 s1 E1
        clear f12 he
        go_wp2_with fail
        clear hwD
        refine (GE.out).mono ?_
        rintro e w13 ⟨rfl, b13⟩
        replace k1 := k1.later b13
        replace k2 := k2.later b13
        replace k12 := k12.later b13
        replace k13 := k13.later b13
        replace r0 := below_cell b13 r0
        replace r1 := below_cell b13 r1
        replace r2 := below_cell b13 r2
        replace v0 := below_cell b13 v0
        replace v1 := below_cell b13 v1
        replace v2 := below_cell b13 v2
        replace hB := hB.trans (b13.mono hB.size)
        clear b13
        clear GE
        by_cases hl0 : R1.length = 0
        · exact absurd hl0 hlen
        · have i0 : ¬ ((R1.length : Nat) : Int) = 0 := by omega
          have hkz := (sz_mulY hzh (szInv hz hP.out.ne)).mono (show 2097153 + 2097153 ≤ 5000000 by omega)
          rw [← Rat.div_def] at hkz
          have hk0 : h / g ≠ 0 := fun e => by rw [Rat.div_def] at e; rcases Rat.mul_eq_zero.1 e with e | e; exact hQ.ne e; exact hP.out.ne (by rw [← Rat.inv_inv g, e, Rat.inv_zero])
          have HD := hide' (vqDiv_is (ng h.num) x12 (ln (am h.num)) (ln (am h.num)) (am h.num) y12 (ln h.den) (ln h.den) h.den (ng g.num) x1 (ln (am g.num)) (ln (am g.num)) (am g.num) y1 (ln g.den) (ln g.den) g.den (h / g).num (h / g).den w13 (Nat.le_refl _) (Nat.le_trans hzh.1 (by omega)) k12 (Nat.le_refl _) (Nat.le_trans hzh.2 (by omega)) k13 (Nat.le_refl _) (Nat.le_trans hz.1 (by omega)) k1 (Nat.le_refl _) (Nat.le_trans hz.2 (by omega)) k2 (by have h9 := low_divY (nR h x12 y12) (nR g x1 y1) (by rw [nR_val]; exact hP.out.ne); rw [nR_val, nR_val] at h9; exact h9))
          have hGL := GL.out _ hk0
          rw [hsh.out] at hGL
          have hfl := hide' hGL
          clear hGL hsh hk0
          obtain ⟨kq, hkq⟩ : ∃ kq, h / g = kq := ⟨_, rfl⟩
          rw [hkq] at HD hkz hfl
          replace hkq := hide' hkq
          clear k1 k2 k12 k13
          go_wp2_with fail
          refine HD.out.mono ?_
          rintro e w14 ⟨x14, y14, rfl, n1, n2⟩
          have b14 := n1.below
          have k14 := n1.seg
          have k15 := n2.seg
          clear n1 n2 HD
          replace r0 := below_cell b14 r0
          replace r1 := below_cell b14 r1
          replace r2 := below_cell b14 r2
          replace v0 := below_cell b14 v0
          replace v1 := below_cell b14 v1
          replace v2 := below_cell b14 v2
          replace hB := hB.trans (b14.mono hB.size)
          clear b14
          obtain ⟨wE, hwE⟩ : ∃ wE, w14.alloc (.cells #[.bool (ng kq.num), .slice x14 (ln (am kq.num)) (ln (am kq.num)), .slice y14 (ln kq.den) (ln kq.den)] 29) = wE := ⟨_, rfl⟩
          have bwE : Below w14.heap.size w14 wE := by subst hwE; exact below_alloc _
          have z0 : wE.cell? ⟨w14.heap.size, 0, none⟩ = some (.bool (ng kq.num)) := by subst hwE; go_simp
          have z1 : wE.cell? ⟨w14.heap.size, 1, none⟩ = some (.slice x14 (ln (am kq.num)) (ln (am kq.num))) := by subst hwE; go_simp
          have z2 : wE.cell? ⟨w14.heap.size, 2, none⟩ = some (.slice y14 (ln kq.den) (ln kq.den)) := by subst hwE; go_simp
          replace k14 := k14.later bwE
          replace k15 := k15.later bwE
          replace r0 := below_cell bwE r0
          replace r1 := below_cell bwE r1
          replace r2 := below_cell bwE r2
          replace v0 := below_cell bwE v0
          replace v1 := below_cell bwE v1
          replace v2 := below_cell bwE v2
          replace hB := hB.trans (bwE.mono hB.size)
          clear bwE
          go_wp2_with fail
          clear hwE
          refine (GK.out _ kq x14 y14 hB hkz k14 k15).mono ?_
          rintro e w15 ⟨a15, c15, R15, rfl, b15, s15, E15, f15⟩
          replace k14 := k14.later b15
          replace k15 := k15.later b15
          replace r0 := below_cell b15 r0
          replace r1 := below_cell b15 r1
          replace r2 := below_cell b15 r2
          replace v0 := below_cell b15 v0
          replace v1 := below_cell b15 v1
          replace v2 := below_cell b15 v2
          replace z0 := below_cell b15 z0
          replace z1 := below_cell b15 z1
          replace z2 := below_cell b15 z2
          replace hB := hB.trans (b15.mono hB.size)
          clear b15
          replace E15 : Ents w15 R15 := E15
          go_wp2_with fail
          refine (GN2.out _ hB).mono ?_
          rintro e w16 ⟨a16, c16, R16, rfl, b16, s16, E16, f16⟩
          replace k14 := k14.later b16
          replace k15 := k15.later b16
          replace s15 := s15.later b16
          replace E15 := E15.later b16
          replace r0 := below_cell b16 r0
          replace r1 := below_cell b16 r1
          replace r2 := below_cell b16 r2
          replace v0 := below_cell b16 v0
          replace v1 := below_cell b16 v1
          replace v2 := below_cell b16 v2
          replace z0 := below_cell b16 z0
          replace z1 := below_cell b16 z1
          replace z2 := below_cell b16 z2
          replace hB := hB.trans (b16.mono hB.size)
          clear b16
          replace E16 : Ents w16 R16 := E16
          have GE := hide' (SameForm_is a15 c15 R15 a16 c16 R16 w16 s15.lies s16.lies E15 E16 s15.len s16.len (by rw [← fo_length, f15, hfl.out]; have := hFM.out.len; omega) (by rw [f15, hfl.out, f16]))
          clear s15 E15 s16 E16
          clear f15 f16
          go_wp2_with fail
          refine (GE.out).mono ?_
          rintro e w17 ⟨rfl, b17⟩
          replace k14 := k14.later b17
          replace k15 := k15.later b17
          replace r0 := below_cell b17 r0
          replace r1 := below_cell b17 r1
          replace r2 := below_cell b17 r2
          replace v0 := below_cell b17 v0
          replace v1 := below_cell b17 v1
          replace v2 := below_cell b17 v2
          replace z0 := below_cell b17 z0
          replace z1 := below_cell b17 z1
          replace z2 := below_cell b17 z2
          replace hB := hB.trans (b17.mono hB.size)
          clear b17
          go_wp2
          go_ret
          exact ⟨rfl, hB⟩
      · skip
        have GE := hide' (SameForm_ne a1 c1 R1 a12 c12 R12 wD s1.lies s12.lies E1 E12 s1.len s12.len hR1 he)
        have hsh := hide' (shape_ne hP.out hQ hFL.out.nr hFM.out.nr (by rw [← f1.out, ← f12]; exact he))
        clear s12 E12 s1 E1 k1 k2 k12 k13 r0 r1 r2 v0 v1 v2
        clear f12 he
        go_wp2_with fail
        clear hwD
        refine (GE.out).mono ?_
        rintro e w13 ⟨rfl, b13⟩
        replace hB := hB.trans (b13.mono hB.size)
        clear b13
        clear GE
        go_wp2_with fail
        refine (GN1.out _ hB).mono ?_
        rintro e w14 ⟨a14, c14, R14, rfl, b14, s14, E14, f14⟩
        replace hB := hB.trans (b14.mono hB.size)
        clear b14
        replace E14 : Ents w14 R14 := E14
        go_wp2_with fail
        refine (GN2.out _ hB).mono ?_
        rintro e w15 ⟨a15, c15, R15, rfl, b15, s15, E15, f15⟩
        replace s14 := s14.later b15
        replace E14 := E14.later b15
        replace hB := hB.trans (b15.mono hB.size)
        clear b15
        replace E15 : Ents w15 R15 := E15
        obtain ⟨hne, hmul⟩ := hsh.out
        clear hsh
        replace hmul := hide' hmul
        have hnm : R14.length ≠ 0 ∨ R15.length ≠ 0 := by
          rcases Nat.eq_zero_or_pos R14.length with h1 | h1
          · rcases Nat.eq_zero_or_pos R15.length with h2 | h2
            · exact absurd ⟨by rw [← f14, List.length_eq_zero_iff.1 h1]; rfl, by rw [← f15, List.length_eq_zero_iff.1 h2]; rfl⟩ hne
            · exact Or.inr (by omega)
          · exact Or.inl (by omega)
        clear hne
        have hl14 : R14.length ≤ 1048576 := by rw [← fo_length, f14]; exact hFL.out.len
        have hl15 : R15.length ≤ 1048576 := by rw [← fo_length, f15]; exact hFM.out.len
        by_cases h14 : R14.length = 0
        · skip
          have i0 : ((R14.length : Nat) : Int) = 0 := by omega
          have i9 : ((R14.length : Nat) : Int) + ((R15.length : Nat) : Int) > 0 := by omega
          have iw : wrap64 (((R14.length : Nat) : Int) + ((R15.length : Nat) : Int)) = ((R14.length : Nat) : Int) + ((R15.length : Nat) : Int) := wrap64_small (by omega) (by omega)
          clear hmul
          go_wp2
          go_ret
          exact ⟨by first | rfl | (simp [i9, iw]; omega) | simp [i9, iw], hB⟩
        · have i0 : ¬ ((R14.length : Nat) : Int) = 0 := by omega
          by_cases h15 : R15.length = 0
          · skip
            have i1 : ((R15.length : Nat) : Int) = 0 := by omega
            have i9 : ((R14.length : Nat) : Int) + ((R15.length : Nat) : Int) > 0 := by omega
            have iw : wrap64 (((R14.length : Nat) : Int) + ((R15.length : Nat) : Int)) = ((R14.length : Nat) : Int) + ((R15.length : Nat) : Int) := wrap64_small (by omega) (by omega)
            clear hmul
            go_wp2
            go_ret
            exact ⟨by first | rfl | (simp [i9, iw]; omega) | simp [i9, iw], hB⟩
          · skip
            have i1 : ¬ ((R15.length : Nat) : Int) = 0 := by omega
            have ib14 : (((R14.length : Nat) : Int) == 0) = false := beq_eq_false_iff_ne.2 i0
            have ib15 : (((R15.length : Nat) : Int) == 0) = false := beq_eq_false_iff_ne.2 i1
            obtain ⟨p14, T14, hR14⟩ : ∃ p T, R14 = p :: T := by rcases R14 with _ | ⟨p, T⟩; exact absurd rfl h14; exact ⟨p, T, rfl⟩
            have hp14 : R14[0]? = some p14 := by rw [hR14]; rfl
            obtain ⟨bk14, o14, rfl, hbk14, hcl14⟩ := s14.lies (by rw [hR14]; simp)
            obtain ⟨_, d141, d142, d143⟩ := hcl14 0 p14 hp14
            rw [Nat.zero_mul, Nat.add_zero] at d141 d142 d143
            have hcap14 := s14.len
            have hq14 := E14 p14 (List.mem_of_getElem? hp14)
            have hi14 : (0 : Int) < (R14.length : Int) := by omega
            have hj14 : 0 < R14.length := by omega
            obtain ⟨p15, T15, hR15⟩ : ∃ p T, R15 = p :: T := by rcases R15 with _ | ⟨p, T⟩; exact absurd rfl h15; exact ⟨p, T, rfl⟩
            have hp15 : R15[0]? = some p15 := by rw [hR15]; rfl
            obtain ⟨bk15, o15, rfl, hbk15, hcl15⟩ := s15.lies (by rw [hR15]; simp)
            obtain ⟨_, d151, d152, d153⟩ := hcl15 0 p15 hp15
            rw [Nat.zero_mul, Nat.add_zero] at d151 d152 d153
            have hcap15 := s15.len
            have hq15 := E15 p15 (List.mem_of_getElem? hp15)
            have hi15 : (0 : Int) < (R15.length : Int) := by omega
            have hj15 : 0 < R15.length := by omega
            have hm14 : (p14.1, p14.2.val) ∈ l := by rw [← f14, hR14]; exact List.mem_cons_self ..
            have hm15 : (p15.1, p15.2.val) ∈ m := by rw [← f15, hR15]; exact List.mem_cons_self ..
            have hz14 := hFL.out.co _ hm14
            have hz15 := hFM.out.co _ hm15
            have hn14 := hFL.out.nr.2 _ hm14
            have hn15 := hFM.out.nr.2 _ hm15
            simp only at hz14 hz15 hn14 hn15
            have hmu := hmul.out (p14.1, p14.2.val) (fo T14) (by rw [← f14, hR14]; rfl) (p15.1, p15.2.val) (fo T15) (by rw [← f15, hR15]; rfl)
            simp only at hmu
            clear hmul
            obtain ⟨e14, P⟩ := p14
            obtain ⟨e15, Q⟩ := p15
            simp only at d141 d142 d143 d151 d152 d153 hz14 hz15 hn14 hn15 hmu
            obtain ⟨ho14, hlo14⟩ := hq14
            obtain ⟨ho15, hlo15⟩ := hq15
            simp only at ho14 ho15 hlo14 hlo15
            have hkz := (sz_mulY hz15 (szInv hz14 hn14)).mono (show 2097153 + 2097153 ≤ 5000000 by omega)
            rw [← Rat.div_def] at hkz
            have hk0 : Q.val / P.val ≠ 0 := fun e => by rw [Rat.div_def] at e; rcases Rat.mul_eq_zero.1 e with e | e; exact hn15 e; exact hn14 (by rw [← Rat.inv_inv P.val, e, Rat.inv_zero])
            have HD := hide' (fun w' (hP9 : P.ok w') (hQ9 : Q.ok w') (hpn : P.n ≤ 5000000 ∧ P.m ≤ 5000000) (hqn : Q.n ≤ 5000000 ∧ Q.m ≤ 5000000) => vqDiv_is Q.s Q.a Q.n Q.c Q.X Q.b Q.m Q.e Q.Y P.s P.a P.n P.c P.X P.b P.m P.e P.Y (Q.val / P.val).num (Q.val / P.val).den w' hQ9.2.1 (by omega) hQ9.1 hQ9.2.2.2.2.1 (by omega) hQ9.2.2.2.1 hP9.2.1 (by omega) hP9.1 hP9.2.2.2.2.1 (by omega) hP9.2.2.2.1 (low_divY Q P hn14))
            have hfl := GL.out _ hk0
            obtain ⟨kq, hkq⟩ : ∃ kq, Q.val / P.val = kq := ⟨_, rfl⟩
            rw [hkq] at HD hkz hfl hmu
            replace hfl := hide' hfl
            replace hmu := hide' hmu
            replace hkq := hide' hkq
            have hpn : P.n ≤ 5000000 ∧ P.m ≤ 5000000 := by obtain ⟨h1, h2⟩ := low_ns hlo14; have := hz14.1; have := hz14.2; omega
            have hqn : Q.n ≤ 5000000 ∧ Q.m ≤ 5000000 := by obtain ⟨h1, h2⟩ := low_ns hlo15; have := hz15.1; have := hz15.2; omega
            have HG := hide' (fun w' (hb : Below w.heap.size w w') x y k1 k2 => GK.out w' kq x y hb hkz k1 k2)
            clear hz14 hz15 hn14 hn15 hk0 hm14 hm15 hkz hP hQ GP1 GP2 GN1 GN2 GL hlo14 hlo15 hcl14 hcl15 hp14 hp15 hR14 hR15 hnm
            go_wp2_with fail
            have hB0 := hB
            have hlt14 : bk14 < w15.heap.size := hbk14
            have hlt15 : bk15 < w15.heap.size := hbk15
            have bT : Below w15.heap.size w15 w15 := Below.refl _ _
            have bD : Below w15.heap.size w15 w15.drew := (Below.refl _ _).drew
            have kd151 := below_cell bD d151
            have kd152 := below_cell bD d152
            have kd153 := below_cell bD d153
            have kd141 := below_cell bD d141
            have kd142 := below_cell bD d142
            have kd143 := below_cell bD d143
            replace hB := hB.trans (bD.mono hB.size)
            replace bT := bT.trans (bD.mono bT.size)
            replace ho14 := ho14.later bD
            replace ho15 := ho15.later bD
            replace s15 := s15.later bD
            replace E15 := E15.later bD
            refine wp_region_held_drew (S := fun w' => w'.cell? ⟨bk15, o15 + 1, none⟩ = some (.bool Q.s) ∧ w'.cell? ⟨bk15, o15 + 1 + 1, none⟩ = some (.slice Q.a Q.n Q.c) ∧ w'.cell? ⟨bk15, o15 + 1 + 2, none⟩ = some (.slice Q.b Q.m Q.e) ∧ w'.cell? ⟨bk14, o14 + 1, none⟩ = some (.bool P.s) ∧ w'.cell? ⟨bk14, o14 + 1 + 1, none⟩ = some (.slice P.a P.n P.c) ∧ w'.cell? ⟨bk14, o14 + 1 + 2, none⟩ = some (.slice P.b P.m P.e)) (by kernel_rfl) ⟨kd151, kd152, kd153, kd141, kd142, kd143⟩ (fun hHeld => ?_)
            clear kd151 kd152 kd153 kd141 kd142 kd143
            generalize w15.drew = wF0 at bD ho14 ho15 s15 E15 hB bT hHeld ⊢
            clear bD d151 d152 d153 d141 d142 d143
            refine tk 0 (v := ?_) rfl (Or.inl ⟨by rfl, ?_⟩) ?_
            rotate_left
            · intro w9 hSw
              go_simp
              first | done | with_reducible rfl
            simp only [pP, pN, pS, pZ, pC]
            refine tk 1 (v := ?_) rfl (Or.inl ⟨by rfl, ?_⟩) ?_
            rotate_left
            · intro w9 hSw
              go_simp
              first | done | with_reducible rfl
            simp only [pP, pN, pS, pZ, pC]
            refine tk 2 (v := ?_) rfl (Or.inl ⟨by rfl, ?_⟩) ?_
            rotate_left
            · intro w9 hSw
              go_simp
              first | done | with_reducible rfl
            simp only [pP, pN, pS, pZ, pC]
            refine tk 3 (v := ?_) rfl (Or.inl ⟨by rfl, ?_⟩) ?_
            rotate_left
            · intro w9 hSw
              go_simp
              first | done | with_reducible rfl
            simp only [pP, pN, pS, pZ, pC]
            refine tk 4 (v := ?_) rfl (Or.inl ⟨by rfl, ?_⟩) ?_
            rotate_left
            · intro w9 hSw
              go_simp
              first | done | with_reducible rfl
            simp only [pP, pN, pS, pZ, pC]
            refine tk 5 (v := ?_) rfl (Or.inl ⟨by rfl, ?_⟩) ?_
            rotate_left
            · intro w9 hSw
              go_simp
              first | done | with_reducible rfl
            simp only [pP, pN, pS, pZ, pC]
            refine tk 6 (v := ?_) rfl (Or.inl ⟨by rfl, ?_⟩) ?_
            rotate_left
            · intro w9 hSw
              go_simp
              first | done | with_reducible rfl
            simp only [pP, pN, pS, pZ, pC]
            refine tk 7 (v := ?_) rfl (Or.inl ⟨by rfl, ?_⟩) ?_
            rotate_left
            · intro w9 hSw
              go_simp
              first | done | with_reducible rfl
            simp only [pP, pN, pS, pZ, pC]
            refine wpAnyH_ready (rs := [8, 12]) (by kernel_rfl) (by simp) ?_
            refine consT rfl (fun KK hKK => ?_) ?_
            · skip
              go_simp
              refine (HD.out _ ho14 ho15 hpn hqn).mono ?_
              rintro e wF1 ⟨p, q, rfl, n1, n2⟩
              have bC := n1.below
              replace hB := hB.trans (bC.mono hB.size)
              replace bT := bT.trans (bC.mono bT.size)
              replace ho14 := ho14.later bC
              replace ho15 := ho15.later bC
              replace s15 := s15.later bC
              replace E15 := E15.later bC
              replace hHeld := (⟨below_cell bC hHeld.1, below_cell bC hHeld.2.1, below_cell bC hHeld.2.2.1, below_cell bC hHeld.2.2.2.1, below_cell bC hHeld.2.2.2.2.1, below_cell bC hHeld.2.2.2.2.2⟩ : _ ∧ _ ∧ _ ∧ _ ∧ _ ∧ _)
              clear bC
              go_wp2_with fail
              have k1 := n1.seg
              have k2 := n2.seg
              clear n1 n2
              refine hKK.out _ _ hHeld ?_
              clear hHeld
              intro hHeld
              clear hKK KK
              try simp only [pP, pN, pS, pZ, pC]
              refine tk 9 (v := ?_) rfl (Or.inl ⟨by rfl, ?_⟩) ?_
              rotate_left
              · intro w9 hSw
                go_simp
                first | done | with_reducible rfl
              simp only [pP, pN, pS, pZ, pC]
              refine tk 10 (v := ?_) rfl (Or.inl ⟨by rfl, ?_⟩) ?_
              rotate_left
              · intro w9 hSw
                go_simp
                first | done | with_reducible rfl
              simp only [pP, pN, pS, pZ, pC]
              refine tk 11 (v := ?_) rfl (Or.inl ⟨by rfl, ?_⟩) ?_
              rotate_left
              · intro w9 hSw
                go_simp
                first | done | with_reducible rfl
              simp only [pP, pN, pS, pZ, pC]
              refine wpAnyH_ready (rs := [12]) (by kernel_rfl) (by simp) ?_
              refine cons' rfl (fun KK hKK => ?_)
              go_simp
              have vN : Thr (wF1.alloc (.cells #[.bool false, .slice none 0 0, .slice none 0 0] 29)) wF1.heap.size (.bool false) (.slice none 0 0) (.slice none 0 0) := ⟨⟨by go_simp, by go_simp, by go_simp⟩, row_new wF1 _ 29⟩
              have bA := below_alloc (w := wF1) (.cells #[.bool false, .slice none 0 0, .slice none 0 0] 29)
              have hc9 : w15.heap.size ≤ wF1.heap.size := bT.size
              generalize wF1.alloc (.cells #[.bool false, .slice none 0 0, .slice none 0 0] 29) = wF2 at vN bA ⊢
              replace hB := hB.trans (bA.mono hB.size)
              replace bT := bT.trans (bA.mono bT.size)
              replace ho14 := ho14.later bA
              replace ho15 := ho15.later bA
              replace s15 := s15.later bA
              replace E15 := E15.later bA
              replace k1 := k1.later bA
              replace k2 := k2.later bA
              replace hHeld := (⟨below_cell bA hHeld.1, below_cell bA hHeld.2.1, below_cell bA hHeld.2.2.1, below_cell bA hHeld.2.2.2.1, below_cell bA hHeld.2.2.2.2.1, below_cell bA hHeld.2.2.2.2.2⟩ : _ ∧ _ ∧ _ ∧ _ ∧ _ ∧ _)
              clear bA
              refine hKK.out _ _ hHeld ?_
              clear hHeld
              intro hHeld
              clear hKK KK
              try simp only [pP, pN, pS, pZ, pC]
              obtain ⟨cc, hcc⟩ : ∃ cc, wF1.heap.size = cc := ⟨_, rfl⟩
              rw [hcc] at vN hc9
              try rw [hcc]
              clear hcc
              refine wpAnyH_ready (rs := [13]) (by kernel_rfl) (by simp) ?_
              refine cons' rfl (fun KK hKK => ?_)
              have fz := fun o => vN.2.frozen o
              replace k1 := vN.seg (u0 := .bool (ng kq.num)) (u1 := .slice p (ln (am kq.num)) (ln (am kq.num))) (u2 := .slice q (ln kq.den) (ln kq.den)) (by simp) (by simp) (by simp) k1
              replace k2 := vN.seg (u0 := .bool (ng kq.num)) (u1 := .slice p (ln (am kq.num)) (ln (am kq.num))) (u2 := .slice q (ln kq.den) (ln kq.den)) (by simp) (by simp) (by simp) k2
              replace bT := below_set3 (u0 := .bool (ng kq.num)) (u1 := .slice p (ln (am kq.num)) (ln (am kq.num))) (u2 := .slice q (ln kq.den) (ln kq.den)) bT hc9
              have hs9 := hB0.size
              have hBn := hB0.trans (bT.mono hB0.size)
              have s9 : Sl _ _ _ _ := ⟨vN.fatB (u0 := .bool (ng kq.num)) (u1 := .slice p (ln (am kq.num)) (ln (am kq.num))) (u2 := .slice q (ln kq.den) (ln kq.den)) s15.lies, s15.len, s15.nn⟩
              have E9 : Ents _ _ := vN.entsB (u0 := .bool (ng kq.num)) (u1 := .slice p (ln (am kq.num)) (ln (am kq.num))) (u2 := .slice q (ln kq.den) (ln kq.den)) E15
              have hH2 := (⟨(set3_far (w := wF2) (c := cc) (b := bk15) (o := o15 + 1) (u0 := .bool (ng kq.num)) (u1 := .slice p (ln (am kq.num)) (ln (am kq.num))) (u2 := .slice q (ln kq.den) (ln kq.den)) (by omega)).trans hHeld.1, (set3_far (w := wF2) (c := cc) (b := bk15) (o := o15 + 1 + 1) (u0 := .bool (ng kq.num)) (u1 := .slice p (ln (am kq.num)) (ln (am kq.num))) (u2 := .slice q (ln kq.den) (ln kq.den)) (by omega)).trans hHeld.2.1, (set3_far (w := wF2) (c := cc) (b := bk15) (o := o15 + 1 + 2) (u0 := .bool (ng kq.num)) (u1 := .slice p (ln (am kq.num)) (ln (am kq.num))) (u2 := .slice q (ln kq.den) (ln kq.den)) (by omega)).trans hHeld.2.2.1, (set3_far (w := wF2) (c := cc) (b := bk14) (o := o14 + 1) (u0 := .bool (ng kq.num)) (u1 := .slice p (ln (am kq.num)) (ln (am kq.num))) (u2 := .slice q (ln kq.den) (ln kq.den)) (by omega)).trans hHeld.2.2.2.1, (set3_far (w := wF2) (c := cc) (b := bk14) (o := o14 + 1 + 1) (u0 := .bool (ng kq.num)) (u1 := .slice p (ln (am kq.num)) (ln (am kq.num))) (u2 := .slice q (ln kq.den) (ln kq.den)) (by omega)).trans hHeld.2.2.2.2.1, (set3_far (w := wF2) (c := cc) (b := bk14) (o := o14 + 1 + 2) (u0 := .bool (ng kq.num)) (u1 := .slice p (ln (am kq.num)) (ln (am kq.num))) (u2 := .slice q (ln kq.den) (ln kq.den)) (by omega)).trans hHeld.2.2.2.2.2⟩ : _ ∧ _ ∧ _ ∧ _ ∧ _ ∧ _)
              have vN2 := vN.put (u0 := .bool (ng kq.num)) (u1 := .slice p (ln (am kq.num)) (ln (am kq.num))) (u2 := .slice q (ln kq.den) (ln kq.den))
              have z0 := vN.1.1
              have z1 := vN.1.2.1
              have z2 := vN.1.2.2
              go_simp
              clear z0 z1 z2 vN fz s15 E15 hB ho14 ho15
              refine hKK.out _ _ hH2 ?_
              clear hHeld
              intro hHeld
              clear hKK KK
              try simp only [pP, pN, pS, pZ, pC]
              clear hH2
              refine tk 14 (v := ?_) rfl (Or.inl ⟨by rfl, ?_⟩) ?_
              rotate_left
              · intro w9 hSw
                go_simp
                first | done | with_reducible rfl
              simp only [pP, pN, pS, pZ, pC]
              refine wpAnyH_done (by kernel_rfl) ?_ _
              clear hHeld
              try unfold set3 at k1
              try unfold set3 at k2
              try unfold set3 at bT
              try unfold set3 at hBn
              try unfold set3 at s9
              try unfold set3 at E9
              try unfold set3 at vN2
              generalize (((wF2.setCell ⟨cc, 0, none⟩ (.bool (ng kq.num))).setCell ⟨cc, 1, none⟩ (.slice p (ln (am kq.num)) (ln (am kq.num)))).setCell ⟨cc, 2, none⟩ (.slice q (ln kq.den) (ln kq.den))) = wG at k1 k2 bT hBn s9 E9 vN2 ⊢
              obtain ⟨⟨z0, z1, z2⟩, vR⟩ := vN2
              go_wp2_with fail
              refine (HG.out _ hBn p q k1 k2).mono ?_
              rintro e w20 ⟨a20, c20, R20, rfl, b20, s20, E20, f20⟩
              have GE := hide' (SameForm_ne a20 c20 R20 _ _ R15 w20 s20.lies (s9.lies.later b20) E20 (E9.later b20) s20.len s9.len (by rw [← fo_length, f20, hfl.out, fmap_length]; have := hFL.out.len; omega) (by rw [f20, hfl.out, f15]; exact hmu.out))
              go_wp2_with fail
              refine GE.out.mono ?_
              rintro e w21 ⟨rfl, b21⟩
              go_wp2
              go_ret
              exact ⟨rfl, (hBn.trans (b20.mono hBn.size)).trans (b21.mono (hBn.trans (b20.mono hBn.size)).size)⟩
            refine consT rfl (fun KK hKK => ?_) ?_
            · skip
              go_simp
              have vN : Thr (wF0.alloc (.cells #[.bool false, .slice none 0 0, .slice none 0 0] 29)) wF0.heap.size (.bool false) (.slice none 0 0) (.slice none 0 0) := ⟨⟨by go_simp, by go_simp, by go_simp⟩, row_new wF0 _ 29⟩
              have bA := below_alloc (w := wF0) (.cells #[.bool false, .slice none 0 0, .slice none 0 0] 29)
              have hc9 : w15.heap.size ≤ wF0.heap.size := bT.size
              generalize wF0.alloc (.cells #[.bool false, .slice none 0 0, .slice none 0 0] 29) = wF3 at vN bA ⊢
              replace hB := hB.trans (bA.mono hB.size)
              replace bT := bT.trans (bA.mono bT.size)
              replace ho14 := ho14.later bA
              replace ho15 := ho15.later bA
              replace s15 := s15.later bA
              replace E15 := E15.later bA
              replace hHeld := (⟨below_cell bA hHeld.1, below_cell bA hHeld.2.1, below_cell bA hHeld.2.2.1, below_cell bA hHeld.2.2.2.1, below_cell bA hHeld.2.2.2.2.1, below_cell bA hHeld.2.2.2.2.2⟩ : _ ∧ _ ∧ _ ∧ _ ∧ _ ∧ _)
              clear bA
              refine hKK.out _ _ hHeld ?_
              clear hHeld
              intro hHeld
              clear hKK KK
              try simp only [pP, pN, pS, pZ, pC]
              obtain ⟨cc, hcc⟩ : ∃ cc, wF0.heap.size = cc := ⟨_, rfl⟩
              rw [hcc] at vN hc9
              try rw [hcc]
              clear hcc
              refine wpAnyH_ready (rs := [8]) (by kernel_rfl) (by simp) ?_
              refine cons' rfl (fun KK hKK => ?_)
              go_simp
              refine (HD.out _ ho14 ho15 hpn hqn).mono ?_
              rintro e wF4 ⟨p, q, rfl, n1, n2⟩
              have bC := n1.below
              replace hB := hB.trans (bC.mono hB.size)
              replace bT := bT.trans (bC.mono bT.size)
              replace ho14 := ho14.later bC
              replace ho15 := ho15.later bC
              replace s15 := s15.later bC
              replace E15 := E15.later bC
              replace vN := vN.later bC
              replace hHeld := (⟨below_cell bC hHeld.1, below_cell bC hHeld.2.1, below_cell bC hHeld.2.2.1, below_cell bC hHeld.2.2.2.1, below_cell bC hHeld.2.2.2.2.1, below_cell bC hHeld.2.2.2.2.2⟩ : _ ∧ _ ∧ _ ∧ _ ∧ _ ∧ _)
              clear bC
              go_wp2_with fail
              have k1 := n1.seg
              have k2 := n2.seg
              clear n1 n2
              refine hKK.out _ _ hHeld ?_
              clear hHeld
              intro hHeld
              clear hKK KK
              try simp only [pP, pN, pS, pZ, pC]
              refine tk 9 (v := ?_) rfl (Or.inl ⟨by rfl, ?_⟩) ?_
              rotate_left
              · intro w9 hSw
                go_simp
                first | done | with_reducible rfl
              simp only [pP, pN, pS, pZ, pC]
              refine tk 10 (v := ?_) rfl (Or.inl ⟨by rfl, ?_⟩) ?_
              rotate_left
              · intro w9 hSw
                go_simp
                first | done | with_reducible rfl
              simp only [pP, pN, pS, pZ, pC]
              refine tk 11 (v := ?_) rfl (Or.inl ⟨by rfl, ?_⟩) ?_
              rotate_left
              · intro w9 hSw
                go_simp
                first | done | with_reducible rfl
              simp only [pP, pN, pS, pZ, pC]
              refine wpAnyH_ready (rs := [13]) (by kernel_rfl) (by simp) ?_
              refine cons' rfl (fun KK hKK => ?_)
              have fz := fun o => vN.2.frozen o
              replace k1 := vN.seg (u0 := .bool (ng kq.num)) (u1 := .slice p (ln (am kq.num)) (ln (am kq.num))) (u2 := .slice q (ln kq.den) (ln kq.den)) (by simp) (by simp) (by simp) k1
              replace k2 := vN.seg (u0 := .bool (ng kq.num)) (u1 := .slice p (ln (am kq.num)) (ln (am kq.num))) (u2 := .slice q (ln kq.den) (ln kq.den)) (by simp) (by simp) (by simp) k2
              replace bT := below_set3 (u0 := .bool (ng kq.num)) (u1 := .slice p (ln (am kq.num)) (ln (am kq.num))) (u2 := .slice q (ln kq.den) (ln kq.den)) bT hc9
              have hs9 := hB0.size
              have hBn := hB0.trans (bT.mono hB0.size)
              have s9 : Sl _ _ _ _ := ⟨vN.fatB (u0 := .bool (ng kq.num)) (u1 := .slice p (ln (am kq.num)) (ln (am kq.num))) (u2 := .slice q (ln kq.den) (ln kq.den)) s15.lies, s15.len, s15.nn⟩
              have E9 : Ents _ _ := vN.entsB (u0 := .bool (ng kq.num)) (u1 := .slice p (ln (am kq.num)) (ln (am kq.num))) (u2 := .slice q (ln kq.den) (ln kq.den)) E15
              have hH2 := (⟨(set3_far (w := wF4) (c := cc) (b := bk15) (o := o15 + 1) (u0 := .bool (ng kq.num)) (u1 := .slice p (ln (am kq.num)) (ln (am kq.num))) (u2 := .slice q (ln kq.den) (ln kq.den)) (by omega)).trans hHeld.1, (set3_far (w := wF4) (c := cc) (b := bk15) (o := o15 + 1 + 1) (u0 := .bool (ng kq.num)) (u1 := .slice p (ln (am kq.num)) (ln (am kq.num))) (u2 := .slice q (ln kq.den) (ln kq.den)) (by omega)).trans hHeld.2.1, (set3_far (w := wF4) (c := cc) (b := bk15) (o := o15 + 1 + 2) (u0 := .bool (ng kq.num)) (u1 := .slice p (ln (am kq.num)) (ln (am kq.num))) (u2 := .slice q (ln kq.den) (ln kq.den)) (by omega)).trans hHeld.2.2.1, (set3_far (w := wF4) (c := cc) (b := bk14) (o := o14 + 1) (u0 := .bool (ng kq.num)) (u1 := .slice p (ln (am kq.num)) (ln (am kq.num))) (u2 := .slice q (ln kq.den) (ln kq.den)) (by omega)).trans hHeld.2.2.2.1, (set3_far (w := wF4) (c := cc) (b := bk14) (o := o14 + 1 + 1) (u0 := .bool (ng kq.num)) (u1 := .slice p (ln (am kq.num)) (ln (am kq.num))) (u2 := .slice q (ln kq.den) (ln kq.den)) (by omega)).trans hHeld.2.2.2.2.1, (set3_far (w := wF4) (c := cc) (b := bk14) (o := o14 + 1 + 2) (u0 := .bool (ng kq.num)) (u1 := .slice p (ln (am kq.num)) (ln (am kq.num))) (u2 := .slice q (ln kq.den) (ln kq.den)) (by omega)).trans hHeld.2.2.2.2.2⟩ : _ ∧ _ ∧ _ ∧ _ ∧ _ ∧ _)
              have vN2 := vN.put (u0 := .bool (ng kq.num)) (u1 := .slice p (ln (am kq.num)) (ln (am kq.num))) (u2 := .slice q (ln kq.den) (ln kq.den))
              have z0 := vN.1.1
              have z1 := vN.1.2.1
              have z2 := vN.1.2.2
              go_simp
              clear z0 z1 z2 vN fz s15 E15 hB ho14 ho15
              refine hKK.out _ _ hH2 ?_
              clear hHeld
              intro hHeld
              clear hKK KK
              try simp only [pP, pN, pS, pZ, pC]
              clear hH2
              refine tk 14 (v := ?_) rfl (Or.inl ⟨by rfl, ?_⟩) ?_
              rotate_left
              · intro w9 hSw
                go_simp
                first | done | with_reducible rfl
              simp only [pP, pN, pS, pZ, pC]
              refine wpAnyH_done (by kernel_rfl) ?_ _
              clear hHeld
              try unfold set3 at k1
              try unfold set3 at k2
              try unfold set3 at bT
              try unfold set3 at hBn
              try unfold set3 at s9
              try unfold set3 at E9
              try unfold set3 at vN2
              generalize (((wF4.setCell ⟨cc, 0, none⟩ (.bool (ng kq.num))).setCell ⟨cc, 1, none⟩ (.slice p (ln (am kq.num)) (ln (am kq.num)))).setCell ⟨cc, 2, none⟩ (.slice q (ln kq.den) (ln kq.den))) = wG at k1 k2 bT hBn s9 E9 vN2 ⊢
              obtain ⟨⟨z0, z1, z2⟩, vR⟩ := vN2
              go_wp2_with fail
              refine (HG.out _ hBn p q k1 k2).mono ?_
              rintro e w20 ⟨a20, c20, R20, rfl, b20, s20, E20, f20⟩
              have GE := hide' (SameForm_ne a20 c20 R20 _ _ R15 w20 s20.lies (s9.lies.later b20) E20 (E9.later b20) s20.len s9.len (by rw [← fo_length, f20, hfl.out, fmap_length]; have := hFL.out.len; omega) (by rw [f20, hfl.out, f15]; exact hmu.out))
              go_wp2_with fail
              refine GE.out.mono ?_
              rintro e w21 ⟨rfl, b21⟩
              go_wp2
              go_ret
              exact ⟨rfl, (hBn.trans (b20.mono hBn.size)).trans (b21.mono (hBn.trans (b20.mono hBn.size)).size)⟩
            exact AllReadyH.nil
  · skip
    obtain ⟨l, hl⟩ : ∃ l, nfm (fo L) = l := ⟨_, rfl⟩
    obtain ⟨m, hm9⟩ : ∃ m, nfm (fo M) = m := ⟨_, rfl⟩
    rw [hl] at GP1 GN1 hFL
    rw [hm9] at GP2 GN2 hFM
    have GL := hide' (fun k (hk : k ≠ 0) => (show nfm (fmap (fun r => k * r) (fo L)) = fmap (fun r => k * r) l by rw [nfm_scale _ hk, hl]))
    replace hl := hide' hl
    replace hm9 := hide' hm9
    clear hF hok hc hm hwL hG hkG hcG hmG hwM
    have HC := hide' (And.intro hC (And.intro hCn hCz))
    clear hC hCn hCz
    replace hc0 := hide' hc0
    obtain ⟨cv, hcv⟩ : ∃ cv, C.val = cv := ⟨_, rfl⟩
    obtain ⟨sv, hsv⟩ : ∃ sv, sR C.val = sv := ⟨_, rfl⟩
    have hs0 : sv = 0 := by rw [← hsv, Classical.not_not.1 hc0.out]; rfl
    subst hs0
    rw [hsv] at GZ
    replace hcv := hide' hcv
    replace hsv := hide' hsv
    go_enter Tryz.func3, Tryz.ntmps3
    go_wp2_with fail
    obtain ⟨wA, hwA⟩ : ∃ wA, w.alloc (.cells #[.bool C.s, .slice C.a C.n C.c, .slice C.b C.m C.e] 29) = wA := ⟨_, rfl⟩
    have hB : Below w.heap.size w wA := by subst hwA; exact below_alloc _
    have q0 : wA.cell? ⟨w.heap.size, 0, none⟩ = some (.bool C.s) := by subst hwA; go_simp
    have q1 : wA.cell? ⟨w.heap.size, 1, none⟩ = some (.slice C.a C.n C.c) := by subst hwA; go_simp
    have q2 : wA.cell? ⟨w.heap.size, 2, none⟩ = some (.slice C.b C.m C.e) := by subst hwA; go_simp
    rw [hwA]
    clear hwA
    refine (GP1.out _ hB).mono ?_
    rintro e w1 ⟨g, a1, c1, R1, x1, y1, rfl, hP, b1, s1, E1, f1, k1, k2⟩
    replace q0 := below_cell b1 q0
    replace q1 := below_cell b1 q1
    replace q2 := below_cell b1 q2
    replace hB := hB.trans (b1.mono hB.size)
    clear b1
    have hz := hFL.prm hP
    rw [nfm_scale_nrm hFL.nr (fun e => hP.ne (by rw [← Rat.inv_inv g, e, Rat.inv_zero]))] at f1
    have hR1 : R1.length ≤ 2097152 := by rw [← fo_length, f1, fmap_length]; have := hFL.len; omega
    obtain ⟨wB, hwB⟩ : ∃ wB, w1.alloc (.cells #[.bool (ng g.num), .slice x1 (ln (am g.num)) (ln (am g.num)), .slice y1 (ln g.den) (ln g.den)] 29) = wB := ⟨_, rfl⟩
    have bwB : Below w1.heap.size w1 wB := by subst hwB; exact below_alloc _
    have r0 : wB.cell? ⟨w1.heap.size, 0, none⟩ = some (.bool (ng g.num)) := by subst hwB; go_simp
    have r1 : wB.cell? ⟨w1.heap.size, 1, none⟩ = some (.slice x1 (ln (am g.num)) (ln (am g.num))) := by subst hwB; go_simp
    have r2 : wB.cell? ⟨w1.heap.size, 2, none⟩ = some (.slice y1 (ln g.den) (ln g.den)) := by subst hwB; go_simp
    replace s1 := s1.later bwB
    replace E1 := E1.later bwB
    replace k1 := k1.later bwB
    replace k2 := k2.later bwB
    replace q0 := below_cell bwB q0
    replace q1 := below_cell bwB q1
    replace q2 := below_cell bwB q2
    replace hB := hB.trans (bwB.mono hB.size)
    clear bwB
    have GX := hide' (scaleBack_is l g a1 c1 R1 x1 y1 wB hFL hP s1 E1 f1 k1 k2)
    replace f1 := hide' f1
    replace hP := hide' hP
    replace hFL := hide' hFL
    replace hFM := hide' hFM
    go_wp2_with fail
    clear hwB
    refine (GX.out).mono ?_
    rintro e w3 ⟨a3, c3, R3, rfl, b3, s3, E3, f3⟩
    replace s1 := s1.later b3
    replace E1 := E1.later b3
    replace k1 := k1.later b3
    replace k2 := k2.later b3
    replace q0 := below_cell b3 q0
    replace q1 := below_cell b3 q1
    replace q2 := below_cell b3 q2
    replace r0 := below_cell b3 r0
    replace r1 := below_cell b3 r1
    replace r2 := below_cell b3 r2
    replace hB := hB.trans (b3.mono hB.size)
    clear b3
    replace E3 : Ents w3 R3 := E3
    clear GX
    go_wp2_with fail
    refine (GN1.out _ hB).mono ?_
    rintro e w4 ⟨a4, c4, R4, rfl, b4, s4, E4, f4⟩
    replace s1 := s1.later b4
    replace E1 := E1.later b4
    replace k1 := k1.later b4
    replace k2 := k2.later b4
    replace s3 := s3.later b4
    replace E3 := E3.later b4
    replace q0 := below_cell b4 q0
    replace q1 := below_cell b4 q1
    replace q2 := below_cell b4 q2
    replace r0 := below_cell b4 r0
    replace r1 := below_cell b4 r1
    replace r2 := below_cell b4 r2
    replace hB := hB.trans (b4.mono hB.size)
    clear b4
    replace E4 : Ents w4 R4 := E4
    have GE := hide' (SameForm_is a3 c3 R3 a4 c4 R4 w4 s3.lies s4.lies E3 E4 s3.len s4.len (by rw [← fo_length, f3]; have := hFL.out.len; omega) (f3.trans f4.symm))
    clear s3 E3 s4 E4
    clear f3 f4
    go_wp2_with fail
    refine (GE.out).mono ?_
    rintro e w5 ⟨rfl, b5⟩
    replace s1 := s1.later b5
    replace E1 := E1.later b5
    replace k1 := k1.later b5
    replace k2 := k2.later b5
    replace q0 := below_cell b5 q0
    replace q1 := below_cell b5 q1
    replace q2 := below_cell b5 q2
    replace r0 := below_cell b5 r0
    replace r1 := below_cell b5 r1
    replace r2 := below_cell b5 r2
    replace hB := hB.trans (b5.mono hB.size)
    clear b5
    clear GE
    go_wp2_with fail
    refine (GZ.out _ hB).mono ?_
    rintro e w6 ⟨rfl, b6⟩
    replace s1 := s1.later b6
    replace E1 := E1.later b6
    replace k1 := k1.later b6
    replace k2 := k2.later b6
    replace q0 := below_cell b6 q0
    replace q1 := below_cell b6 q1
    replace q2 := below_cell b6 q2
    replace r0 := below_cell b6 r0
    replace r1 := below_cell b6 r1
    replace r2 := below_cell b6 r2
    replace hB := hB.trans (b6.mono hB.size)
    clear b6
    clear GZ
    clear q0 q1 q2
    go_wp2_with fail
    refine (GP2.out _ hB).mono ?_
    rintro e w12 ⟨h, a12, c12, R12, x12, y12, rfl, hQ, b12, s12, E12, f12, k12, k13⟩
    replace s1 := s1.later b12
    replace E1 := E1.later b12
    replace k1 := k1.later b12
    replace k2 := k2.later b12
    replace r0 := below_cell b12 r0
    replace r1 := below_cell b12 r1
    replace r2 := below_cell b12 r2
    replace hB := hB.trans (b12.mono hB.size)
    clear b12
    have hzh := hFM.out.prm hQ
    rw [nfm_scale_nrm hFM.out.nr (fun e => hQ.ne (by rw [← Rat.inv_inv h, e, Rat.inv_zero]))] at f12
    obtain ⟨wD, hwD⟩ : ∃ wD, w12.alloc (.cells #[.bool (ng h.num), .slice x12 (ln (am h.num)) (ln (am h.num)), .slice y12 (ln h.den) (ln h.den)] 29) = wD := ⟨_, rfl⟩
    have bwD : Below w12.heap.size w12 wD := by subst hwD; exact below_alloc _
    have v0 : wD.cell? ⟨w12.heap.size, 0, none⟩ = some (.bool (ng h.num)) := by subst hwD; go_simp
    have v1 : wD.cell? ⟨w12.heap.size, 1, none⟩ = some (.slice x12 (ln (am h.num)) (ln (am h.num))) := by subst hwD; go_simp
    have v2 : wD.cell? ⟨w12.heap.size, 2, none⟩ = some (.slice y12 (ln h.den) (ln h.den)) := by subst hwD; go_simp
    replace s1 := s1.later bwD
    replace E1 := E1.later bwD
    replace k1 := k1.later bwD
    replace k2 := k2.later bwD
    replace s12 := s12.later bwD
    replace E12 := E12.later bwD
    replace k12 := k12.later bwD
    replace k13 := k13.later bwD
    replace r0 := below_cell bwD r0
    replace r1 := below_cell bwD r1
    replace r2 := below_cell bwD r2
    replace hB := hB.trans (bwD.mono hB.size)
    clear bwD
    by_cases he : fo R1 = fo R12
    · skip
      have GE := hide' (SameForm_is a1 c1 R1 a12 c12 R12 wD s1.lies s12.lies E1 E12 s1.len s12.len hR1 he)
      have hsh := hide' (shape_eq hP.out.ne hQ.ne (by rw [← f1.out, ← f12]; exact he))
      clear s12 E12 s1 E1
      clear f12 he
      go_wp2_with fail
      clear hwD
      refine (GE.out).mono ?_
      rintro e w13 ⟨rfl, b13⟩
      replace k1 := k1.later b13
      replace k2 := k2.later b13
      replace k12 := k12.later b13
      replace k13 := k13.later b13
      replace r0 := below_cell b13 r0
      replace r1 := below_cell b13 r1
      replace r2 := below_cell b13 r2
      replace v0 := below_cell b13 v0
      replace v1 := below_cell b13 v1
      replace v2 := below_cell b13 v2
      replace hB := hB.trans (b13.mono hB.size)
      clear b13
      clear GE
      by_cases hl0 : R1.length = 0
      · have i0 : ((R1.length : Nat) : Int) = 0 := by omega
        go_wp2_with fail
        refine (awake_is _).mono ?_
        rintro e w14 ⟨rfl, b14⟩
        go_wp2
        go_ret
        exact ⟨rfl, hB.trans (b14.mono hB.size)⟩
      · have i0 : ¬ ((R1.length : Nat) : Int) = 0 := by omega
        have hkz := (sz_mulY hzh (szInv hz hP.out.ne)).mono (show 2097153 + 2097153 ≤ 5000000 by omega)
        rw [← Rat.div_def] at hkz
        have hk0 : h / g ≠ 0 := fun e => by rw [Rat.div_def] at e; rcases Rat.mul_eq_zero.1 e with e | e; exact hQ.ne e; exact hP.out.ne (by rw [← Rat.inv_inv g, e, Rat.inv_zero])
        have HD := hide' (vqDiv_is (ng h.num) x12 (ln (am h.num)) (ln (am h.num)) (am h.num) y12 (ln h.den) (ln h.den) h.den (ng g.num) x1 (ln (am g.num)) (ln (am g.num)) (am g.num) y1 (ln g.den) (ln g.den) g.den (h / g).num (h / g).den w13 (Nat.le_refl _) (Nat.le_trans hzh.1 (by omega)) k12 (Nat.le_refl _) (Nat.le_trans hzh.2 (by omega)) k13 (Nat.le_refl _) (Nat.le_trans hz.1 (by omega)) k1 (Nat.le_refl _) (Nat.le_trans hz.2 (by omega)) k2 (by have h9 := low_divY (nR h x12 y12) (nR g x1 y1) (by rw [nR_val]; exact hP.out.ne); rw [nR_val, nR_val] at h9; exact h9))
        have hGL := GL.out _ hk0
        rw [hsh.out] at hGL
        have hfl := hide' hGL
        clear hGL hsh hk0
        obtain ⟨kq, hkq⟩ : ∃ kq, h / g = kq := ⟨_, rfl⟩
        rw [hkq] at HD hkz hfl
        replace hkq := hide' hkq
        clear k1 k2 k12 k13
        go_wp2_with fail
        refine HD.out.mono ?_
        rintro e w14 ⟨x14, y14, rfl, n1, n2⟩
        have b14 := n1.below
        have k14 := n1.seg
        have k15 := n2.seg
        clear n1 n2 HD
        replace r0 := below_cell b14 r0
        replace r1 := below_cell b14 r1
        replace r2 := below_cell b14 r2
        replace v0 := below_cell b14 v0
        replace v1 := below_cell b14 v1
        replace v2 := below_cell b14 v2
        replace hB := hB.trans (b14.mono hB.size)
        clear b14
        obtain ⟨wE, hwE⟩ : ∃ wE, w14.alloc (.cells #[.bool (ng kq.num), .slice x14 (ln (am kq.num)) (ln (am kq.num)), .slice y14 (ln kq.den) (ln kq.den)] 29) = wE := ⟨_, rfl⟩
        have bwE : Below w14.heap.size w14 wE := by subst hwE; exact below_alloc _
        have z0 : wE.cell? ⟨w14.heap.size, 0, none⟩ = some (.bool (ng kq.num)) := by subst hwE; go_simp
        have z1 : wE.cell? ⟨w14.heap.size, 1, none⟩ = some (.slice x14 (ln (am kq.num)) (ln (am kq.num))) := by subst hwE; go_simp
        have z2 : wE.cell? ⟨w14.heap.size, 2, none⟩ = some (.slice y14 (ln kq.den) (ln kq.den)) := by subst hwE; go_simp
        replace k14 := k14.later bwE
        replace k15 := k15.later bwE
        replace r0 := below_cell bwE r0
        replace r1 := below_cell bwE r1
        replace r2 := below_cell bwE r2
        replace v0 := below_cell bwE v0
        replace v1 := below_cell bwE v1
        replace v2 := below_cell bwE v2
        replace hB := hB.trans (bwE.mono hB.size)
        clear bwE
        go_wp2_with fail
        clear hwE
        refine (GK.out _ kq x14 y14 hB hkz k14 k15).mono ?_
        rintro e w15 ⟨a15, c15, R15, rfl, b15, s15, E15, f15⟩
        replace k14 := k14.later b15
        replace k15 := k15.later b15
        replace r0 := below_cell b15 r0
        replace r1 := below_cell b15 r1
        replace r2 := below_cell b15 r2
        replace v0 := below_cell b15 v0
        replace v1 := below_cell b15 v1
        replace v2 := below_cell b15 v2
        replace z0 := below_cell b15 z0
        replace z1 := below_cell b15 z1
        replace z2 := below_cell b15 z2
        replace hB := hB.trans (b15.mono hB.size)
        clear b15
        replace E15 : Ents w15 R15 := E15
        go_wp2_with fail
        refine (GN2.out _ hB).mono ?_
        rintro e w16 ⟨a16, c16, R16, rfl, b16, s16, E16, f16⟩
        replace k14 := k14.later b16
        replace k15 := k15.later b16
        replace s15 := s15.later b16
        replace E15 := E15.later b16
        replace r0 := below_cell b16 r0
        replace r1 := below_cell b16 r1
        replace r2 := below_cell b16 r2
        replace v0 := below_cell b16 v0
        replace v1 := below_cell b16 v1
        replace v2 := below_cell b16 v2
        replace z0 := below_cell b16 z0
        replace z1 := below_cell b16 z1
        replace z2 := below_cell b16 z2
        replace hB := hB.trans (b16.mono hB.size)
        clear b16
        replace E16 : Ents w16 R16 := E16
        have GE := hide' (SameForm_is a15 c15 R15 a16 c16 R16 w16 s15.lies s16.lies E15 E16 s15.len s16.len (by rw [← fo_length, f15, hfl.out]; have := hFM.out.len; omega) (by rw [f15, hfl.out, f16]))
        clear s15 E15 s16 E16
        clear f15 f16
        go_wp2_with fail
        refine (GE.out).mono ?_
        rintro e w17 ⟨rfl, b17⟩
        replace k14 := k14.later b17
        replace k15 := k15.later b17
        replace r0 := below_cell b17 r0
        replace r1 := below_cell b17 r1
        replace r2 := below_cell b17 r2
        replace v0 := below_cell b17 v0
        replace v1 := below_cell b17 v1
        replace v2 := below_cell b17 v2
        replace z0 := below_cell b17 z0
        replace z1 := below_cell b17 z1
        replace z2 := below_cell b17 z2
        replace hB := hB.trans (b17.mono hB.size)
        clear b17
        go_wp2
        go_ret
        exact ⟨rfl, hB⟩
    · skip
      have GE := hide' (SameForm_ne a1 c1 R1 a12 c12 R12 wD s1.lies s12.lies E1 E12 s1.len s12.len hR1 he)
      have hsh := hide' (shape_ne hP.out hQ hFL.out.nr hFM.out.nr (by rw [← f1.out, ← f12]; exact he))
      clear s12 E12 s1 E1 k1 k2 k12 k13 r0 r1 r2 v0 v1 v2
      clear f12 he
      go_wp2_with fail
      clear hwD
      refine (GE.out).mono ?_
      rintro e w13 ⟨rfl, b13⟩
      replace hB := hB.trans (b13.mono hB.size)
      clear b13
      clear GE
      go_wp2_with fail
      refine (GN1.out _ hB).mono ?_
      rintro e w14 ⟨a14, c14, R14, rfl, b14, s14, E14, f14⟩
      replace hB := hB.trans (b14.mono hB.size)
      clear b14
      replace E14 : Ents w14 R14 := E14
      go_wp2_with fail
      refine (GN2.out _ hB).mono ?_
      rintro e w15 ⟨a15, c15, R15, rfl, b15, s15, E15, f15⟩
      replace s14 := s14.later b15
      replace E14 := E14.later b15
      replace hB := hB.trans (b15.mono hB.size)
      clear b15
      replace E15 : Ents w15 R15 := E15
      obtain ⟨hne, hmul⟩ := hsh.out
      clear hsh
      replace hmul := hide' hmul
      have hnm : R14.length ≠ 0 ∨ R15.length ≠ 0 := by
        rcases Nat.eq_zero_or_pos R14.length with h1 | h1
        · rcases Nat.eq_zero_or_pos R15.length with h2 | h2
          · exact absurd ⟨by rw [← f14, List.length_eq_zero_iff.1 h1]; rfl, by rw [← f15, List.length_eq_zero_iff.1 h2]; rfl⟩ hne
          · exact Or.inr (by omega)
        · exact Or.inl (by omega)
      clear hne
      have hl14 : R14.length ≤ 1048576 := by rw [← fo_length, f14]; exact hFL.out.len
      have hl15 : R15.length ≤ 1048576 := by rw [← fo_length, f15]; exact hFM.out.len
      by_cases h14 : R14.length = 0
      · skip
        have i0 : ((R14.length : Nat) : Int) = 0 := by omega
        have i9 : ((R14.length : Nat) : Int) + ((R15.length : Nat) : Int) > 0 := by omega
        have iw : wrap64 (((R14.length : Nat) : Int) + ((R15.length : Nat) : Int)) = ((R14.length : Nat) : Int) + ((R15.length : Nat) : Int) := wrap64_small (by omega) (by omega)
        clear hmul
        go_wp2
        go_ret
        exact ⟨by first | rfl | (simp [i9, iw]; omega) | simp [i9, iw], hB⟩
      · have i0 : ¬ ((R14.length : Nat) : Int) = 0 := by omega
        by_cases h15 : R15.length = 0
        · skip
          have i1 : ((R15.length : Nat) : Int) = 0 := by omega
          have i9 : ((R14.length : Nat) : Int) + ((R15.length : Nat) : Int) > 0 := by omega
          have iw : wrap64 (((R14.length : Nat) : Int) + ((R15.length : Nat) : Int)) = ((R14.length : Nat) : Int) + ((R15.length : Nat) : Int) := wrap64_small (by omega) (by omega)
          clear hmul
          go_wp2
          go_ret
          exact ⟨by first | rfl | (simp [i9, iw]; omega) | simp [i9, iw], hB⟩
        · skip
          have i1 : ¬ ((R15.length : Nat) : Int) = 0 := by omega
          have ib14 : (((R14.length : Nat) : Int) == 0) = false := beq_eq_false_iff_ne.2 i0
          have ib15 : (((R15.length : Nat) : Int) == 0) = false := beq_eq_false_iff_ne.2 i1
          obtain ⟨p14, T14, hR14⟩ : ∃ p T, R14 = p :: T := by rcases R14 with _ | ⟨p, T⟩; exact absurd rfl h14; exact ⟨p, T, rfl⟩
          have hp14 : R14[0]? = some p14 := by rw [hR14]; rfl
          obtain ⟨bk14, o14, rfl, hbk14, hcl14⟩ := s14.lies (by rw [hR14]; simp)
          obtain ⟨_, d141, d142, d143⟩ := hcl14 0 p14 hp14
          rw [Nat.zero_mul, Nat.add_zero] at d141 d142 d143
          have hcap14 := s14.len
          have hq14 := E14 p14 (List.mem_of_getElem? hp14)
          have hi14 : (0 : Int) < (R14.length : Int) := by omega
          have hj14 : 0 < R14.length := by omega
          obtain ⟨p15, T15, hR15⟩ : ∃ p T, R15 = p :: T := by rcases R15 with _ | ⟨p, T⟩; exact absurd rfl h15; exact ⟨p, T, rfl⟩
          have hp15 : R15[0]? = some p15 := by rw [hR15]; rfl
          obtain ⟨bk15, o15, rfl, hbk15, hcl15⟩ := s15.lies (by rw [hR15]; simp)
          obtain ⟨_, d151, d152, d153⟩ := hcl15 0 p15 hp15
          rw [Nat.zero_mul, Nat.add_zero] at d151 d152 d153
          have hcap15 := s15.len
          have hq15 := E15 p15 (List.mem_of_getElem? hp15)
          have hi15 : (0 : Int) < (R15.length : Int) := by omega
          have hj15 : 0 < R15.length := by omega
          have hm14 : (p14.1, p14.2.val) ∈ l := by rw [← f14, hR14]; exact List.mem_cons_self ..
          have hm15 : (p15.1, p15.2.val) ∈ m := by rw [← f15, hR15]; exact List.mem_cons_self ..
          have hz14 := hFL.out.co _ hm14
          have hz15 := hFM.out.co _ hm15
          have hn14 := hFL.out.nr.2 _ hm14
          have hn15 := hFM.out.nr.2 _ hm15
          simp only at hz14 hz15 hn14 hn15
          have hmu := hmul.out (p14.1, p14.2.val) (fo T14) (by rw [← f14, hR14]; rfl) (p15.1, p15.2.val) (fo T15) (by rw [← f15, hR15]; rfl)
          simp only at hmu
          clear hmul
          obtain ⟨e14, P⟩ := p14
          obtain ⟨e15, Q⟩ := p15
          simp only at d141 d142 d143 d151 d152 d153 hz14 hz15 hn14 hn15 hmu
          obtain ⟨ho14, hlo14⟩ := hq14
          obtain ⟨ho15, hlo15⟩ := hq15
          simp only at ho14 ho15 hlo14 hlo15
          have hkz := (sz_mulY hz15 (szInv hz14 hn14)).mono (show 2097153 + 2097153 ≤ 5000000 by omega)
          rw [← Rat.div_def] at hkz
          have hk0 : Q.val / P.val ≠ 0 := fun e => by rw [Rat.div_def] at e; rcases Rat.mul_eq_zero.1 e with e | e; exact hn15 e; exact hn14 (by rw [← Rat.inv_inv P.val, e, Rat.inv_zero])
          have HD := hide' (fun w' (hP9 : P.ok w') (hQ9 : Q.ok w') (hpn : P.n ≤ 5000000 ∧ P.m ≤ 5000000) (hqn : Q.n ≤ 5000000 ∧ Q.m ≤ 5000000) => vqDiv_is Q.s Q.a Q.n Q.c Q.X Q.b Q.m Q.e Q.Y P.s P.a P.n P.c P.X P.b P.m P.e P.Y (Q.val / P.val).num (Q.val / P.val).den w' hQ9.2.1 (by omega) hQ9.1 hQ9.2.2.2.2.1 (by omega) hQ9.2.2.2.1 hP9.2.1 (by omega) hP9.1 hP9.2.2.2.2.1 (by omega) hP9.2.2.2.1 (low_divY Q P hn14))
          have hfl := GL.out _ hk0
          obtain ⟨kq, hkq⟩ : ∃ kq, Q.val / P.val = kq := ⟨_, rfl⟩
          rw [hkq] at HD hkz hfl hmu
          replace hfl := hide' hfl
          replace hmu := hide' hmu
          replace hkq := hide' hkq
          have hpn : P.n ≤ 5000000 ∧ P.m ≤ 5000000 := by obtain ⟨h1, h2⟩ := low_ns hlo14; have := hz14.1; have := hz14.2; omega
          have hqn : Q.n ≤ 5000000 ∧ Q.m ≤ 5000000 := by obtain ⟨h1, h2⟩ := low_ns hlo15; have := hz15.1; have := hz15.2; omega
          have HG := hide' (fun w' (hb : Below w.heap.size w w') x y k1 k2 => GK.out w' kq x y hb hkz k1 k2)
          clear hz14 hz15 hn14 hn15 hk0 hm14 hm15 hkz hP hQ GP1 GP2 GN1 GN2 GL hlo14 hlo15 hcl14 hcl15 hp14 hp15 hR14 hR15 hnm
          go_wp2_with fail
          have hB0 := hB
          have hlt14 : bk14 < w15.heap.size := hbk14
          have hlt15 : bk15 < w15.heap.size := hbk15
          have bT : Below w15.heap.size w15 w15 := Below.refl _ _
          have bD : Below w15.heap.size w15 w15.drew := (Below.refl _ _).drew
          have kd151 := below_cell bD d151
          have kd152 := below_cell bD d152
          have kd153 := below_cell bD d153
          have kd141 := below_cell bD d141
          have kd142 := below_cell bD d142
          have kd143 := below_cell bD d143
          replace hB := hB.trans (bD.mono hB.size)
          replace bT := bT.trans (bD.mono bT.size)
          replace ho14 := ho14.later bD
          replace ho15 := ho15.later bD
          replace s15 := s15.later bD
          replace E15 := E15.later bD
          refine wp_region_held_drew (S := fun w' => w'.cell? ⟨bk15, o15 + 1, none⟩ = some (.bool Q.s) ∧ w'.cell? ⟨bk15, o15 + 1 + 1, none⟩ = some (.slice Q.a Q.n Q.c) ∧ w'.cell? ⟨bk15, o15 + 1 + 2, none⟩ = some (.slice Q.b Q.m Q.e) ∧ w'.cell? ⟨bk14, o14 + 1, none⟩ = some (.bool P.s) ∧ w'.cell? ⟨bk14, o14 + 1 + 1, none⟩ = some (.slice P.a P.n P.c) ∧ w'.cell? ⟨bk14, o14 + 1 + 2, none⟩ = some (.slice P.b P.m P.e)) (by kernel_rfl) ⟨kd151, kd152, kd153, kd141, kd142, kd143⟩ (fun hHeld => ?_)
          clear kd151 kd152 kd153 kd141 kd142 kd143
          generalize w15.drew = wF0 at bD ho14 ho15 s15 E15 hB bT hHeld ⊢
          clear bD d151 d152 d153 d141 d142 d143
          refine tk 0 (v := ?_) rfl (Or.inl ⟨by rfl, ?_⟩) ?_
          rotate_left
          · intro w9 hSw
            go_simp
            first | done | with_reducible rfl
          simp only [pP, pN, pS, pZ, pC]
          refine tk 1 (v := ?_) rfl (Or.inl ⟨by rfl, ?_⟩) ?_
          rotate_left
          · intro w9 hSw
            go_simp
            first | done | with_reducible rfl
          simp only [pP, pN, pS, pZ, pC]
          refine tk 2 (v := ?_) rfl (Or.inl ⟨by rfl, ?_⟩) ?_
          rotate_left
          · intro w9 hSw
            go_simp
            first | done | with_reducible rfl
          simp only [pP, pN, pS, pZ, pC]
          refine tk 3 (v := ?_) rfl (Or.inl ⟨by rfl, ?_⟩) ?_
          rotate_left
          · intro w9 hSw
            go_simp
            first | done | with_reducible rfl
          simp only [pP, pN, pS, pZ, pC]
          refine tk 4 (v := ?_) rfl (Or.inl ⟨by rfl, ?_⟩) ?_
          rotate_left
          · intro w9 hSw
            go_simp
            first | done | with_reducible rfl
          simp only [pP, pN, pS, pZ, pC]
          refine tk 5 (v := ?_) rfl (Or.inl ⟨by rfl, ?_⟩) ?_
          rotate_left
          · intro w9 hSw
            go_simp
            first | done | with_reducible rfl
          simp only [pP, pN, pS, pZ, pC]
          refine tk 6 (v := ?_) rfl (Or.inl ⟨by rfl, ?_⟩) ?_
          rotate_left
          · intro w9 hSw
            go_simp
            first | done | with_reducible rfl
          simp only [pP, pN, pS, pZ, pC]
          refine tk 7 (v := ?_) rfl (Or.inl ⟨by rfl, ?_⟩) ?_
          rotate_left
          · intro w9 hSw
            go_simp
            first | done | with_reducible rfl
          simp only [pP, pN, pS, pZ, pC]
          refine wpAnyH_ready (rs := [8, 12]) (by kernel_rfl) (by simp) ?_
          refine consT rfl (fun KK hKK => ?_) ?_
          · skip
            go_simp
            refine (HD.out _ ho14 ho15 hpn hqn).mono ?_
            rintro e wF1 ⟨p, q, rfl, n1, n2⟩
            have bC := n1.below
            replace hB := hB.trans (bC.mono hB.size)
            replace bT := bT.trans (bC.mono bT.size)
            replace ho14 := ho14.later bC
            replace ho15 := ho15.later bC
            replace s15 := s15.later bC
            replace E15 := E15.later bC
            replace hHeld := (⟨below_cell bC hHeld.1, below_cell bC hHeld.2.1, below_cell bC hHeld.2.2.1, below_cell bC hHeld.2.2.2.1, below_cell bC hHeld.2.2.2.2.1, below_cell bC hHeld.2.2.2.2.2⟩ : _ ∧ _ ∧ _ ∧ _ ∧ _ ∧ _)
            clear bC
            go_wp2_with fail
            have k1 := n1.seg
            have k2 := n2.seg
            clear n1 n2
            refine hKK.out _ _ hHeld ?_
            clear hHeld
            intro hHeld
            clear hKK KK
            try simp only [pP, pN, pS, pZ, pC]
            refine tk 9 (v := ?_) rfl (Or.inl ⟨by rfl, ?_⟩) ?_
            rotate_left
            · intro w9 hSw
              go_simp
              first | done | with_reducible rfl
            simp only [pP, pN, pS, pZ, pC]
            refine tk 10 (v := ?_) rfl (Or.inl ⟨by rfl, ?_⟩) ?_
            rotate_left
            · intro w9 hSw
              go_simp
              first | done | with_reducible rfl
            simp only [pP, pN, pS, pZ, pC]
            refine tk 11 (v := ?_) rfl (Or.inl ⟨by rfl, ?_⟩) ?_
            rotate_left
            · intro w9 hSw
              go_simp
              first | done | with_reducible rfl
            simp only [pP, pN, pS, pZ, pC]
            refine wpAnyH_ready (rs := [12]) (by kernel_rfl) (by simp) ?_
            refine cons' rfl (fun KK hKK => ?_)
            go_simp
            have vN : Thr (wF1.alloc (.cells #[.bool false, .slice none 0 0, .slice none 0 0] 29)) wF1.heap.size (.bool false) (.slice none 0 0) (.slice none 0 0) := ⟨⟨by go_simp, by go_simp, by go_simp⟩, row_new wF1 _ 29⟩
            have bA := below_alloc (w := wF1) (.cells #[.bool false, .slice none 0 0, .slice none 0 0] 29)
            have hc9 : w15.heap.size ≤ wF1.heap.size := bT.size
            generalize wF1.alloc (.cells #[.bool false, .slice none 0 0, .slice none 0 0] 29) = wF2 at vN bA ⊢
            replace hB := hB.trans (bA.mono hB.size)
            replace bT := bT.trans (bA.mono bT.size)
            replace ho14 := ho14.later bA
            replace ho15 := ho15.later bA
            replace s15 := s15.later bA
            replace E15 := E15.later bA
            replace k1 := k1.later bA
            replace k2 := k2.later bA
            replace hHeld := (⟨below_cell bA hHeld.1, below_cell bA hHeld.2.1, below_cell bA hHeld.2.2.1, below_cell bA hHeld.2.2.2.1, below_cell bA hHeld.2.2.2.2.1, below_cell bA hHeld.2.2.2.2.2⟩ : _ ∧ _ ∧ _ ∧ _ ∧ _ ∧ _)
            clear bA
            refine hKK.out _ _ hHeld ?_
            clear hHeld
            intro hHeld
            clear hKK KK
            try simp only [pP, pN, pS, pZ, pC]
            obtain ⟨cc, hcc⟩ : ∃ cc, wF1.heap.size = cc := ⟨_, rfl⟩
            rw [hcc] at vN hc9
            try rw [hcc]
            clear hcc
            refine wpAnyH_ready (rs := [13]) (by kernel_rfl) (by simp) ?_
            refine cons' rfl (fun KK hKK => ?_)
            have fz := fun o => vN.2.frozen o
            replace k1 := vN.seg (u0 := .bool (ng kq.num)) (u1 := .slice p (ln (am kq.num)) (ln (am kq.num))) (u2 := .slice q (ln kq.den) (ln kq.den)) (by simp) (by simp) (by simp) k1
            replace k2 := vN.seg (u0 := .bool (ng kq.num)) (u1 := .slice p (ln (am kq.num)) (ln (am kq.num))) (u2 := .slice q (ln kq.den) (ln kq.den)) (by simp) (by simp) (by simp) k2
            replace bT := below_set3 (u0 := .bool (ng kq.num)) (u1 := .slice p (ln (am kq.num)) (ln (am kq.num))) (u2 := .slice q (ln kq.den) (ln kq.den)) bT hc9
            have hs9 := hB0.size
            have hBn := hB0.trans (bT.mono hB0.size)
            have s9 : Sl _ _ _ _ := ⟨vN.fatB (u0 := .bool (ng kq.num)) (u1 := .slice p (ln (am kq.num)) (ln (am kq.num))) (u2 := .slice q (ln kq.den) (ln kq.den)) s15.lies, s15.len, s15.nn⟩
            have E9 : Ents _ _ := vN.entsB (u0 := .bool (ng kq.num)) (u1 := .slice p (ln (am kq.num)) (ln (am kq.num))) (u2 := .slice q (ln kq.den) (ln kq.den)) E15
            have hH2 := (⟨(set3_far (w := wF2) (c := cc) (b := bk15) (o := o15 + 1) (u0 := .bool (ng kq.num)) (u1 := .slice p (ln (am kq.num)) (ln (am kq.num))) (u2 := .slice q (ln kq.den) (ln kq.den)) (by omega)).trans hHeld.1, (set3_far (w := wF2) (c := cc) (b := bk15) (o := o15 + 1 + 1) (u0 := .bool (ng kq.num)) (u1 := .slice p (ln (am kq.num)) (ln (am kq.num))) (u2 := .slice q (ln kq.den) (ln kq.den)) (by omega)).trans hHeld.2.1, (set3_far (w := wF2) (c := cc) (b := bk15) (o := o15 + 1 + 2) (u0 := .bool (ng kq.num)) (u1 := .slice p (ln (am kq.num)) (ln (am kq.num))) (u2 := .slice q (ln kq.den) (ln kq.den)) (by omega)).trans hHeld.2.2.1, (set3_far (w := wF2) (c := cc) (b := bk14) (o := o14 + 1) (u0 := .bool (ng kq.num)) (u1 := .slice p (ln (am kq.num)) (ln (am kq.num))) (u2 := .slice q (ln kq.den) (ln kq.den)) (by omega)).trans hHeld.2.2.2.1, (set3_far (w := wF2) (c := cc) (b := bk14) (o := o14 + 1 + 1) (u0 := .bool (ng kq.num)) (u1 := .slice p (ln (am kq.num)) (ln (am kq.num))) (u2 := .slice q (ln kq.den) (ln kq.den)) (by omega)).trans hHeld.2.2.2.2.1, (set3_far (w := wF2) (c := cc) (b := bk14) (o := o14 + 1 + 2) (u0 := .bool (ng kq.num)) (u1 := .slice p (ln (am kq.num)) (ln (am kq.num))) (u2 := .slice q (ln kq.den) (ln kq.den)) (by omega)).trans hHeld.2.2.2.2.2⟩ : _ ∧ _ ∧ _ ∧ _ ∧ _ ∧ _)
            have vN2 := vN.put (u0 := .bool (ng kq.num)) (u1 := .slice p (ln (am kq.num)) (ln (am kq.num))) (u2 := .slice q (ln kq.den) (ln kq.den))
            have z0 := vN.1.1
            have z1 := vN.1.2.1
            have z2 := vN.1.2.2
            go_simp
            clear z0 z1 z2 vN fz s15 E15 hB ho14 ho15
            refine hKK.out _ _ hH2 ?_
            clear hHeld
            intro hHeld
            clear hKK KK
            try simp only [pP, pN, pS, pZ, pC]
            clear hH2
            refine tk 14 (v := ?_) rfl (Or.inl ⟨by rfl, ?_⟩) ?_
            rotate_left
            · intro w9 hSw
              go_simp
              first | done | with_reducible rfl
            simp only [pP, pN, pS, pZ, pC]
            refine wpAnyH_done (by kernel_rfl) ?_ _
            clear hHeld
            try unfold set3 at k1
            try unfold set3 at k2
            try unfold set3 at bT
            try unfold set3 at hBn
            try unfold set3 at s9
            try unfold set3 at E9
            try unfold set3 at vN2
            generalize (((wF2.setCell ⟨cc, 0, none⟩ (.bool (ng kq.num))).setCell ⟨cc, 1, none⟩ (.slice p (ln (am kq.num)) (ln (am kq.num)))).setCell ⟨cc, 2, none⟩ (.slice q (ln kq.den) (ln kq.den))) = wG at k1 k2 bT hBn s9 E9 vN2 ⊢
            obtain ⟨⟨z0, z1, z2⟩, vR⟩ := vN2
            go_wp2_with fail
            refine (HG.out _ hBn p q k1 k2).mono ?_
            rintro e w20 ⟨a20, c20, R20, rfl, b20, s20, E20, f20⟩
            have GE := hide' (SameForm_ne a20 c20 R20 _ _ R15 w20 s20.lies (s9.lies.later b20) E20 (E9.later b20) s20.len s9.len (by rw [← fo_length, f20, hfl.out, fmap_length]; have := hFL.out.len; omega) (by rw [f20, hfl.out, f15]; exact hmu.out))
            go_wp2_with fail
            refine GE.out.mono ?_
            rintro e w21 ⟨rfl, b21⟩
            go_wp2
            go_ret
            exact ⟨rfl, (hBn.trans (b20.mono hBn.size)).trans (b21.mono (hBn.trans (b20.mono hBn.size)).size)⟩
          refine consT rfl (fun KK hKK => ?_) ?_
          · skip
            go_simp
            have vN : Thr (wF0.alloc (.cells #[.bool false, .slice none 0 0, .slice none 0 0] 29)) wF0.heap.size (.bool false) (.slice none 0 0) (.slice none 0 0) := ⟨⟨by go_simp, by go_simp, by go_simp⟩, row_new wF0 _ 29⟩
            have bA := below_alloc (w := wF0) (.cells #[.bool false, .slice none 0 0, .slice none 0 0] 29)
            have hc9 : w15.heap.size ≤ wF0.heap.size := bT.size
            generalize wF0.alloc (.cells #[.bool false, .slice none 0 0, .slice none 0 0] 29) = wF3 at vN bA ⊢
            replace hB := hB.trans (bA.mono hB.size)
            replace bT := bT.trans (bA.mono bT.size)
            replace ho14 := ho14.later bA
            replace ho15 := ho15.later bA
            replace s15 := s15.later bA
            replace E15 := E15.later bA
            replace hHeld := (⟨below_cell bA hHeld.1, below_cell bA hHeld.2.1, below_cell bA hHeld.2.2.1, below_cell bA hHeld.2.2.2.1, below_cell bA hHeld.2.2.2.2.1, below_cell bA hHeld.2.2.2.2.2⟩ : _ ∧ _ ∧ _ ∧ _ ∧ _ ∧ _)
            clear bA
            refine hKK.out _ _ hHeld ?_
            clear hHeld
            intro hHeld
            clear hKK KK
            try simp only [pP, pN, pS, pZ, pC]
            obtain ⟨cc, hcc⟩ : ∃ cc, wF0.heap.size = cc := ⟨_, rfl⟩
            rw [hcc] at vN hc9
            try rw [hcc]
            clear hcc
            refine wpAnyH_ready (rs := [8]) (by kernel_rfl) (by simp) ?_
            refine cons' rfl (fun KK hKK => ?_)
            go_simp
            refine (HD.out _ ho14 ho15 hpn hqn).mono ?_
            rintro e wF4 ⟨p, q, rfl, n1, n2⟩
            have bC := n1.below
            replace hB := hB.trans (bC.mono hB.size)
            replace bT := bT.trans (bC.mono bT.size)
            replace ho14 := ho14.later bC
            replace ho15 := ho15.later bC
            replace s15 := s15.later bC
            replace E15 := E15.later bC
            replace vN := vN.later bC
            replace hHeld := (⟨below_cell bC hHeld.1, below_cell bC hHeld.2.1, below_cell bC hHeld.2.2.1, below_cell bC hHeld.2.2.2.1, below_cell bC hHeld.2.2.2.2.1, below_cell bC hHeld.2.2.2.2.2⟩ : _ ∧ _ ∧ _ ∧ _ ∧ _ ∧ _)
            clear bC
            go_wp2_with fail
            have k1 := n1.seg
            have k2 := n2.seg
            clear n1 n2
            refine hKK.out _ _ hHeld ?_
            clear hHeld
            intro hHeld
            clear hKK KK
            try simp only [pP, pN, pS, pZ, pC]
            refine tk 9 (v := ?_) rfl (Or.inl ⟨by rfl, ?_⟩) ?_
            rotate_left
            · intro w9 hSw
              go_simp
              first | done | with_reducible rfl
            simp only [pP, pN, pS, pZ, pC]
            refine tk 10 (v := ?_) rfl (Or.inl ⟨by rfl, ?_⟩) ?_
            rotate_left
            · intro w9 hSw
              go_simp
              first | done | with_reducible rfl
            simp only [pP, pN, pS, pZ, pC]
            refine tk 11 (v := ?_) rfl (Or.inl ⟨by rfl, ?_⟩) ?_
            rotate_left
            · intro w9 hSw
              go_simp
              first | done | with_reducible rfl
            simp only [pP, pN, pS, pZ, pC]
            refine wpAnyH_ready (rs := [13]) (by kernel_rfl) (by simp) ?_
            refine cons' rfl (fun KK hKK => ?_)
            have fz := fun o => vN.2.frozen o
            replace k1 := vN.seg (u0 := .bool (ng kq.num)) (u1 := .slice p (ln (am kq.num)) (ln (am kq.num))) (u2 := .slice q (ln kq.den) (ln kq.den)) (by simp) (by simp) (by simp) k1
            replace k2 := vN.seg (u0 := .bool (ng kq.num)) (u1 := .slice p (ln (am kq.num)) (ln (am kq.num))) (u2 := .slice q (ln kq.den) (ln kq.den)) (by simp) (by simp) (by simp) k2
            replace bT := below_set3 (u0 := .bool (ng kq.num)) (u1 := .slice p (ln (am kq.num)) (ln (am kq.num))) (u2 := .slice q (ln kq.den) (ln kq.den)) bT hc9
            have hs9 := hB0.size
            have hBn := hB0.trans (bT.mono hB0.size)
            have s9 : Sl _ _ _ _ := ⟨vN.fatB (u0 := .bool (ng kq.num)) (u1 := .slice p (ln (am kq.num)) (ln (am kq.num))) (u2 := .slice q (ln kq.den) (ln kq.den)) s15.lies, s15.len, s15.nn⟩
            have E9 : Ents _ _ := vN.entsB (u0 := .bool (ng kq.num)) (u1 := .slice p (ln (am kq.num)) (ln (am kq.num))) (u2 := .slice q (ln kq.den) (ln kq.den)) E15
            have hH2 := (⟨(set3_far (w := wF4) (c := cc) (b := bk15) (o := o15 + 1) (u0 := .bool (ng kq.num)) (u1 := .slice p (ln (am kq.num)) (ln (am kq.num))) (u2 := .slice q (ln kq.den) (ln kq.den)) (by omega)).trans hHeld.1, (set3_far (w := wF4) (c := cc) (b := bk15) (o := o15 + 1 + 1) (u0 := .bool (ng kq.num)) (u1 := .slice p (ln (am kq.num)) (ln (am kq.num))) (u2 := .slice q (ln kq.den) (ln kq.den)) (by omega)).trans hHeld.2.1, (set3_far (w := wF4) (c := cc) (b := bk15) (o := o15 + 1 + 2) (u0 := .bool (ng kq.num)) (u1 := .slice p (ln (am kq.num)) (ln (am kq.num))) (u2 := .slice q (ln kq.den) (ln kq.den)) (by omega)).trans hHeld.2.2.1, (set3_far (w := wF4) (c := cc) (b := bk14) (o := o14 + 1) (u0 := .bool (ng kq.num)) (u1 := .slice p (ln (am kq.num)) (ln (am kq.num))) (u2 := .slice q (ln kq.den) (ln kq.den)) (by omega)).trans hHeld.2.2.2.1, (set3_far (w := wF4) (c := cc) (b := bk14) (o := o14 + 1 + 1) (u0 := .bool (ng kq.num)) (u1 := .slice p (ln (am kq.num)) (ln (am kq.num))) (u2 := .slice q (ln kq.den) (ln kq.den)) (by omega)).trans hHeld.2.2.2.2.1, (set3_far (w := wF4) (c := cc) (b := bk14) (o := o14 + 1 + 2) (u0 := .bool (ng kq.num)) (u1 := .slice p (ln (am kq.num)) (ln (am kq.num))) (u2 := .slice q (ln kq.den) (ln kq.den)) (by omega)).trans hHeld.2.2.2.2.2⟩ : _ ∧ _ ∧ _ ∧ _ ∧ _ ∧ _)
            have vN2 := vN.put (u0 := .bool (ng kq.num)) (u1 := .slice p (ln (am kq.num)) (ln (am kq.num))) (u2 := .slice q (ln kq.den) (ln kq.den))
            have z0 := vN.1.1
            have z1 := vN.1.2.1
            have z2 := vN.1.2.2
            go_simp
            clear z0 z1 z2 vN fz s15 E15 hB ho14 ho15
            refine hKK.out _ _ hH2 ?_
            clear hHeld
            intro hHeld
            clear hKK KK
            try simp only [pP, pN, pS, pZ, pC]
            clear hH2
            refine tk 14 (v := ?_) rfl (Or.inl ⟨by rfl, ?_⟩) ?_
            rotate_left
            · intro w9 hSw
              go_simp
              first | done | with_reducible rfl
            simp only [pP, pN, pS, pZ, pC]
            refine wpAnyH_done (by kernel_rfl) ?_ _
            clear hHeld
            try unfold set3 at k1
            try unfold set3 at k2
            try unfold set3 at bT
            try unfold set3 at hBn
            try unfold set3 at s9
            try unfold set3 at E9
            try unfold set3 at vN2
            generalize (((wF4.setCell ⟨cc, 0, none⟩ (.bool (ng kq.num))).setCell ⟨cc, 1, none⟩ (.slice p (ln (am kq.num)) (ln (am kq.num)))).setCell ⟨cc, 2, none⟩ (.slice q (ln kq.den) (ln kq.den))) = wG at k1 k2 bT hBn s9 E9 vN2 ⊢
            obtain ⟨⟨z0, z1, z2⟩, vR⟩ := vN2
            go_wp2_with fail
            refine (HG.out _ hBn p q k1 k2).mono ?_
            rintro e w20 ⟨a20, c20, R20, rfl, b20, s20, E20, f20⟩
            have GE := hide' (SameForm_ne a20 c20 R20 _ _ R15 w20 s20.lies (s9.lies.later b20) E20 (E9.later b20) s20.len s9.len (by rw [← fo_length, f20, hfl.out, fmap_length]; have := hFL.out.len; omega) (by rw [f20, hfl.out, f15]; exact hmu.out))
            go_wp2_with fail
            refine GE.out.mono ?_
            rintro e w21 ⟨rfl, b21⟩
            go_wp2
            go_ret
            exact ⟨rfl, (hBn.trans (b20.mono hBn.size)).trans (b21.mono (hBn.trans (b20.mono hBn.size)).size)⟩
          exact AllReadyH.nil
theorem bulkL_mos (v : Nat → Int) (f : Nat → RatV) : ∀ n, bulkL (mos v f n) = bulkV f n + n
  | 0 => rfl
  | n + 1 => by
    have ih := bulkL_mos v f n
    have e : mos v f (n + 1) = mos v f n ++ [(v n, f n)] := by unfold mos; rw [List.range_succ, List.map_append]; rfl
    have ha : ∀ (A B : List Mo), bulkL (A ++ B) = bulkL A + bulkL B := fun A B => by
      induction A with
      | nil => simp [bulkL]
      | cons p A ih => simp only [List.cons_append, bulkL, ih]; omega
    rw [e, ha, ih]
    simp only [bulkL, bulkV]
    omega
theorem fit {w : World} {v : Nat → Int} {f : Nat → RatV} {n : Nat} (hfo : ∀ i, i < n → (Lit.int .i64 (v i)).wf = true ∧ (f i).ok w) (hb : bulkV f n ≤ 1048576) : (∀ p ∈ mos v f n, p.2.ok w ∧ p.2.n ≤ 2097152 ∧ p.2.m ≤ 2097152) ∧ (mos v f n).length ≤ 1048576 ∧ wts (fo (mos v f n)) ≤ 2097152 := by
  have b1 := bulk_n (q := f) n
  have hbm := bulkL_mos v f n
  have hk : ∀ p ∈ mos v f n, p.2.ok w ∧ p.2.n ≤ 2097152 ∧ p.2.m ≤ 2097152 := fun p hp => by
    obtain ⟨i, hi, rfl⟩ := mos_mem hp
    have := bulk_at (q := f) n i hi
    exact ⟨(hfo i hi).2, by show (f i).n ≤ _; omega, by show (f i).m ≤ _; omega⟩
  have hws := wts_bulk (mos v f n) (fun p hp => (hk p hp).1)
  exact ⟨hk, by rw [mos_length]; omega, by omega⟩
theorem walk (af : Option Addr) (n capf : Nat) (v : Nat → Int) (f : Nat → RatV) (ag : Option Addr) (m capg : Nat) (v2 : Nat → Int) (g : Nat → RatV) (C : RatV) (w : World) (hF : FormAt w af n v f) (hfo : ∀ i, i < n → (Lit.int .i64 (v i)).wf = true ∧ (f i).ok w) (hcf : n ≤ capf) (hG : FormAt w ag m v2 g) (hgo : ∀ i, i < m → (Lit.int .i64 (v2 i)).wf = true ∧ (g i).ok w) (hcg : m ≤ capg) (hC : C.ok w) (hb : bulkV f n + bulkV g m + (C.n + C.m) ≤ 1048576) :
    Calls Tryz.prog 3 #[.slice af n capf, .slice ag m capg, .agg #[.bool C.s, .slice C.a C.n C.c, .slice C.b C.m C.e]] w fun e w' => e = .returned (.bool true) ∧ Below w.heap.size w w' := by
  obtain ⟨h1, h2, h3⟩ := fit hfo (by omega)
  obtain ⟨k1, k2, k3⟩ := fit hgo (by omega)
  have h := walkM af capf (mos v f n) ag capg (mos v2 g m) C w (mos_at hF) h1 (by rw [mos_length]; exact hcf) h2 h3 (mos_at hG) k1 (by rw [mos_length]; exact hcg) k2 k3 hC (by omega)
  rw [mos_length, mos_length] at h
  exact h
set_option maxRecDepth 100000 in
theorem contract (H : Type) (enc : TypeId × Value → H) (W : World) (base : Nat) (args : Array Value) (ds gs : List (DataW H)) (before : List MemPlace)
    (hval : ∀ (j : Nat) t v, Tryz.f3.params[j]? = some t → args[j]? = some v → Value.okWide Tryz.prog W .any base t v)
    (hW : DataW.Whole enc Tryz.prog Tryz.f3.params.toList Rows.linearShapesSpec.vars false W args.toList ds gs before)
    (hsz : (DataW.weightsEach Tryz.prog (Tryz.f3.params.toList ++ Rows.linearShapesSpec.plain.varTypes Tryz.prog) (ds ++ gs)).all (· ≤ reachBytes) = true) (hk : Rows.uptoSmall H (ds ++ gs) = true) :
    Calls Tryz.prog 3 args W fun e W' => ∃ v, e = .returned v ∧ Rows.linearShapesSpec.post enc Tryz.prog Tryz.f3 false true false false W args v W' := by
  have hW' := hW
  obtain ⟨p, q, hA0, hV, rfl, hfz, hnd⟩ := hW
  have hA : DataW.TrodAll enc Tryz.prog W 0 (fun _ => true) true Tryz.f3.params.toList args.toList ds p := hA0
  rw [Tryz.params3] at hA hval hsz
  obtain ⟨v0, vs0, d0, ds0, p0, q0, hargs, rfl, rfl, h0, r0⟩ := trodAll_cons hA
  obtain ⟨v1, vs1, d1, ds1, p1, q1, rfl, rfl, rfl, h1, r1⟩ := trodAll_cons r0
  obtain ⟨v2, vs2, d2, ds2, p2, q2, rfl, rfl, rfl, h2, r2⟩ := trodAll_cons r1
  obtain ⟨rfl, rfl, rfl⟩ := trodAll_nil r2
  obtain rfl : args = #[v0, v1, v2] := by cases args; simp_all
  obtain ⟨rfl, rfl⟩ := trodVars_none hV
  have lt0 : ∀ x ∈ p0, x.block < W.heap.size := by obtain ⟨m, hm⟩ := h0; exact DataW.trod_lt m _ _ _ hm
  obtain ⟨xa0, xl0, xc0, rfl⟩ := okWide_slice Tryz.underlying23 (hval 0 23 v0 rfl rfl)
  obtain ⟨fu0, hm0⟩ := id h0
  obtain ⟨fa0, fn0, fc0, fv0, ff0, hcs0, hF0, hfo0, hfc0, hfz0, hfu0⟩ := open_Form hm0 (sized_at 0 hsz rfl rfl)
  simp [Value.cells] at hcs0
  obtain ⟨rfl, rfl, rfl⟩ := hcs0
  have lt1 : ∀ x ∈ p1, x.block < W.heap.size := by obtain ⟨m, hm⟩ := h1; exact DataW.trod_lt m _ _ _ hm
  obtain ⟨xa1, xl1, xc1, rfl⟩ := okWide_slice Tryz.underlying23 (hval 1 23 v1 rfl rfl)
  obtain ⟨fu1, hm1⟩ := id h1
  obtain ⟨fa1, fn1, fc1, fv1, ff1, hcs1, hF1, hfo1, hfc1, hfz1, hfu1⟩ := open_Form hm1 (sized_at 1 hsz rfl rfl)
  simp [Value.cells] at hcs1
  obtain ⟨rfl, rfl, rfl⟩ := hcs1
  have lt2 : ∀ x ∈ p2, x.block < W.heap.size := by obtain ⟨m, hm⟩ := h2; exact DataW.trod_lt m _ _ _ hm
  obtain ⟨qv2, rfl, hqo2, hqu2⟩ := open_RatV (hval 2 29 v2 rfl rfl) h2 (sized_at 2 hsz rfl rfl)
  clear hA0
  have hbulk := of_decide_eq_true hk
  simp only [List.append_nil, Rows.uptoBulkAll] at hbulk
  simp only [List.append_nil] at hW'
  refine (walk xa0 xl0 xc0 fv0 ff0 xa1 xl1 xc1 fv1 ff1 qv2 W hF0 hfo0 hfc0 hF1 hfo1 hfc1 hqo2 (by omega)).mono fun e W' ⟨he, bel⟩ => ?_
  subst he
  exact ⟨_, rfl, _, _, _, [], _, [], hW', trodAll_mk1 (shut_bool Tryz.underlying4 _), (trodAll_cons_mk (Below.trod laidOut (by kernel_rfl) (of_decide_eq_true (by kernel_rfl)) h0 bel lt0) (trodAll_cons_mk (Below.trod laidOut (by kernel_rfl) (of_decide_eq_true (by kernel_rfl)) h1 bel lt1) (trodAll_cons_mk (Below.trod laidOut (by kernel_rfl) (of_decide_eq_true (by kernel_rfl)) h2 bel lt2) trodAll_mk0))), rfl, bel.frame _, fun h => by cases h⟩
set_option maxRecDepth 100000 in
theorem lifted (os : Os) (started : os.Started) (H : Type) (enc : TypeId × Value → H) (F : Stop.Interp) :
    ReturnsInHanded {} Tryz.checked os 3 .any ((Rows.OpenSpec.upto Rows.linearShapesSpec).pre6 enc Tryz.prog Tryz.f3 Rows.linearShapesUptoRow.domain false) (((Rows.OpenSpec.upto Rows.linearShapesSpec).at F).post enc Tryz.prog Tryz.f3 false true false false) := by
  refine returnsInHanded_of_cond_sized (C := Tryz.checked) (s := Rows.OpenSpec.upto Rows.linearShapesSpec) (k := Rows.uptoSmall) rfl own started (by kernel_rfl) Tryz.func3
    (OpenSpec.witness (enc := enc) (C := Tryz.checked) (s := Rows.OpenSpec.upto Rows.linearShapesSpec) (k := Rows.uptoSmall) rfl false ⟨#[], #[.slice none 0 0, .slice none 0 0, .agg #[.bool false, .slice none 0 0, .slice none 0 0]], []⟩ 8 (by kernel_rfl) (by kernel_rfl) (by kernel_rfl)
      (x := ([.nil, .nil, .agg [.agg [.lit (.bool false), .nil], .nil]], [], [])) (by kernel_rfl) rfl (by kernel_rfl)) ?_
  intro W base args ds gs before hval hW _ hk hsz _
  exact contract H enc W base args ds gs before hval hW hsz hk
theorem over : Rows.linearShapesUptoRow.holds Tryz.pinned (Rows.OpenSpec.upto Rows.linearShapesSpec) :=
  OpenClaim.holds_of_cond 3 Tryz.f3 rfl rfl rfl rfl rfl rfl rfl ⟨rfl, rfl, rfl, rfl, rfl⟩ rfl rfl rfl rfl rfl (by kernel_rfl) Tryz.func3 (by kernel_rfl)
    (of_decide_eq_true (by kernel_rfl)) (by unfold Func.isWrapper; first | (rw [if_pos (by decide +kernel)]; kernel_rfl) | (rw [if_neg (by decide +kernel)]; exact ⟨rfl, rfl⟩))
    (fun os started H enc _ F => lifted os started H enc F)
end Go.Proofs.YtebbehlfocpjhaaGreat.linearShapes
namespace Go.Proofs.YtebbehlfocpjhaaGreat
theorem linearShapes_holds : Rows.LinearShapesUptoSaid := linearShapes.over
#print axioms linearShapes_holds
end Go.Proofs.YtebbehlfocpjhaaGreat
