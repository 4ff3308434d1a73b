/-
  LinearModule.
-/
import Derived.Test.YtfjobigkfbdegaaGreatWN12
import Derived.Test.YtfjobigkfbdegaaGreatWO7
import Derived.Test.YtfjobigkfbdegaaGreatOpenR
import Derived.Test.YtfjobigkfbdegaaGreatWO0
import Derived.Test.YtfjobigkfbdegaaGreatWQ8
namespace Go.Proofs.YtfjobigkfbdegaaGreat.linearModule
open Go.ChangeShapes Go.WideShapes Go.ChangeAt Go.RowKit Go.Proofs.YtfjobigkfbdegaaGreat
set_option linter.unusedVariables false
set_option linter.unusedSimpArgs false

theorem e1 (l m : Fo) : nfm (m ++ l) = nfm (l ++ m) := nfm_uniq (nfm_nrm _) fun x => by rw [nfm_co, co_append, co_append]; exact Rat.add_comm _ _
theorem e2 (l m : Fo) : nfm (nfm (l ++ m) ++ fmap (fun r => -r) m) = nfm l := nfm_uniq (nfm_nrm _) fun x => by rw [nfm_co, co_append, nfm_co, co_append, co_neg]; grind
theorem e3 (c : Rat) (l m : Fo) : nfm (nfm (fmap (fun r => c * r) l) ++ nfm (fmap (fun r => c * r) m)) = nfm (fmap (fun r => c * r) (nfm (l ++ m))) := nfm_uniq (nfm_nrm _) fun x => by rw [nfm_co, co_append, nfm_co, nfm_co, co_scale, co_scale, co_scale, nfm_co, co_append]; grind
theorem e4 (c : Rat) (l : Fo) : nfm (nfm (fmap (fun r => c * r) l) ++ l) = nfm (fmap (fun r => (c + 1) * r) l) := nfm_uniq (nfm_nrm _) fun x => by rw [nfm_co, co_append, nfm_co, co_scale, co_scale]; grind
theorem rect3 {N c : Nat} (h : N + c ≤ 1048576) : N * (2 * c + 11) + 16777217 ≤ 1099511627776 := by
  have e : (N + c) * (N + c) ≤ 1048576 * 1048576 := Nat.mul_le_mul h h
  have e2 : 4 * (N * c) ≤ (N + c) * (N + c) := by
    have h1 : 0 ≤ ((N : Int) - c) * ((N : Int) - c) := by
      rcases Int.le_total 0 ((N : Int) - c) with h2 | h2
      · exact Int.mul_nonneg h2 h2
      · exact Int.mul_nonneg_of_nonpos_of_nonpos h2 h2
    have h2 : ((N : Int) + c) * ((N : Int) + c) = 4 * ((N : Int) * c) + ((N : Int) - c) * ((N : Int) - c) := by grind
    have h3 : (4 * ((N : Int) * c)) ≤ ((N : Int) + c) * ((N : Int) + c) := by omega
    exact_mod_cast h3
  have e3 : N * (2 * c + 11) = 2 * (N * c) + 11 * N := by grind
  omega
/-- a number more by 1 -/
theorem more_sz {w : World} {C : RatV} (hC : C.ok w) : ln (am (C.val + 1).num) ≤ C.n + C.m + 5 ∧ ln (C.val + 1).den ≤ C.m + 3 := by
  have h := low_add C (RatV.of (1 : Rat).num (1 : Rat).den none none)
  rw [val_ofR] at h
  have q1 : am (rn (RatV.of (1 : Rat).num (1 : Rat).den none none).s (RatV.of (1 : Rat).num (1 : Rat).den none none).X (RatV.of (1 : Rat).num (1 : Rat).den none none).Y) < BB ^ 1 := Nat.lt_of_le_of_lt (rn_am _ _ _) (by show (1 : Nat) < BB ^ 1; rw [Nat.pow_one, BB_eq]; omega)
  have q2 : am ((rd (RatV.of (1 : Rat).num (1 : Rat).den none none).Y : Nat) : Int) < BB ^ 1 := by show rd 1 < BB ^ 1; rw [Nat.pow_one, BB_eq]; decide
  have c1 : am (rn C.s C.X C.Y) < BB ^ C.n := Nat.lt_of_le_of_lt (rn_am _ _ _) hC.1.1
  have c2 : am ((rd C.Y : Nat) : Int) < BB ^ (C.m + 1) := by show rd _ < _; exact rd_lt hC.2.2.2.1.1
  have hl := h.le
  have k1 := lt_sum (k := C.n + C.m + 5) (lt_prod c1 q2) (lt_prod q1 c2) (by omega) (by omega)
  have k2 := lt_prod c2 q2
  exact ⟨ln_le_of_lt (Nat.lt_of_le_of_lt hl.1 k1), Nat.le_trans (ln_le_of_lt (Nat.lt_of_le_of_lt hl.2 k2)) (by omega)⟩

set_option maxHeartbeats 8000000 in
set_option maxRecDepth 100000 in
theorem walkL (a : Option Addr) (ca : Nat) (L : List Mo) (b : Option Addr) (cb : Nat) (M : List Mo) (C : RatV) (w : World) (hF : FAt w a L) (hG : FAt w b M) (hokL : ∀ p ∈ L, p.2.ok w) (hokM : ∀ p ∈ M, p.2.ok w) (hca : L.length ≤ ca) (hcb : M.length ≤ cb) (hC : C.ok w) (hN : L.length + M.length + (C.n + C.m) ≤ 1048576) (hBL : bulkL L + bulkL M ≤ 2097152) :
    Calls Tryz.prog 3 #[.slice a L.length ca, .slice b M.length cb, .agg #[.bool C.s, .slice C.a C.n C.c, .slice C.b C.m C.e]] w fun e w' => e = .returned (.bool true) ∧ Below w.heap.size w w' := by
  have wL := wts_bulk L hokL
  have wM := wts_bulk M hokM
  have tL : thin (fo L) := thin_of (by omega)
  have tM : thin (fo M) := thin_of (by omega)
  have mL : ∀ p ∈ L, p.2.n + p.2.m + 2 ≤ 2097152 := fun p hp => by have := bulkL_at L p hp; omega
  have mM : ∀ p ∈ M, p.2.n + p.2.m + 2 ≤ 2097152 := fun p hp => by have := bulkL_at M p hp; omega
  obtain ⟨T1, hT1⟩ : ∃ T1, nfm (fo L ++ fo M) = T1 := ⟨_, rfl⟩
  have lT : T1.length ≤ L.length + M.length := by have h := nfm_length (fo L ++ fo M); rw [List.length_append, fo_length, fo_length, hT1] at h; exact h
  have wT : wts T1 ≤ 2 * 2097152 + 3 * T1.length := by have h := wts_nfm (fo L ++ fo M); rw [wts_append, hT1] at h; omega
  have tT : thin T1 := by rw [← hT1]; exact thin_nfm (by rw [wts_append]; omega)
  -- what is known of a list that is T1
  have RT : ∀ {w' : World} {R : List Mo}, (∀ p ∈ R, Ent w' p) → fo R = T1 → R.length ≤ L.length + M.length ∧ bulkL R ≤ 16777216 ∧ (∀ p ∈ R, p.2.ok w' ∧ p.2.m < 35184372087808) := fun {w' R} he hf => by
    have hl : R.length ≤ L.length + M.length := by rw [← fo_length R, hf]; exact lT
    have hb := bulkL_low R fun p hp => (he p hp).low
    rw [hf] at hb
    have hl2 : R.length = T1.length := by rw [← fo_length R, hf]
    exact ⟨hl, by omega, fun p hp => ⟨(he p hp).ok, by have := bulkL_at R p hp; omega⟩⟩
  have GA := hide' (fun w' (hb : Below w.heap.size w w') => lAdd_is a ca L b cb M w' (hF.later hb) (fun p hp => ⟨(hokL p hp).later hb, by have := mL p hp; omega⟩) hca (by omega) tL (hG.later hb) (fun p hp => ⟨(hokM p hp).later hb, by have := mM p hp; omega⟩) hcb (by omega) tM)
  have GB := hide' (fun w' (hb : Below w.heap.size w w') => lAdd_is b cb M a ca L w' (hG.later hb) (fun p hp => ⟨(hokM p hp).later hb, by have := mM p hp; omega⟩) hcb (by omega) tM (hF.later hb) (fun p hp => ⟨(hokL p hp).later hb, by have := mL p hp; omega⟩) hca (by omega) tL)
  have GS := hide' (fun w' (hb : Below w.heap.size w w') a1 c1 (R : List Mo) (s1 : Sl w' a1 c1 R) (he : ∀ p ∈ R, Ent w' p) (hf : fo R = T1) => lSub_is a1 c1 R b cb M w' s1.lies (RT he hf).2.2 s1.len (by have := (RT he hf).1; omega) (by rw [hf]; exact tT) (hG.later hb) (fun p hp => ⟨(hokM p hp).later hb, by have := mM p hp; omega⟩) hcb (by omega) tM (by omega) (fun p hp => by have := mM p hp; omega))
  have GN := hide' (fun w' (hb : Below w.heap.size w w') => lNorm_is a ca L w' (hF.later hb) (fun p hp => (hokL p hp).later hb) hca (by omega) (fun p hp => by have := mL p hp; omega) tL)
  have r3 := rect3 (N := L.length + M.length) (c := C.n + C.m) hN
  have WX : ∀ (D : RatV) (w1 w2 : World) (X : List Mo), D.ok w1 → (∀ p ∈ X, p.2.ok w2) → X.length ≤ L.length + M.length → bulkL X ≤ 16777216 → D.n + D.m ≤ 2 * (C.n + C.m) + 8 → wts (fmap (fun r => D.val * r) (fo X)) + 1 ≤ 1099511627776 := fun D w1 w2 X hD hX hl hb hd => by
    have h1 := wts_scaleL hD X hX
    have h2 : X.length * (D.n + D.m + 3) ≤ (L.length + M.length) * (2 * (C.n + C.m) + 11) := Nat.mul_le_mul hl (by omega)
    omega
  have GX := hide' (fun (D : RatV) (w' : World) (hD : D.ok w') (a1 : Option Addr) (c1 : Nat) (X : List Mo) (h1 : FAt w' a1 X) (h2 : ∀ p ∈ X, p.2.ok w') (h3 : X.length ≤ c1) (hl : X.length ≤ L.length + M.length) (hb : bulkL X ≤ 16777216) (hd : D.n + D.m ≤ 2 * (C.n + C.m) + 8) => lScaleG_is D a1 c1 X (D.n + D.m + bulkL X) w' h1 h2 h3 (by omega) hD (fun p hp => by have := bulkL_at X p hp; omega) (by omega) (by omega) (WX D w' w' X hD h2 hl hb hd))
  have XL : L.length ≤ L.length + M.length ∧ bulkL L ≤ 16777216 := by omega
  have XM : M.length ≤ L.length + M.length ∧ bulkL M ≤ 16777216 := by omega
  have XC : C.n + C.m ≤ 2 * (C.n + C.m) + 8 := by omega
  -- what is scaled, added
  have tcL : thin (nfm (fmap (fun r => C.val * r) (fo L))) := thin_nfm (WX C w w L hC hokL XL.1 XL.2 XC)
  have tcM : thin (nfm (fmap (fun r => C.val * r) (fo M))) := thin_nfm (WX C w w M hC hokM XM.1 XM.2 XC)
  have lcL := nfm_length (fmap (fun r => C.val * r) (fo L))
  have lcM := nfm_length (fmap (fun r => C.val * r) (fo M))
  rw [fmap_length, fo_length] at lcL lcM
  have EO : ∀ {w' : World} {R : List Mo} {l : Fo}, (∀ p ∈ R, Ent w' p) → fo R = nfm l → thin (nfm l) → ∀ p ∈ R, p.2.ok w' ∧ p.2.m < 35184372087808 := fun {w' R l} he hf ht p hp => by
    have h1 := entS_thin he (show fo R = nfm (nfm l) by rw [← nfm_self (nfm_nrm l)]; exact hf) ht p hp
    exact ⟨h1.ent.ok, by have := h1.ln2; omega⟩
  have GD := hide' (fun (w' : World) a1 c1 (R1 : List Mo) a2 c2 (R2 : List Mo) (s1 : Sl w' a1 c1 R1) (he1 : ∀ p ∈ R1, Ent w' p) (hf1 : fo R1 = nfm (fmap (fun r => C.val * r) (fo L))) (s2 : Sl w' a2 c2 R2) (he2 : ∀ p ∈ R2, Ent w' p) (hf2 : fo R2 = nfm (fmap (fun r => C.val * r) (fo M))) =>
    lAdd_is a1 c1 R1 a2 c2 R2 w' s1.lies (EO he1 hf1 tcL) s1.len (by rw [← fo_length R1, hf1]; omega) (by rw [hf1]; exact tcL) s2.lies (EO he2 hf2 tcM) s2.len (by rw [← fo_length R2, hf2]; omega) (by rw [hf2]; exact tcM))
  have GE := hide' (fun (w' : World) (hb : Below w.heap.size w w') a1 c1 (R1 : List Mo) (s1 : Sl w' a1 c1 R1) (he1 : ∀ p ∈ R1, Ent w' p) (hf1 : fo R1 = nfm (fmap (fun r => C.val * r) (fo L))) =>
    lAdd_is a1 c1 R1 a ca L w' s1.lies (EO he1 hf1 tcL) s1.len (by rw [← fo_length R1, hf1]; omega) (by rw [hf1]; exact tcL) (hF.later hb) (fun p hp => ⟨(hokL p hp).later hb, by have := mL p hp; omega⟩) hca (by omega) tL)
  have H1 := hide' (show nfm (fo M ++ fo L) = T1 by rw [e1]; exact hT1)
  have H2 := hide' (show nfm (T1 ++ fmap (fun r => -r) (fo M)) = nfm (fo L) by rw [← hT1]; exact e2 _ _)
  have H3 := hide' (show nfm (nfm (fmap (fun r => C.val * r) (fo L)) ++ nfm (fmap (fun r => C.val * r) (fo M))) = nfm (fmap (fun r => C.val * r) T1) by rw [← hT1]; exact e3 _ _ _)
  have H4 := hide' (e4 C.val (fo L))
  have H0 := hide' hT1
  have lR : ∀ (R : List Mo), fo R = T1 → R.length ≤ 2097152 := fun R hf => by rw [← fo_length R, hf]; omega
  have HR := hide' lR
  have lN : (nfm (fo L)).length ≤ 2097152 := by have h := nfm_length (fo L); rw [fo_length] at h; omega
  have lS : (nfm (fmap (fun r => C.val * r) T1)).length ≤ 2097152 := by have h := nfm_length (fmap (fun r => C.val * r) T1); rw [fmap_length] at h; omega
  have lD : (nfm (fmap (fun r => (C.val + 1) * r) (fo L))).length ≤ 2097152 := by have h := nfm_length (fmap (fun r => (C.val + 1) * r) (fo L)); rw [fmap_length, fo_length] at h; omega
  have HL := hide' (And.intro lN (And.intro lS lD))
  have GXL := hide' (fun w' (hb : Below w.heap.size w w') => GX.out C w' (hC.later hb) a ca L (hF.later hb) (fun p hp => (hokL p hp).later hb) hca XL.1 XL.2 XC)
  have GXM := hide' (fun w' (hb : Below w.heap.size w w') => GX.out C w' (hC.later hb) b cb M (hG.later hb) (fun p hp => (hokM p hp).later hb) hcb XM.1 XM.2 XC)
  have GXR := hide' (fun w' (hb : Below w.heap.size w w') a1 c1 (R : List Mo) (s1 : Sl w' a1 c1 R) (he : ∀ p ∈ R, Ent w' p) (hf : fo R = T1) => GX.out C w' (hC.later hb) a1 c1 R s1.lies (fun p hp => (he p hp).ok) s1.len (RT he hf).1 (RT he hf).2.1 XC)
  have msz := more_sz hC
  have GXD' := fun w' (hb : Below w.heap.size w w') p q (k1 : Seg w' p (am (C.val + 1).num) (ln (am (C.val + 1).num))) (k2 : Seg w' q (C.val + 1).den (ln (C.val + 1).den)) => GX.out (RatV.of (C.val + 1).num (C.val + 1).den p q) w' ⟨k1, Nat.le_refl _, by show ln (am (C.val + 1).num) ≤ _; omega, k2, Nat.le_refl _, by show ln (C.val + 1).den ≤ _; omega⟩ a ca L (hF.later hb) (fun p hp => (hokL p hp).later hb) hca XL.1 XL.2 (by show ln (am (C.val + 1).num) + ln (C.val + 1).den ≤ _; omega)
  simp only [val_ofR] at GXD'
  have GW : ∀ w', Calls Tryz.prog 10 #[.int .i64 1] w' fun e w'' => ∃ p q, e = .returned (.agg #[.bool (ng (1 : Rat).num), .slice p (ln (am (1 : Rat).num)) (ln (am (1 : Rat).num)), .slice q (ln (1 : Rat).den) (ln (1 : Rat).den)]) ∧ New w' w'' p (am (1 : Rat).num) (ln (am (1 : Rat).num)) ∧ New w' w'' q (1 : Rat).den (ln (1 : Rat).den) := fun w' => vqWhole_is 1 w' (by omega) (by omega)
  have l1 : ln (am (1 : Rat).num) ≤ 2 := by show ln (am 1) ≤ _; rw [show am 1 = 1 from rfl, ln_one]; omega
  have l2 : ln (1 : Rat).den ≤ 2 := by show ln 1 ≤ _; rw [ln_one]; omega
  have GP' := fun w' p q (k1 : Seg w' C.a C.X C.n) (k2 : Seg w' C.b C.Y C.m) (k3 : Seg w' p (am (1 : Rat).num) (ln (am (1 : Rat).num))) (k4 : Seg w' q (1 : Rat).den (ln (1 : Rat).den)) => vqAdd_is C.s C.a C.n C.c C.X C.b C.m C.e C.Y (ng (1 : Rat).num) p (ln (am (1 : Rat).num)) (ln (am (1 : Rat).num)) (am (1 : Rat).num) q (ln (1 : Rat).den) (ln (1 : Rat).den) (1 : Rat).den (C.val + 1).num (C.val + 1).den w' hC.2.1 (by omega) k1 hC.2.2.2.2.1 (by omega) k2 (Nat.le_refl _) (by omega) k3 (Nat.le_refl _) (by omega) k4
    (by have h := low_add C (RatV.of (1 : Rat).num (1 : Rat).den p q); rw [val_ofR] at h; exact h)
  obtain ⟨D, hD⟩ : ∃ D, C.val + 1 = D := ⟨_, rfl⟩
  rw [hD] at GXD' GP' H4 HL
  obtain ⟨o, ho⟩ : ∃ o : Rat, 1 = o := ⟨_, rfl⟩
  rw [ho] at GW GP'
  replace GW := hide' GW
  have GP := hide' GP'
  have GXD := hide' GXD'
  have kC1 := hC.1
  have kC2 := hC.2.2.2.1
  clear hD ho l1 l2 GP' GXD' msz lR lN lS lD hT1 GX XL XM XC tcL tcM lcL lcM EO WX r3 RT tT wT lT mL mM tL tM wL wM hF hG hokL hokM hca hcb hC hN hBL
  go_enter Tryz.func3, Tryz.ntmps3
  go_wp2_with fail
  obtain ⟨wA, hwA⟩ : ∃ wA, w.alloc (.cells #[.bool C.s, .slice C.a C.n C.c, .slice C.b C.m C.e] 29) = wA := ⟨_, rfl⟩
  have hB : Below w.heap.size w wA := by subst hwA; exact below_alloc _
  have a0 : wA.cell? ⟨w.heap.size, 0, none⟩ = some (.bool C.s) := by subst hwA; go_simp
  have a1 : wA.cell? ⟨w.heap.size, 1, none⟩ = some (.slice C.a C.n C.c) := by subst hwA; go_simp
  have a2 : wA.cell? ⟨w.heap.size, 2, none⟩ = some (.slice C.b C.m C.e) := by subst hwA; go_simp
  rw [hwA]
  clear hwA
  replace kC1 := kC1.later hB
  replace kC2 := kC2.later hB
  refine (GA.out _ hB).mono ?_
  rintro e w1 ⟨x1, c1, R1, rfl, b1, s1, E1, f1⟩
  replace E1 : Ents w1 R1 := E1
  replace a0 := below_cell b1 a0
  replace a1 := below_cell b1 a1
  replace a2 := below_cell b1 a2
  replace kC1 := kC1.later b1
  replace kC2 := kC2.later b1
  replace hB := hB.trans (b1.mono hB.size)
  clear b1
  go_wp2_with fail
  rw [H0.out] at f1
  refine (GB.out _ hB).mono ?_
  rintro e w2 ⟨x2, c2, R2, rfl, b2, s2, E2, f2⟩
  replace E2 : Ents w2 R2 := E2
  replace a0 := below_cell b2 a0
  replace a1 := below_cell b2 a1
  replace a2 := below_cell b2 a2
  replace kC1 := kC1.later b2
  replace kC2 := kC2.later b2
  replace s1 := s1.later b2
  replace E1 := E1.later b2
  replace hB := hB.trans (b2.mono hB.size)
  clear b2
  go_wp2_with fail
  rw [H1.out] at f2
  refine (SameForm_is x1 c1 R1 x2 c2 R2 _ s1.lies s2.lies E1 E2 s1.len s2.len (by exact HR.out R1 f1) (by rw [f1, f2])).mono ?_
  rintro e w3 ⟨rfl, b3⟩
  replace a0 := below_cell b3 a0
  replace a1 := below_cell b3 a1
  replace a2 := below_cell b3 a2
  replace kC1 := kC1.later b3
  replace kC2 := kC2.later b3
  replace s1 := s1.later b3
  replace E1 := E1.later b3
  replace s2 := s2.later b3
  replace E2 := E2.later b3
  replace hB := hB.trans (b3.mono hB.size)
  clear b3
  clear s2 E2 f2
  go_wp2_with fail
  refine (GS.out _ hB x1 c1 R1 s1 E1 f1).mono ?_
  rintro e w4 ⟨x4, c4, R4, rfl, b4, s4, E4, f4⟩
  replace E4 : Ents w4 R4 := E4
  replace a0 := below_cell b4 a0
  replace a1 := below_cell b4 a1
  replace a2 := below_cell b4 a2
  replace kC1 := kC1.later b4
  replace kC2 := kC2.later b4
  replace s1 := s1.later b4
  replace E1 := E1.later b4
  replace hB := hB.trans (b4.mono hB.size)
  clear b4
  go_wp2_with fail
  rw [f1, H2.out] at f4
  refine (GN.out _ hB).mono ?_
  rintro e w5 ⟨x5, c5, R5, rfl, b5, s5, E5, f5⟩
  replace E5 : Ents w5 R5 := E5
  replace a0 := below_cell b5 a0
  replace a1 := below_cell b5 a1
  replace a2 := below_cell b5 a2
  replace kC1 := kC1.later b5
  replace kC2 := kC2.later b5
  replace s1 := s1.later b5
  replace E1 := E1.later b5
  replace s4 := s4.later b5
  replace E4 := E4.later b5
  replace hB := hB.trans (b5.mono hB.size)
  clear b5
  go_wp2_with fail
  refine (SameForm_is x4 c4 R4 x5 c5 R5 _ s4.lies s5.lies E4 E5 s4.len s5.len (by rw [← fo_length, f4]; exact HL.out.1) (by rw [f4, f5])).mono ?_
  rintro e w6 ⟨rfl, b6⟩
  replace a0 := below_cell b6 a0
  replace a1 := below_cell b6 a1
  replace a2 := below_cell b6 a2
  replace kC1 := kC1.later b6
  replace kC2 := kC2.later b6
  replace s1 := s1.later b6
  replace E1 := E1.later b6
  replace s4 := s4.later b6
  replace E4 := E4.later b6
  replace s5 := s5.later b6
  replace E5 := E5.later b6
  replace hB := hB.trans (b6.mono hB.size)
  clear b6
  clear s4 E4 f4
  clear s5 E5 f5
  clear GA GB GS GN
  go_wp2_with fail
  have bD : Below w6.heap.size w6 w6.drew := (Below.refl _ _).drew
  have ka0 := below_cell bD a0
  have ka1 := below_cell bD a1
  have ka2 := below_cell bD a2
  replace hB := hB.trans (bD.mono hB.size)
  replace kC1 := kC1.later bD
  replace kC2 := kC2.later bD
  replace s1 := s1.later bD
  replace E1 := E1.later bD
  replace a0 := below_cell bD a0
  replace a1 := below_cell bD a1
  replace a2 := below_cell bD a2
  refine wp_region_held_drew (S := fun w' => w'.cell? ⟨w.heap.size, 0, none⟩ = some (.bool C.s) ∧ w'.cell? ⟨w.heap.size, 1, none⟩ = some (.slice C.a C.n C.c) ∧ w'.cell? ⟨w.heap.size, 2, none⟩ = some (.slice C.b C.m C.e)) (by kernel_rfl) ⟨ka0, ka1, ka2⟩ (fun hHeld => ?_)
  clear ka0 ka1 ka2
  generalize w6.drew = w7 at bD kC1 kC2 s1 E1 a0 a1 a2 hB hHeld ⊢
  clear bD
  refine take' 0 (v := ?_) rfl (by kernel_rfl) (by kernel_rfl) (by kernel_rfl) (fun _ _ _ h => h) (Or.inl ⟨by rfl, ?_⟩) (by assumption) ?_
  rotate_left
  · intro w9 hSw
    go_simp
    first | done | with_reducible rfl
  simp only [Act.put, List.setIfInBounds_toArray, List.set_cons_zero, List.set_cons_succ]
  refine take' 1 (v := ?_) rfl (by kernel_rfl) (by kernel_rfl) (by kernel_rfl) (fun _ _ _ h => h) (Or.inl ⟨by rfl, ?_⟩) (by assumption) ?_
  rotate_left
  · intro w9 hSw
    go_simp
    first | done | with_reducible rfl
  simp only [Act.put, List.setIfInBounds_toArray, List.set_cons_zero, List.set_cons_succ]
  refine take' 3 (v := ?_) rfl (by kernel_rfl) (by kernel_rfl) (by kernel_rfl) (fun _ _ _ h => h) (Or.inl ⟨by rfl, ?_⟩) (by assumption) ?_
  rotate_left
  · intro w9 hSw
    go_simp
    first | done | with_reducible rfl
  simp only [Act.put, List.setIfInBounds_toArray, List.set_cons_zero, List.set_cons_succ]
  refine take' 4 (v := ?_) rfl (by kernel_rfl) (by kernel_rfl) (by kernel_rfl) (fun _ _ _ h => h) (Or.inl ⟨by rfl, ?_⟩) (by assumption) ?_
  rotate_left
  · intro w9 hSw
    go_simp
    first | done | with_reducible rfl
  simp only [Act.put, List.setIfInBounds_toArray, List.set_cons_zero, List.set_cons_succ]
  refine take' 6 (v := ?_) rfl (by kernel_rfl) (by kernel_rfl) (by kernel_rfl) (fun _ _ _ h => h) (Or.inl ⟨by rfl, ?_⟩) (by assumption) ?_
  rotate_left
  · intro w9 hSw
    go_simp
    first | done | with_reducible rfl
  simp only [Act.put, List.setIfInBounds_toArray, List.set_cons_zero, List.set_cons_succ]
  refine take' 7 (v := ?_) rfl (by kernel_rfl) (by kernel_rfl) (by kernel_rfl) (fun _ _ _ h => h) (Or.inl ⟨by rfl, ?_⟩) (by assumption) ?_
  rotate_left
  · intro w9 hSw
    go_simp
    first | done | with_reducible rfl
  simp only [Act.put, List.setIfInBounds_toArray, List.set_cons_zero, List.set_cons_succ]
  refine wpAnyH_ready (rs := [2]) (by kernel_rfl) (by simp) ?_
  refine cons' rfl (fun KK hKK => ?_)
  go_simp
  refine (GXR.out _ hB x1 c1 R1 s1 E1 f1).mono ?_
  rintro e w8 ⟨x8, c8, R8, rfl, bC, s8, E8, f8⟩
  replace E8 : Ents w8 R8 := E8
  replace hB := hB.trans (bC.mono hB.size)
  replace kC1 := kC1.later bC
  replace kC2 := kC2.later bC
  replace s1 := s1.later bC
  replace E1 := E1.later bC
  replace a0 := below_cell bC a0
  replace a1 := below_cell bC a1
  replace a2 := below_cell bC a2
  replace hHeld := (⟨below_cell bC hHeld.1, below_cell bC hHeld.2.1, below_cell bC hHeld.2.2⟩ : _ ∧ _ ∧ _)
  clear bC
  go_wp2_with fail
  refine hKK.out _ _ hHeld ?_
  clear hHeld
  intro hHeld
  clear hKK KK
  try simp only [Act.put, List.setIfInBounds_toArray, List.set_cons_zero, List.set_cons_succ]
  rw [f1] at f8
  refine wpAnyH_ready (rs := [5]) (by kernel_rfl) (by simp) ?_
  refine cons' rfl (fun KK hKK => ?_)
  go_simp
  refine (GXL.out _ hB).mono ?_
  rintro e w9 ⟨x9, c9, R9, rfl, bC, s9, E9, f9⟩
  replace E9 : Ents w9 R9 := E9
  replace hB := hB.trans (bC.mono hB.size)
  replace kC1 := kC1.later bC
  replace kC2 := kC2.later bC
  replace s1 := s1.later bC
  replace E1 := E1.later bC
  replace s8 := s8.later bC
  replace E8 := E8.later bC
  replace a0 := below_cell bC a0
  replace a1 := below_cell bC a1
  replace a2 := below_cell bC a2
  replace hHeld := (⟨below_cell bC hHeld.1, below_cell bC hHeld.2.1, below_cell bC hHeld.2.2⟩ : _ ∧ _ ∧ _)
  clear bC
  go_wp2_with fail
  refine hKK.out _ _ hHeld ?_
  clear hHeld
  intro hHeld
  clear hKK KK
  try simp only [Act.put, List.setIfInBounds_toArray, List.set_cons_zero, List.set_cons_succ]
  refine wpAnyH_ready (rs := [8]) (by kernel_rfl) (by simp) ?_
  refine cons' rfl (fun KK hKK => ?_)
  go_simp
  refine (GXM.out _ hB).mono ?_
  rintro e w10 ⟨x10, c10, R10, rfl, bC, s10, E10, f10⟩
  replace E10 : Ents w10 R10 := E10
  replace hB := hB.trans (bC.mono hB.size)
  replace kC1 := kC1.later bC
  replace kC2 := kC2.later bC
  replace s1 := s1.later bC
  replace E1 := E1.later bC
  replace s8 := s8.later bC
  replace E8 := E8.later bC
  replace s9 := s9.later bC
  replace E9 := E9.later bC
  replace a0 := below_cell bC a0
  replace a1 := below_cell bC a1
  replace a2 := below_cell bC a2
  replace hHeld := (⟨below_cell bC hHeld.1, below_cell bC hHeld.2.1, below_cell bC hHeld.2.2⟩ : _ ∧ _ ∧ _)
  clear bC
  go_wp2_with fail
  refine hKK.out _ _ hHeld ?_
  clear hHeld
  intro hHeld
  clear hKK KK
  try simp only [Act.put, List.setIfInBounds_toArray, List.set_cons_zero, List.set_cons_succ]
  refine wpAnyH_ready (rs := [9]) (by kernel_rfl) (by simp) ?_
  refine cons' rfl (fun KK hKK => ?_)
  go_simp
  refine (GD.out _ x9 c9 R9 x10 c10 R10 s9 E9 f9 s10 E10 f10).mono ?_
  rintro e w11 ⟨x11, c11, R11, rfl, bC, s11, E11, f11⟩
  replace E11 : Ents w11 R11 := E11
  replace hB := hB.trans (bC.mono hB.size)
  replace kC1 := kC1.later bC
  replace kC2 := kC2.later bC
  replace s1 := s1.later bC
  replace E1 := E1.later bC
  replace s8 := s8.later bC
  replace E8 := E8.later bC
  replace s9 := s9.later bC
  replace E9 := E9.later bC
  replace s10 := s10.later bC
  replace E10 := E10.later bC
  replace a0 := below_cell bC a0
  replace a1 := below_cell bC a1
  replace a2 := below_cell bC a2
  replace hHeld := (⟨below_cell bC hHeld.1, below_cell bC hHeld.2.1, below_cell bC hHeld.2.2⟩ : _ ∧ _ ∧ _)
  clear bC
  go_wp2_with fail
  refine hKK.out _ _ hHeld ?_
  clear hHeld
  intro hHeld
  clear hKK KK
  try simp only [Act.put, List.setIfInBounds_toArray, List.set_cons_zero, List.set_cons_succ]
  rw [f9, f10, H3.out] at f11
  refine wpAnyH_ready (rs := [10]) (by kernel_rfl) (by simp) ?_
  refine cons' rfl (fun KK hKK => ?_)
  go_simp
  refine (SameForm_is x8 c8 R8 x11 c11 R11 _ s8.lies s11.lies E8 E11 s8.len s11.len (by rw [← fo_length, f8]; exact HL.out.2.1) (by rw [f8, f11])).mono ?_
  rintro e w12 ⟨rfl, bC⟩
  replace hB := hB.trans (bC.mono hB.size)
  replace kC1 := kC1.later bC
  replace kC2 := kC2.later bC
  replace s1 := s1.later bC
  replace E1 := E1.later bC
  replace s8 := s8.later bC
  replace E8 := E8.later bC
  replace s9 := s9.later bC
  replace E9 := E9.later bC
  replace s10 := s10.later bC
  replace E10 := E10.later bC
  replace s11 := s11.later bC
  replace E11 := E11.later bC
  replace a0 := below_cell bC a0
  replace a1 := below_cell bC a1
  replace a2 := below_cell bC a2
  replace hHeld := (⟨below_cell bC hHeld.1, below_cell bC hHeld.2.1, below_cell bC hHeld.2.2⟩ : _ ∧ _ ∧ _)
  clear bC
  go_wp2_with fail
  refine hKK.out _ _ hHeld ?_
  clear hHeld
  intro hHeld
  clear hKK KK
  try simp only [Act.put, List.setIfInBounds_toArray, List.set_cons_zero, List.set_cons_succ]
  refine take' 11 (v := ?_) rfl (by kernel_rfl) (by kernel_rfl) (by kernel_rfl) (fun _ _ _ h => h) (Or.inl ⟨by rfl, ?_⟩) (by assumption) ?_
  rotate_left
  · intro w9 hSw
    go_simp
    first | done | with_reducible rfl
  simp only [Act.put, List.setIfInBounds_toArray, List.set_cons_zero, List.set_cons_succ]
  refine wpAnyH_done (by kernel_rfl) ?_ _
  clear s1 E1 f1 s8 E8 f8 s9 E9 f9 s10 E10 f10 s11 E11 f11 hHeld GXR GXM GD
  go_upto_region 6 with fail
  go_cut [8] from 39 to 41 (fun s8 wx => ∃ wv c p q, wv = wx ∧ s8 = .pointer (some ⟨c, 0, none⟩) ∧ Thr wx c (.bool (ng D.num)) (.slice p (ln (am D.num)) (ln (am D.num))) (.slice q (ln D.den) (ln D.den)) ∧ Below w12.heap.size w12 wx ∧ Seg wx p (am D.num) (ln (am D.num)) ∧ Seg wx q D.den (ln D.den))
  case first =>
    have bT : Below w12.heap.size w12 w12 := Below.refl _ _
    have hw12 : w.heap.size < w12.heap.size := World.block_lt_of_cell? w12 ⟨w.heap.size, 0, none⟩ a0
    have bD : Below w12.heap.size w12 w12.drew := (Below.refl _ _).drew
    have ka0 := below_cell bD a0
    have ka1 := below_cell bD a1
    have ka2 := below_cell bD a2
    replace bT := bT.trans (bD.mono bT.size)
    replace kC1 := kC1.later bD
    replace kC2 := kC2.later bD
    refine wp_region_held_drew (S := fun w' => w'.cell? ⟨w.heap.size, 0, none⟩ = some (.bool C.s) ∧ w'.cell? ⟨w.heap.size, 1, none⟩ = some (.slice C.a C.n C.c) ∧ w'.cell? ⟨w.heap.size, 2, none⟩ = some (.slice C.b C.m C.e)) (by kernel_rfl) ⟨ka0, ka1, ka2⟩ (fun hHeld => ?_)
    clear ka0 ka1 ka2
    generalize w12.drew = w13 at bD kC1 kC2 bT hHeld ⊢
    clear bD a0 a1 a2 hB
    refine take' 0 (v := ?_) rfl (by kernel_rfl) (by kernel_rfl) (by kernel_rfl) (fun _ _ _ h => h) (Or.inl ⟨by rfl, ?_⟩) (by assumption) ?_
    rotate_left
    · intro w9 hSw
      go_simp
      first | done | with_reducible rfl
    simp only [Act.put, List.setIfInBounds_toArray, List.set_cons_zero, List.set_cons_succ]
    refine wpAnyH_ready (rs := [1, 3]) (by kernel_rfl) (by simp) ?_
    refine consT rfl (fun KK hKK => ?_) ?_
    · skip
      go_simp
      refine (GW.out _).mono ?_
      rintro e w21 ⟨po, qo, rfl, n1, n2⟩
      have bC := n1.below
      have g1 := n1.seg
      have g2 := n2.seg
      clear n1 n2
      replace bT := bT.trans (bC.mono bT.size)
      replace kC1 := kC1.later bC
      replace kC2 := kC2.later bC
      replace hHeld := (⟨below_cell bC hHeld.1, below_cell bC hHeld.2.1, below_cell bC hHeld.2.2⟩ : _ ∧ _ ∧ _)
      clear bC
      go_wp2_with fail
      refine hKK.out _ _ hHeld ?_
      clear hHeld
      intro hHeld
      clear hKK KK
      try simp only [Act.put, List.setIfInBounds_toArray, List.set_cons_zero, List.set_cons_succ]
      refine wpAnyH_ready (rs := [2, 3]) (by kernel_rfl) (by simp) ?_
      refine consT rfl (fun KK hKK => ?_) ?_
      · skip
        go_simp
        refine (GP.out _ po qo kC1 kC2 g1 g2).mono ?_
        rintro e w22 ⟨p, q, rfl, n3, n4⟩
        have bC := n3.below
        have g3 := n3.seg
        have g4 := n4.seg
        clear n3 n4
        replace bT := bT.trans (bC.mono bT.size)
        replace kC1 := kC1.later bC
        replace kC2 := kC2.later bC
        replace g1 := g1.later bC
        replace g2 := g2.later bC
        replace hHeld := (⟨below_cell bC hHeld.1, below_cell bC hHeld.2.1, below_cell bC hHeld.2.2⟩ : _ ∧ _ ∧ _)
        clear bC
        go_wp2_with fail
        refine hKK.out _ _ hHeld ?_
        clear hHeld
        intro hHeld
        clear hKK KK
        try simp only [Act.put, List.setIfInBounds_toArray, List.set_cons_zero, List.set_cons_succ]
        refine wpAnyH_ready (rs := [3]) (by kernel_rfl) (by simp) ?_
        refine cons' rfl (fun KK hKK => ?_)
        go_simp
        have vN : Thr (w22.alloc (.cells #[.bool false, .slice none 0 0, .slice none 0 0] 29)) w22.heap.size (.bool false) (.slice none 0 0) (.slice none 0 0) := ⟨⟨by go_simp, by go_simp, by go_simp⟩, row_new w22 _ 29⟩
        have bA := below_alloc (w := w22) (.cells #[.bool false, .slice none 0 0, .slice none 0 0] 29)
        have hc9 : w12.heap.size ≤ w22.heap.size := bT.size
        generalize w22.alloc (.cells #[.bool false, .slice none 0 0, .slice none 0 0] 29) = w23 at vN bA ⊢
        replace bT := bT.trans (bA.mono bT.size)
        replace kC1 := kC1.later bA
        replace kC2 := kC2.later bA
        replace g1 := g1.later bA
        replace g2 := g2.later bA
        replace g3 := g3.later bA
        replace g4 := g4.later bA
        replace hHeld := (⟨below_cell bA hHeld.1, below_cell bA hHeld.2.1, below_cell bA hHeld.2.2⟩ : _ ∧ _ ∧ _)
        clear bA
        refine hKK.out _ _ hHeld ?_
        clear hHeld
        intro hHeld
        clear hKK KK
        try simp only [Act.put, List.setIfInBounds_toArray, List.set_cons_zero, List.set_cons_succ]
        obtain ⟨cc, hcc⟩ : ∃ cc, w22.heap.size = cc := ⟨_, rfl⟩
        rw [hcc] at vN hc9
        try rw [hcc]
        clear hcc
        refine wpAnyH_ready (rs := [4]) (by kernel_rfl) (by simp) ?_
        refine cons' rfl (fun KK hKK => ?_)
        have fz := fun o => vN.2.frozen o
        replace g3 := vN.seg (u0 := .bool (ng D.num)) (u1 := .slice p (ln (am D.num)) (ln (am D.num))) (u2 := .slice q (ln D.den) (ln D.den)) (by simp) (by simp) (by simp) g3
        replace g4 := vN.seg (u0 := .bool (ng D.num)) (u1 := .slice p (ln (am D.num)) (ln (am D.num))) (u2 := .slice q (ln D.den) (ln D.den)) (by simp) (by simp) (by simp) g4
        replace bT := below_set3 (u0 := .bool (ng D.num)) (u1 := .slice p (ln (am D.num)) (ln (am D.num))) (u2 := .slice q (ln D.den) (ln D.den)) bT hc9
        have hH2 := (⟨(set3_far (w := w23) (c := cc) (b := w.heap.size) (o := 0) (u0 := .bool (ng D.num)) (u1 := .slice p (ln (am D.num)) (ln (am D.num))) (u2 := .slice q (ln D.den) (ln D.den)) (by omega)).trans hHeld.1, (set3_far (w := w23) (c := cc) (b := w.heap.size) (o := 1) (u0 := .bool (ng D.num)) (u1 := .slice p (ln (am D.num)) (ln (am D.num))) (u2 := .slice q (ln D.den) (ln D.den)) (by omega)).trans hHeld.2.1, (set3_far (w := w23) (c := cc) (b := w.heap.size) (o := 2) (u0 := .bool (ng D.num)) (u1 := .slice p (ln (am D.num)) (ln (am D.num))) (u2 := .slice q (ln D.den) (ln D.den)) (by omega)).trans hHeld.2.2⟩ : _ ∧ _ ∧ _)
        have vN2 := vN.put (u0 := .bool (ng D.num)) (u1 := .slice p (ln (am D.num)) (ln (am D.num))) (u2 := .slice q (ln D.den) (ln D.den))
        have z0 := vN.1.1
        have z1 := vN.1.2.1
        have z2 := vN.1.2.2
        go_simp
        clear z0 z1 z2 vN fz
        refine hKK.out _ _ hH2 ?_
        clear hHeld
        intro hHeld
        clear hKK KK
        try simp only [Act.put, List.setIfInBounds_toArray, List.set_cons_zero, List.set_cons_succ]
        clear hH2
        refine wpAnyH_done (by kernel_rfl) ?_ _
        go_wp2_with fail
        go_meet
        exact ⟨_, cc, p, q, rfl, rfl, vN2, bT, g3, g4⟩
      refine consT rfl (fun KK hKK => ?_) ?_
      · skip
        go_simp
        have vN : Thr (w21.alloc (.cells #[.bool false, .slice none 0 0, .slice none 0 0] 29)) w21.heap.size (.bool false) (.slice none 0 0) (.slice none 0 0) := ⟨⟨by go_simp, by go_simp, by go_simp⟩, row_new w21 _ 29⟩
        have bA := below_alloc (w := w21) (.cells #[.bool false, .slice none 0 0, .slice none 0 0] 29)
        have hc9 : w12.heap.size ≤ w21.heap.size := bT.size
        generalize w21.alloc (.cells #[.bool false, .slice none 0 0, .slice none 0 0] 29) = w24 at vN bA ⊢
        replace bT := bT.trans (bA.mono bT.size)
        replace kC1 := kC1.later bA
        replace kC2 := kC2.later bA
        replace g1 := g1.later bA
        replace g2 := g2.later bA
        replace hHeld := (⟨below_cell bA hHeld.1, below_cell bA hHeld.2.1, below_cell bA hHeld.2.2⟩ : _ ∧ _ ∧ _)
        clear bA
        refine hKK.out _ _ hHeld ?_
        clear hHeld
        intro hHeld
        clear hKK KK
        try simp only [Act.put, List.setIfInBounds_toArray, List.set_cons_zero, List.set_cons_succ]
        obtain ⟨cc, hcc⟩ : ∃ cc, w21.heap.size = cc := ⟨_, rfl⟩
        rw [hcc] at vN hc9
        try rw [hcc]
        clear hcc
        refine wpAnyH_ready (rs := [2]) (by kernel_rfl) (by simp) ?_
        refine cons' rfl (fun KK hKK => ?_)
        go_simp
        refine (GP.out _ po qo kC1 kC2 g1 g2).mono ?_
        rintro e w25 ⟨p, q, rfl, n3, n4⟩
        have bC := n3.below
        have g3 := n3.seg
        have g4 := n4.seg
        clear n3 n4
        replace bT := bT.trans (bC.mono bT.size)
        replace kC1 := kC1.later bC
        replace kC2 := kC2.later bC
        replace g1 := g1.later bC
        replace g2 := g2.later bC
        replace vN := vN.later bC
        replace hHeld := (⟨below_cell bC hHeld.1, below_cell bC hHeld.2.1, below_cell bC hHeld.2.2⟩ : _ ∧ _ ∧ _)
        clear bC
        go_wp2_with fail
        refine hKK.out _ _ hHeld ?_
        clear hHeld
        intro hHeld
        clear hKK KK
        try simp only [Act.put, List.setIfInBounds_toArray, List.set_cons_zero, List.set_cons_succ]
        refine wpAnyH_ready (rs := [4]) (by kernel_rfl) (by simp) ?_
        refine cons' rfl (fun KK hKK => ?_)
        have fz := fun o => vN.2.frozen o
        replace g3 := vN.seg (u0 := .bool (ng D.num)) (u1 := .slice p (ln (am D.num)) (ln (am D.num))) (u2 := .slice q (ln D.den) (ln D.den)) (by simp) (by simp) (by simp) g3
        replace g4 := vN.seg (u0 := .bool (ng D.num)) (u1 := .slice p (ln (am D.num)) (ln (am D.num))) (u2 := .slice q (ln D.den) (ln D.den)) (by simp) (by simp) (by simp) g4
        replace bT := below_set3 (u0 := .bool (ng D.num)) (u1 := .slice p (ln (am D.num)) (ln (am D.num))) (u2 := .slice q (ln D.den) (ln D.den)) bT hc9
        have hH2 := (⟨(set3_far (w := w25) (c := cc) (b := w.heap.size) (o := 0) (u0 := .bool (ng D.num)) (u1 := .slice p (ln (am D.num)) (ln (am D.num))) (u2 := .slice q (ln D.den) (ln D.den)) (by omega)).trans hHeld.1, (set3_far (w := w25) (c := cc) (b := w.heap.size) (o := 1) (u0 := .bool (ng D.num)) (u1 := .slice p (ln (am D.num)) (ln (am D.num))) (u2 := .slice q (ln D.den) (ln D.den)) (by omega)).trans hHeld.2.1, (set3_far (w := w25) (c := cc) (b := w.heap.size) (o := 2) (u0 := .bool (ng D.num)) (u1 := .slice p (ln (am D.num)) (ln (am D.num))) (u2 := .slice q (ln D.den) (ln D.den)) (by omega)).trans hHeld.2.2⟩ : _ ∧ _ ∧ _)
        have vN2 := vN.put (u0 := .bool (ng D.num)) (u1 := .slice p (ln (am D.num)) (ln (am D.num))) (u2 := .slice q (ln D.den) (ln D.den))
        have z0 := vN.1.1
        have z1 := vN.1.2.1
        have z2 := vN.1.2.2
        go_simp
        clear z0 z1 z2 vN fz
        refine hKK.out _ _ hH2 ?_
        clear hHeld
        intro hHeld
        clear hKK KK
        try simp only [Act.put, List.setIfInBounds_toArray, List.set_cons_zero, List.set_cons_succ]
        clear hH2
        refine wpAnyH_done (by kernel_rfl) ?_ _
        go_wp2_with fail
        go_meet
        exact ⟨_, cc, p, q, rfl, rfl, vN2, bT, g3, g4⟩
      exact AllReadyH.nil
    refine consT rfl (fun KK hKK => ?_) ?_
    · skip
      go_simp
      have vN : Thr (w13.alloc (.cells #[.bool false, .slice none 0 0, .slice none 0 0] 29)) w13.heap.size (.bool false) (.slice none 0 0) (.slice none 0 0) := ⟨⟨by go_simp, by go_simp, by go_simp⟩, row_new w13 _ 29⟩
      have bA := below_alloc (w := w13) (.cells #[.bool false, .slice none 0 0, .slice none 0 0] 29)
      have hc9 : w12.heap.size ≤ w13.heap.size := bT.size
      generalize w13.alloc (.cells #[.bool false, .slice none 0 0, .slice none 0 0] 29) = w26 at vN bA ⊢
      replace bT := bT.trans (bA.mono bT.size)
      replace kC1 := kC1.later bA
      replace kC2 := kC2.later bA
      replace hHeld := (⟨below_cell bA hHeld.1, below_cell bA hHeld.2.1, below_cell bA hHeld.2.2⟩ : _ ∧ _ ∧ _)
      clear bA
      refine hKK.out _ _ hHeld ?_
      clear hHeld
      intro hHeld
      clear hKK KK
      try simp only [Act.put, List.setIfInBounds_toArray, List.set_cons_zero, List.set_cons_succ]
      obtain ⟨cc, hcc⟩ : ∃ cc, w13.heap.size = cc := ⟨_, rfl⟩
      rw [hcc] at vN hc9
      try rw [hcc]
      clear hcc
      refine wpAnyH_ready (rs := [1]) (by kernel_rfl) (by simp) ?_
      refine cons' rfl (fun KK hKK => ?_)
      go_simp
      refine (GW.out _).mono ?_
      rintro e w27 ⟨po, qo, rfl, n1, n2⟩
      have bC := n1.below
      have g1 := n1.seg
      have g2 := n2.seg
      clear n1 n2
      replace bT := bT.trans (bC.mono bT.size)
      replace kC1 := kC1.later bC
      replace kC2 := kC2.later bC
      replace vN := vN.later bC
      replace hHeld := (⟨below_cell bC hHeld.1, below_cell bC hHeld.2.1, below_cell bC hHeld.2.2⟩ : _ ∧ _ ∧ _)
      clear bC
      go_wp2_with fail
      refine hKK.out _ _ hHeld ?_
      clear hHeld
      intro hHeld
      clear hKK KK
      try simp only [Act.put, List.setIfInBounds_toArray, List.set_cons_zero, List.set_cons_succ]
      refine wpAnyH_ready (rs := [2]) (by kernel_rfl) (by simp) ?_
      refine cons' rfl (fun KK hKK => ?_)
      go_simp
      refine (GP.out _ po qo kC1 kC2 g1 g2).mono ?_
      rintro e w28 ⟨p, q, rfl, n3, n4⟩
      have bC := n3.below
      have g3 := n3.seg
      have g4 := n4.seg
      clear n3 n4
      replace bT := bT.trans (bC.mono bT.size)
      replace kC1 := kC1.later bC
      replace kC2 := kC2.later bC
      replace vN := vN.later bC
      replace g1 := g1.later bC
      replace g2 := g2.later bC
      replace hHeld := (⟨below_cell bC hHeld.1, below_cell bC hHeld.2.1, below_cell bC hHeld.2.2⟩ : _ ∧ _ ∧ _)
      clear bC
      go_wp2_with fail
      refine hKK.out _ _ hHeld ?_
      clear hHeld
      intro hHeld
      clear hKK KK
      try simp only [Act.put, List.setIfInBounds_toArray, List.set_cons_zero, List.set_cons_succ]
      refine wpAnyH_ready (rs := [4]) (by kernel_rfl) (by simp) ?_
      refine cons' rfl (fun KK hKK => ?_)
      have fz := fun o => vN.2.frozen o
      replace g3 := vN.seg (u0 := .bool (ng D.num)) (u1 := .slice p (ln (am D.num)) (ln (am D.num))) (u2 := .slice q (ln D.den) (ln D.den)) (by simp) (by simp) (by simp) g3
      replace g4 := vN.seg (u0 := .bool (ng D.num)) (u1 := .slice p (ln (am D.num)) (ln (am D.num))) (u2 := .slice q (ln D.den) (ln D.den)) (by simp) (by simp) (by simp) g4
      replace bT := below_set3 (u0 := .bool (ng D.num)) (u1 := .slice p (ln (am D.num)) (ln (am D.num))) (u2 := .slice q (ln D.den) (ln D.den)) bT hc9
      have hH2 := (⟨(set3_far (w := w28) (c := cc) (b := w.heap.size) (o := 0) (u0 := .bool (ng D.num)) (u1 := .slice p (ln (am D.num)) (ln (am D.num))) (u2 := .slice q (ln D.den) (ln D.den)) (by omega)).trans hHeld.1, (set3_far (w := w28) (c := cc) (b := w.heap.size) (o := 1) (u0 := .bool (ng D.num)) (u1 := .slice p (ln (am D.num)) (ln (am D.num))) (u2 := .slice q (ln D.den) (ln D.den)) (by omega)).trans hHeld.2.1, (set3_far (w := w28) (c := cc) (b := w.heap.size) (o := 2) (u0 := .bool (ng D.num)) (u1 := .slice p (ln (am D.num)) (ln (am D.num))) (u2 := .slice q (ln D.den) (ln D.den)) (by omega)).trans hHeld.2.2⟩ : _ ∧ _ ∧ _)
      have vN2 := vN.put (u0 := .bool (ng D.num)) (u1 := .slice p (ln (am D.num)) (ln (am D.num))) (u2 := .slice q (ln D.den) (ln D.den))
      have z0 := vN.1.1
      have z1 := vN.1.2.1
      have z2 := vN.1.2.2
      go_simp
      clear z0 z1 z2 vN fz
      refine hKK.out _ _ hH2 ?_
      clear hHeld
      intro hHeld
      clear hKK KK
      try simp only [Act.put, List.setIfInBounds_toArray, List.set_cons_zero, List.set_cons_succ]
      clear hH2
      refine wpAnyH_done (by kernel_rfl) ?_ _
      go_wp2_with fail
      go_meet
      exact ⟨_, cc, p, q, rfl, rfl, vN2, bT, g3, g4⟩
    exact AllReadyH.nil
  case rest =>
    clear GW GP kC1 kC2
    obtain ⟨wv, cb9, p, q, hwv, rfl, ⟨⟨v0, v1, v2⟩, vR⟩, bT, g1, g2⟩ := hcut
    subst hwv
    replace a0 := below_cell bT a0
    replace a1 := below_cell bT a1
    replace a2 := below_cell bT a2
    replace hB := hB.trans (bT.mono hB.size)
    clear bT vR
    go_wp2_with fail
    have bD : Below wv.heap.size wv wv.drew := (Below.refl _ _).drew
    have ka0 := below_cell bD a0
    have ka1 := below_cell bD a1
    have ka2 := below_cell bD a2
    have kv0 := below_cell bD v0
    have kv1 := below_cell bD v1
    have kv2 := below_cell bD v2
    replace hB := hB.trans (bD.mono hB.size)
    replace g1 := g1.later bD
    replace g2 := g2.later bD
    refine wp_region_held_drew (S := fun w' => w'.cell? ⟨w.heap.size, 0, none⟩ = some (.bool C.s) ∧ w'.cell? ⟨w.heap.size, 1, none⟩ = some (.slice C.a C.n C.c) ∧ w'.cell? ⟨w.heap.size, 2, none⟩ = some (.slice C.b C.m C.e) ∧ w'.cell? ⟨cb9, 0, none⟩ = some (.bool (ng D.num)) ∧ w'.cell? ⟨cb9, 1, none⟩ = some (.slice p (ln (am D.num)) (ln (am D.num))) ∧ w'.cell? ⟨cb9, 2, none⟩ = some (.slice q (ln D.den) (ln D.den))) (by kernel_rfl) ⟨ka0, ka1, ka2, kv0, kv1, kv2⟩ (fun hHeld => ?_)
    clear ka0 ka1 ka2 kv0 kv1 kv2
    generalize wv.drew = w30 at bD g1 g2 hB hHeld ⊢
    clear bD a0 a1 a2 v0 v1 v2
    refine take' 0 (v := ?_) rfl (by kernel_rfl) (by kernel_rfl) (by kernel_rfl) (fun _ _ _ h => h) (Or.inl ⟨by rfl, ?_⟩) (by assumption) ?_
    rotate_left
    · intro w9 hSw
      go_simp
      first | done | with_reducible rfl
    simp only [Act.put, List.setIfInBounds_toArray, List.set_cons_zero, List.set_cons_succ]
    refine take' 1 (v := ?_) rfl (by kernel_rfl) (by kernel_rfl) (by kernel_rfl) (fun _ _ _ h => h) (Or.inl ⟨by rfl, ?_⟩) (by assumption) ?_
    rotate_left
    · intro w9 hSw
      go_simp
      first | done | with_reducible rfl
    simp only [Act.put, List.setIfInBounds_toArray, List.set_cons_zero, List.set_cons_succ]
    refine take' 3 (v := ?_) rfl (by kernel_rfl) (by kernel_rfl) (by kernel_rfl) (fun _ _ _ h => h) (Or.inl ⟨by rfl, ?_⟩) (by assumption) ?_
    rotate_left
    · intro w9 hSw
      go_simp
      first | done | with_reducible rfl
    simp only [Act.put, List.setIfInBounds_toArray, List.set_cons_zero, List.set_cons_succ]
    refine take' 4 (v := ?_) rfl (by kernel_rfl) (by kernel_rfl) (by kernel_rfl) (fun _ _ _ h => h) (Or.inl ⟨by rfl, ?_⟩) (by assumption) ?_
    rotate_left
    · intro w9 hSw
      go_simp
      first | done | with_reducible rfl
    simp only [Act.put, List.setIfInBounds_toArray, List.set_cons_zero, List.set_cons_succ]
    refine take' 6 (v := ?_) rfl (by kernel_rfl) (by kernel_rfl) (by kernel_rfl) (fun _ _ _ h => h) (Or.inl ⟨by rfl, ?_⟩) (by assumption) ?_
    rotate_left
    · intro w9 hSw
      go_simp
      first | done | with_reducible rfl
    simp only [Act.put, List.setIfInBounds_toArray, List.set_cons_zero, List.set_cons_succ]
    refine wpAnyH_ready (rs := [2]) (by kernel_rfl) (by simp) ?_
    refine cons' rfl (fun KK hKK => ?_)
    go_simp
    refine (GXD.out _ hB p q g1 g2).mono ?_
    rintro e w31 ⟨x31, c31, R31, rfl, bC, s31, E31, f31⟩
    replace E31 : Ents w31 R31 := E31
    replace hB := hB.trans (bC.mono hB.size)
    replace g1 := g1.later bC
    replace g2 := g2.later bC
    replace hHeld := (⟨below_cell bC hHeld.1, below_cell bC hHeld.2.1, below_cell bC hHeld.2.2.1, below_cell bC hHeld.2.2.2.1, below_cell bC hHeld.2.2.2.2.1, below_cell bC hHeld.2.2.2.2.2⟩ : _ ∧ _ ∧ _ ∧ _ ∧ _ ∧ _)
    clear bC
    go_wp2_with fail
    refine hKK.out _ _ hHeld ?_
    clear hHeld
    intro hHeld
    clear hKK KK
    try simp only [Act.put, List.setIfInBounds_toArray, List.set_cons_zero, List.set_cons_succ]
    refine wpAnyH_ready (rs := [5]) (by kernel_rfl) (by simp) ?_
    refine cons' rfl (fun KK hKK => ?_)
    go_simp
    refine (GXL.out _ hB).mono ?_
    rintro e w32 ⟨x32, c32, R32, rfl, bC, s32, E32, f32⟩
    replace E32 : Ents w32 R32 := E32
    replace hB := hB.trans (bC.mono hB.size)
    replace g1 := g1.later bC
    replace g2 := g2.later bC
    replace s31 := s31.later bC
    replace E31 := E31.later bC
    replace hHeld := (⟨below_cell bC hHeld.1, below_cell bC hHeld.2.1, below_cell bC hHeld.2.2.1, below_cell bC hHeld.2.2.2.1, below_cell bC hHeld.2.2.2.2.1, below_cell bC hHeld.2.2.2.2.2⟩ : _ ∧ _ ∧ _ ∧ _ ∧ _ ∧ _)
    clear bC
    go_wp2_with fail
    refine hKK.out _ _ hHeld ?_
    clear hHeld
    intro hHeld
    clear hKK KK
    try simp only [Act.put, List.setIfInBounds_toArray, List.set_cons_zero, List.set_cons_succ]
    refine wpAnyH_ready (rs := [7]) (by kernel_rfl) (by simp) ?_
    refine cons' rfl (fun KK hKK => ?_)
    go_simp
    refine (GE.out _ hB x32 c32 R32 s32 E32 f32).mono ?_
    rintro e w33 ⟨x33, c33, R33, rfl, bC, s33, E33, f33⟩
    replace E33 : Ents w33 R33 := E33
    replace hB := hB.trans (bC.mono hB.size)
    replace g1 := g1.later bC
    replace g2 := g2.later bC
    replace s31 := s31.later bC
    replace E31 := E31.later bC
    replace s32 := s32.later bC
    replace E32 := E32.later bC
    replace hHeld := (⟨below_cell bC hHeld.1, below_cell bC hHeld.2.1, below_cell bC hHeld.2.2.1, below_cell bC hHeld.2.2.2.1, below_cell bC hHeld.2.2.2.2.1, below_cell bC hHeld.2.2.2.2.2⟩ : _ ∧ _ ∧ _ ∧ _ ∧ _ ∧ _)
    clear bC
    go_wp2_with fail
    refine hKK.out _ _ hHeld ?_
    clear hHeld
    intro hHeld
    clear hKK KK
    try simp only [Act.put, List.setIfInBounds_toArray, List.set_cons_zero, List.set_cons_succ]
    rw [f32, H4.out] at f33
    refine wpAnyH_ready (rs := [8]) (by kernel_rfl) (by simp) ?_
    refine cons' rfl (fun KK hKK => ?_)
    go_simp
    refine (SameForm_is x31 c31 R31 x33 c33 R33 _ s31.lies s33.lies E31 E33 s31.len s33.len (by rw [← fo_length, f31]; exact HL.out.2.2) (by rw [f31, f33])).mono ?_
    rintro e w34 ⟨rfl, bC⟩
    replace hB := hB.trans (bC.mono hB.size)
    replace g1 := g1.later bC
    replace g2 := g2.later bC
    replace s31 := s31.later bC
    replace E31 := E31.later bC
    replace s32 := s32.later bC
    replace E32 := E32.later bC
    replace s33 := s33.later bC
    replace E33 := E33.later bC
    replace hHeld := (⟨below_cell bC hHeld.1, below_cell bC hHeld.2.1, below_cell bC hHeld.2.2.1, below_cell bC hHeld.2.2.2.1, below_cell bC hHeld.2.2.2.2.1, below_cell bC hHeld.2.2.2.2.2⟩ : _ ∧ _ ∧ _ ∧ _ ∧ _ ∧ _)
    clear bC
    go_wp2_with fail
    refine hKK.out _ _ hHeld ?_
    clear hHeld
    intro hHeld
    clear hKK KK
    try simp only [Act.put, List.setIfInBounds_toArray, List.set_cons_zero, List.set_cons_succ]
    refine take' 9 (v := ?_) rfl (by kernel_rfl) (by kernel_rfl) (by kernel_rfl) (fun _ _ _ h => h) (Or.inl ⟨by rfl, ?_⟩) (by assumption) ?_
    rotate_left
    · intro w9 hSw
      go_simp
      first | done | with_reducible rfl
    simp only [Act.put, List.setIfInBounds_toArray, List.set_cons_zero, List.set_cons_succ]
    refine wpAnyH_ready (rs := [10]) (by kernel_rfl) (by simp) ?_
    refine cons' rfl (fun KK hKK => ?_)
    go_simp
    refine (awake_is _).mono ?_
    rintro e w35 ⟨rfl, bC⟩
    replace hB := hB.trans (bC.mono hB.size)
    replace g1 := g1.later bC
    replace g2 := g2.later bC
    replace s31 := s31.later bC
    replace E31 := E31.later bC
    replace s32 := s32.later bC
    replace E32 := E32.later bC
    replace s33 := s33.later bC
    replace E33 := E33.later bC
    replace hHeld := (⟨below_cell bC hHeld.1, below_cell bC hHeld.2.1, below_cell bC hHeld.2.2.1, below_cell bC hHeld.2.2.2.1, below_cell bC hHeld.2.2.2.2.1, below_cell bC hHeld.2.2.2.2.2⟩ : _ ∧ _ ∧ _ ∧ _ ∧ _ ∧ _)
    go_wp2_with fail
    refine hKK.out _ _ hHeld ?_
    clear hHeld
    intro hHeld
    clear hKK KK
    try simp only [Act.put, List.setIfInBounds_toArray, List.set_cons_zero, List.set_cons_succ]
    refine take' 11 (v := ?_) rfl (by kernel_rfl) (by kernel_rfl) (by kernel_rfl) (fun _ _ _ h => h) (Or.inl ⟨by rfl, ?_⟩) (by assumption) ?_
    rotate_left
    · intro w9 hSw
      go_simp
      first | done | with_reducible rfl
    simp only [Act.put, List.setIfInBounds_toArray, List.set_cons_zero, List.set_cons_succ]
    refine take' 12 (v := ?_) rfl (by kernel_rfl) (by kernel_rfl) (by kernel_rfl) (fun _ _ _ h => h) (Or.inl ⟨by rfl, ?_⟩) (by assumption) ?_
    rotate_left
    · intro w9 hSw
      go_simp
      first | done | with_reducible rfl
    simp only [Act.put, List.setIfInBounds_toArray, List.set_cons_zero, List.set_cons_succ]
    refine wpAnyH_done (by kernel_rfl) ?_ _
    go_wp2
    go_ret
    exact ⟨rfl, hB⟩
theorem bulkL_mos (v : Nat → Int) (f : Nat → RatV) : ∀ n, bulkL (mos v f n) = bulkV f n + n
  | 0 => rfl
  | n + 1 => by
    have ih := bulkL_mos v f n
    have e : mos v f (n + 1) = mos v f n ++ [(v n, f n)] := by unfold mos; rw [List.range_succ, List.map_append]; rfl
    have ha : ∀ (A B : List Mo), bulkL (A ++ B) = bulkL A + bulkL B := fun A B => by
      induction A with
      | nil => simp [bulkL]
      | cons p A ih => simp only [List.cons_append, bulkL, ih]; omega
    rw [e, ha, ih]
    simp only [bulkL, bulkV]
    omega
theorem walk (af : Option Addr) (n capf : Nat) (v : Nat → Int) (f : Nat → RatV) (ag : Option Addr) (m capg : Nat) (v2 : Nat → Int) (g : Nat → RatV) (C : RatV) (w : World) (hF : FormAt w af n v f) (hfo : ∀ i, i < n → (Lit.int .i64 (v i)).wf = true ∧ (f i).ok w) (hcf : n ≤ capf) (hG : FormAt w ag m v2 g) (hgo : ∀ i, i < m → (Lit.int .i64 (v2 i)).wf = true ∧ (g i).ok w) (hcg : m ≤ capg) (hC : C.ok w) (hb : bulkV f n + bulkV g m + (C.n + C.m) ≤ 1048576) :
    Calls Tryz.prog 3 #[.slice af n capf, .slice ag m capg, .agg #[.bool C.s, .slice C.a C.n C.c, .slice C.b C.m C.e]] w fun e w' => e = .returned (.bool true) ∧ Below w.heap.size w w' := by
  have b1 := bulk_n (q := f) n
  have b2 := bulk_n (q := g) m
  have h := walkL af capf (mos v f n) ag capg (mos v2 g m) C w (mos_at hF) (mos_at hG) (fun p hp => by obtain ⟨i, hi, rfl⟩ := mos_mem hp; exact (hfo i hi).2) (fun p hp => by obtain ⟨i, hi, rfl⟩ := mos_mem hp; exact (hgo i hi).2) (by rw [mos_length]; exact hcf) (by rw [mos_length]; exact hcg) hC (by rw [mos_length, mos_length]; omega) (by rw [bulkL_mos, bulkL_mos]; omega)
  rw [mos_length, mos_length] at h
  exact h

set_option maxRecDepth 100000 in
theorem contract (H : Type) (enc : TypeId × Value → H) (W : World) (base : Nat) (args : Array Value) (ds gs : List (DataW H)) (before : List MemPlace)
    (hval : ∀ (j : Nat) t v, Tryz.f3.params[j]? = some t → args[j]? = some v → Value.okWide Tryz.prog W .any base t v)
    (hW : DataW.Whole enc Tryz.prog Tryz.f3.params.toList Rows.linearModuleSpec.vars false W args.toList ds gs before)
    (hsz : (DataW.weightsEach Tryz.prog (Tryz.f3.params.toList ++ Rows.linearModuleSpec.plain.varTypes Tryz.prog) (ds ++ gs)).all (· ≤ reachBytes) = true) (hk : Rows.uptoSmall H (ds ++ gs) = true) :
    Calls Tryz.prog 3 args W fun e W' => ∃ v, e = .returned v ∧ Rows.linearModuleSpec.post enc Tryz.prog Tryz.f3 false true false false W args v W' := by
  have hW' := hW
  obtain ⟨p, q, hA0, hV, rfl, hfz, hnd⟩ := hW
  have hA : DataW.TrodAll enc Tryz.prog W 0 (fun _ => true) true Tryz.f3.params.toList args.toList ds p := hA0
  rw [Tryz.params3] at hA hval hsz
  obtain ⟨v0, vs0, d0, ds0, p0, q0, hargs, rfl, rfl, h0, r0⟩ := trodAll_cons hA
  obtain ⟨v1, vs1, d1, ds1, p1, q1, rfl, rfl, rfl, h1, r1⟩ := trodAll_cons r0
  obtain ⟨v2, vs2, d2, ds2, p2, q2, rfl, rfl, rfl, h2, r2⟩ := trodAll_cons r1
  obtain ⟨rfl, rfl, rfl⟩ := trodAll_nil r2
  obtain rfl : args = #[v0, v1, v2] := by cases args; simp_all
  obtain ⟨rfl, rfl⟩ := trodVars_none hV
  have lt0 : ∀ x ∈ p0, x.block < W.heap.size := by obtain ⟨m, hm⟩ := h0; exact DataW.trod_lt m _ _ _ hm
  obtain ⟨xa0, xl0, xc0, rfl⟩ := okWide_slice Tryz.underlying23 (hval 0 23 v0 rfl rfl)
  obtain ⟨fu0, hm0⟩ := id h0
  obtain ⟨fa0, fn0, fc0, fv0, ff0, hcs0, hF0, hfo0, hfc0, hfz0, hfu0⟩ := open_Form hm0 (sized_at 0 hsz rfl rfl)
  simp [Value.cells] at hcs0
  obtain ⟨rfl, rfl, rfl⟩ := hcs0
  have lt1 : ∀ x ∈ p1, x.block < W.heap.size := by obtain ⟨m, hm⟩ := h1; exact DataW.trod_lt m _ _ _ hm
  obtain ⟨xa1, xl1, xc1, rfl⟩ := okWide_slice Tryz.underlying23 (hval 1 23 v1 rfl rfl)
  obtain ⟨fu1, hm1⟩ := id h1
  obtain ⟨fa1, fn1, fc1, fv1, ff1, hcs1, hF1, hfo1, hfc1, hfz1, hfu1⟩ := open_Form hm1 (sized_at 1 hsz rfl rfl)
  simp [Value.cells] at hcs1
  obtain ⟨rfl, rfl, rfl⟩ := hcs1
  have lt2 : ∀ x ∈ p2, x.block < W.heap.size := by obtain ⟨m, hm⟩ := h2; exact DataW.trod_lt m _ _ _ hm
  obtain ⟨qv2, rfl, hqo2, hqu2⟩ := open_RatV (hval 2 29 v2 rfl rfl) h2 (sized_at 2 hsz rfl rfl)
  clear hA0
  have hbulk := of_decide_eq_true hk
  simp only [List.append_nil, Rows.uptoBulkAll] at hbulk
  simp only [List.append_nil] at hW'
  refine (walk xa0 xl0 xc0 fv0 ff0 xa1 xl1 xc1 fv1 ff1 qv2 W hF0 hfo0 hfc0 hF1 hfo1 hfc1 hqo2 (by omega)).mono fun e W' ⟨he, bel⟩ => ?_
  subst he
  exact ⟨_, rfl, _, _, _, [], _, [], hW', trodAll_mk1 (shut_bool Tryz.underlying4 _), (trodAll_cons_mk (Below.trod laidOut (by kernel_rfl) (of_decide_eq_true (by kernel_rfl)) h0 bel lt0) (trodAll_cons_mk (Below.trod laidOut (by kernel_rfl) (of_decide_eq_true (by kernel_rfl)) h1 bel lt1) (trodAll_cons_mk (Below.trod laidOut (by kernel_rfl) (of_decide_eq_true (by kernel_rfl)) h2 bel lt2) trodAll_mk0))), rfl, bel.frame _, fun h => by cases h⟩

set_option maxRecDepth 100000 in
theorem lifted (os : Os) (started : os.Started) (H : Type) (enc : TypeId × Value → H) (F : Stop.Interp) :
    ReturnsInHanded {} Tryz.checked os 3 .any ((Rows.OpenSpec.upto Rows.linearModuleSpec).pre6 enc Tryz.prog Tryz.f3 Rows.linearModuleUptoRow.domain false) (((Rows.OpenSpec.upto Rows.linearModuleSpec).at F).post enc Tryz.prog Tryz.f3 false true false false) := by
  refine returnsInHanded_of_cond_sized (C := Tryz.checked) (s := Rows.OpenSpec.upto Rows.linearModuleSpec) (k := Rows.uptoSmall) rfl own started (by kernel_rfl) Tryz.func3
    (OpenSpec.witness (enc := enc) (C := Tryz.checked) (s := Rows.OpenSpec.upto Rows.linearModuleSpec) (k := Rows.uptoSmall) rfl false ⟨#[], #[.slice none 0 0, .slice none 0 0, .agg #[.bool false, .slice none 0 0, .slice none 0 0]], []⟩ 8 (by kernel_rfl) (by kernel_rfl) (by kernel_rfl)
      (x := ([.nil, .nil, .agg [.agg [.lit (.bool false), .nil], .nil]], [], [])) (by kernel_rfl) rfl (by kernel_rfl)) ?_
  intro W base args ds gs before hval hW _ hk hsz _
  exact contract H enc W base args ds gs before hval hW hsz hk

theorem over : Rows.linearModuleUptoRow.holds Tryz.pinned (Rows.OpenSpec.upto Rows.linearModuleSpec) :=
  OpenClaim.holds_of_cond 3 Tryz.f3 rfl rfl rfl rfl rfl rfl rfl ⟨rfl, rfl, rfl, rfl, rfl⟩ rfl rfl rfl rfl rfl (by kernel_rfl) Tryz.func3 (by kernel_rfl)
    (of_decide_eq_true (by kernel_rfl)) (by unfold Func.isWrapper; first | (rw [if_pos (by decide +kernel)]; kernel_rfl) | (rw [if_neg (by decide +kernel)]; exact ⟨rfl, rfl⟩))
    (fun os started H enc _ F => lifted os started H enc F)

end Go.Proofs.YtfjobigkfbdegaaGreat.linearModule
namespace Go.Proofs.YtfjobigkfbdegaaGreat
theorem linearModule_holds : Rows.LinearModuleUptoSaid := linearModule.over
#print axioms linearModule_holds
end Go.Proofs.YtfjobigkfbdegaaGreat
