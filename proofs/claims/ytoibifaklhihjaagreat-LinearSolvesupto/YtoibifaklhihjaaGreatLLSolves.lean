/-
  LinearSolves.
-/
import Derived.Test.YtoibifaklhihjaaGreatWN12
import Derived.Test.YtoibifaklhihjaaGreatWN21
import Derived.Test.YtoibifaklhihjaaGreatOpenA
import Derived.Test.YtoibifaklhihjaaGreatWQ7
namespace Go.Proofs.YtoibifaklhihjaaGreat.linearSolves
open Go.ChangeShapes Go.WideShapes Go.ChangeAt Go.RowKit Go.Proofs.YtoibifaklhihjaaGreat
set_option linter.unusedVariables false
set_option linter.unusedSimpArgs false

theorem ent_ns {w : World} {R : List Mo} {l : Fo} {N : Nat} (hE : ∀ p ∈ R, Ent w p) (hR : fo R = nfm l) (hs : ∀ x, sz N (co x l)) : ∀ p ∈ R, p.2.n ≤ N ∧ p.2.m ≤ N := by
  intro p hp
  have h1 : (p.1, p.2.val) ∈ fo R := List.mem_map.2 ⟨p, hp, rfl⟩
  have h2 : co p.1 (fo R) = p.2.val := (show nrm (fo R) by rw [hR]; exact nfm_nrm l).co_mem h1
  rw [hR, nfm_co] at h2
  have h3 := hs p.1
  rw [h2] at h3
  obtain ⟨e1, e2⟩ := low_ns (hE p hp).low
  exact ⟨by rw [e1]; exact h3.1, by rw [e2]; exact h3.2⟩
set_option maxHeartbeats 8000000 in
set_option maxRecDepth 100000 in
theorem walk0 (a : Option Addr) (ca : Nat) (L : List Mo) (D : RatV) (x : Int) (w : World) (hF : FAt w a L) (hok : ∀ p ∈ L, p.2.ok w ∧ p.2.m < 35184372087808) (hc : L.length ≤ ca) (hm : L.length ≤ 1048576) (hD : D.ok w) (hb : bulkL L + D.n + D.m ≤ 4194304) (h0 : co x (fo L) = 0) :
    Calls Tryz.prog 3 #[.agg #[.slice a L.length ca, .bool D.s, .slice D.a D.n D.c, .slice D.b D.m D.e], .int .i64 x] w fun e w' => e = .returned (.bool true) ∧ Below w.heap.size w w' := by
  have hs : sz 4194305 (co x (fo L)) := (co_sz x (fo L)).mono (by have := wts_bulk L (fun p hp => (hok p hp).1); omega)
  have G2 := hide' (fun w' (hb9 : Below w.heap.size w w') => lCoef_is a ca L x w' (hF.later hb9) (fun p hp => And.intro ((hok p hp).1.later hb9) (hok p hp).2) hc hm (by have := bulkL_mine x L; omega))
  have G1 := hide' (fun w' (hb9 : Below w.heap.size w w') => lSolve_zero a ca L D x w' (hF.later hb9) (fun p hp => And.intro ((hok p hp).1.later hb9) (hok p hp).2) hc hm (by omega) (hs.mono (by omega)) h0)
  obtain ⟨r, hr⟩ : ∃ r, co x (fo L) = r := ⟨_, rfl⟩
  rw [hr] at hs h0 G2
  have G3 := hide' (fun w' p q k1 k2 => vqSign_is (ng r.num) p (ln (am r.num)) (ln (am r.num)) (am r.num) q (ln r.den) (ln r.den) r.den 0 w' (Nat.le_refl _) (Nat.le_trans hs.1 (by omega)) k1 (Nat.le_refl _) (Nat.le_trans hs.2 (by omega)) k2 (by rw [rn_nf r.den_pos]; rw [h0]; rfl))
  clear hF hok hc hm hD hb hs h0 hr
  go_enter Tryz.func3, Tryz.ntmps3
  go_wp2_with fail
  obtain ⟨wA, hwA⟩ : ∃ wA, w.alloc (.cells #[.slice a L.length ca, .bool D.s, .slice D.a D.n D.c, .slice D.b D.m D.e] 31) = wA := ⟨_, rfl⟩
  have hB : Below w.heap.size w wA := by subst hwA; exact below_alloc _
  have mm0 : wA.cell? ⟨w.heap.size, 0, none⟩ = some (.slice a L.length ca) := by subst hwA; go_simp
  have mm1 : wA.cell? ⟨w.heap.size, 1, none⟩ = some (.bool D.s) := by subst hwA; go_simp
  have mm2 : wA.cell? ⟨w.heap.size, 2, none⟩ = some (.slice D.a D.n D.c) := by subst hwA; go_simp
  have mm3 : wA.cell? ⟨w.heap.size, 3, none⟩ = some (.slice D.b D.m D.e) := by subst hwA; go_simp
  rw [hwA]
  clear hwA
  refine (G1.out _ hB).mono ?_
  rintro e w1 ⟨rfl, b1⟩
  replace mm0 := below_cell b1 mm0
  replace mm1 := below_cell b1 mm1
  replace mm2 := below_cell b1 mm2
  replace mm3 := below_cell b1 mm3
  replace hB := hB.trans (b1.mono hB.size)
  clear b1
  have bE := below_alloc (w := w1) (.cells #[.slice none 0 0, .bool false, .slice none 0 0, .slice none 0 0] 31)
  replace mm0 := below_cell bE mm0
  replace mm1 := below_cell bE mm1
  replace mm2 := below_cell bE mm2
  replace mm3 := below_cell bE mm3
  replace hB := hB.trans (bE.mono hB.size)
  clear bE
  go_wp2_with fail
  refine (G2.out _ hB).mono ?_
  rintro e w2 ⟨p, q, rfl, b2, g1, g2⟩
  replace mm0 := below_cell b2 mm0
  replace mm1 := below_cell b2 mm1
  replace mm2 := below_cell b2 mm2
  replace mm3 := below_cell b2 mm3
  replace hB := hB.trans (b2.mono hB.size)
  clear b2
  go_wp2_with fail
  refine (G3.out _ p q g1 g2).mono ?_
  rintro e w3 ⟨rfl, b3⟩
  replace mm0 := below_cell b3 mm0
  replace mm1 := below_cell b3 mm1
  replace mm2 := below_cell b3 mm2
  replace mm3 := below_cell b3 mm3
  replace hB := hB.trans (b3.mono hB.size)
  clear b3 g1 g2
  go_wp2_with fail
  refine (awake_is _).mono ?_
  rintro e w4 ⟨rfl, b4⟩
  go_wp2
  go_ret
  exact ⟨rfl, hB.trans (b4.mono hB.size)⟩
set_option maxHeartbeats 8000000 in
set_option maxRecDepth 100000 in
theorem walk1 (a : Option Addr) (ca : Nat) (L : List Mo) (D : RatV) (x : Int) (w : World) (hF : FAt w a L) (hok : ∀ p ∈ L, p.2.ok w ∧ p.2.m < 35184372087808) (hc : L.length ≤ ca) (hm : L.length ≤ 1048576) (hD : D.ok w) (hb : bulkL L + D.n + D.m ≤ 4194304) (h0 : co x (fo L) ≠ 0) :
    Calls Tryz.prog 3 #[.agg #[.slice a L.length ca, .bool D.s, .slice D.a D.n D.c, .slice D.b D.m D.e], .int .i64 x] w fun e w' => e = .returned (.bool true) ∧ Below w.heap.size w w' := by
  have hs : sz 4194305 (co x (fo L)) := (co_sz x (fo L)).mono (by have := wts_bulk L (fun p hp => (hok p hp).1); omega)
  have G2 := hide' (fun w' (hb9 : Below w.heap.size w w') => lCoef_is a ca L x w' (hF.later hb9) (fun p hp => And.intro ((hok p hp).1.later hb9) (hok p hp).2) hc hm (by have := bulkL_mine x L; omega))
  have G1 := hide' (fun w' (hb9 : Below w.heap.size w w') => lSolve_is a ca L D x w' (hF.later hb9) (fun p hp => And.intro ((hok p hp).1.later hb9) (hok p hp).2) hc hm (hD.later hb9) hb h0)
  have hwo := Nat.le_trans (wts_bulk (oth x L) (fun p hp => (hok p (oth_mem hp)).1)) (bulkL_oth x L)
  have hmo : (oth x L).length ≤ 1048576 := Nat.le_trans (List.length_filter_le _ _) hm
  have GS := hide' (fun w' (hb9 : Below w.heap.size w w') b cb G E => lSubst_is a ca L D x b cb G E w' (hF.later hb9) (fun p hp => And.intro ((hok p hp).1.later hb9) (hok p hp).2) hc hm (hD.later hb9) hb)
  obtain ⟨d1, d2⟩ := norm_sz hD
  have hsd : sz 4194305 D.val := ⟨by omega, by omega⟩
  obtain ⟨lo, hlo⟩ : ∃ lo, fo (oth x L) = lo := ⟨_, rfl⟩
  have hcx := co_oth x L
  rw [hlo] at hcx hwo G1 GS
  have hml : lo.length ≤ 1048576 := by rw [← hlo, fo_length]; exact hmo
  obtain ⟨r, hr⟩ : ∃ r, co x (fo L) = r := ⟨_, rfl⟩
  rw [hr] at hs h0 G1 G2 GS
  have hsu : sz 4194305 (-r)⁻¹ := sz_inv (sz_neg hs) (fun e => h0 (by rw [← Rat.neg_neg r, e]; rfl))
  have hC0 : ¬ sgn r.num = 0 := fun e => h0 (Rat.num_eq_zero.1 (by revert e; unfold sgn; intro e; split at e <;> (try split at e) <;> omega))
  obtain ⟨C, hC⟩ : ∃ C, sgn r.num = C := ⟨_, rfl⟩
  rw [hC] at hC0
  have G3 := hide' (fun w' p q k1 k2 => vqSign_is (ng r.num) p (ln (am r.num)) (ln (am r.num)) (am r.num) q (ln r.den) (ln r.den) r.den C w' (Nat.le_refl _) (Nat.le_trans hs.1 (by omega)) k1 (Nat.le_refl _) (Nat.le_trans hs.2 (by omega)) k2 (by rw [rn_nf r.den_pos]; exact hC))
  have hss : sz 8388610 ((-r)⁻¹ * D.val) := sz_mul hsu hsd
  have hst : ∀ y, sz 8388610 (co y (fmap (fun r9 => (-r)⁻¹ * r9) lo)) := fun y => by rw [co_scale]; exact (sz_mul hsu (co_sz y lo)).mono (by omega)
  have hzz : D.val + r * ((-r)⁻¹ * D.val) = 0 := solved_const h0
  obtain ⟨s, hS⟩ : ∃ s, (-r)⁻¹ * D.val = s := ⟨_, rfl⟩
  rw [hS] at hss hzz G1
  have HS := hide' (And.intro hs (And.intro hwo (And.intro hml (And.intro hss (And.intro hst (And.intro hzz (And.intro h0 hcx)))))))
  clear hF hok hc hm hD hb hs h0 hr hC hwo hmo hlo hml hss hst hzz hcx hS hsu hsd d1 d2
  go_enter Tryz.func3, Tryz.ntmps3
  go_wp2_with fail
  obtain ⟨wA, hwA⟩ : ∃ wA, w.alloc (.cells #[.slice a L.length ca, .bool D.s, .slice D.a D.n D.c, .slice D.b D.m D.e] 31) = wA := ⟨_, rfl⟩
  have hB : Below w.heap.size w wA := by subst hwA; exact below_alloc _
  have mm0 : wA.cell? ⟨w.heap.size, 0, none⟩ = some (.slice a L.length ca) := by subst hwA; go_simp
  have mm1 : wA.cell? ⟨w.heap.size, 1, none⟩ = some (.bool D.s) := by subst hwA; go_simp
  have mm2 : wA.cell? ⟨w.heap.size, 2, none⟩ = some (.slice D.a D.n D.c) := by subst hwA; go_simp
  have mm3 : wA.cell? ⟨w.heap.size, 3, none⟩ = some (.slice D.b D.m D.e) := by subst hwA; go_simp
  rw [hwA]
  clear hwA
  refine (G1.out _ hB).mono ?_
  rintro e w1 ⟨a1, c1, R1, p1, q1, rfl, b1, s1, E1, f1, g1, g2⟩
  replace E1 : Ents w1 R1 := E1
  replace mm0 := below_cell b1 mm0
  replace mm1 := below_cell b1 mm1
  replace mm2 := below_cell b1 mm2
  replace mm3 := below_cell b1 mm3
  replace hB := hB.trans (b1.mono hB.size)
  clear b1
  obtain ⟨wE, hwE⟩ : ∃ wE, w1.alloc (.cells #[.slice a1 R1.length c1, .bool (ng s.num), .slice p1 (ln (am s.num)) (ln (am s.num)), .slice q1 (ln s.den) (ln s.den)] 31) = wE := ⟨_, rfl⟩
  have bE : Below w1.heap.size w1 wE := by subst hwE; exact below_alloc _
  have y0 : wE.cell? ⟨w1.heap.size, 0, none⟩ = some (.slice a1 R1.length c1) := by subst hwE; go_simp
  have y1 : wE.cell? ⟨w1.heap.size, 1, none⟩ = some (.bool (ng s.num)) := by subst hwE; go_simp
  have y2 : wE.cell? ⟨w1.heap.size, 2, none⟩ = some (.slice p1 (ln (am s.num)) (ln (am s.num))) := by subst hwE; go_simp
  have y3 : wE.cell? ⟨w1.heap.size, 3, none⟩ = some (.slice q1 (ln s.den) (ln s.den)) := by subst hwE; go_simp
  replace mm0 := below_cell bE mm0
  replace mm1 := below_cell bE mm1
  replace mm2 := below_cell bE mm2
  replace mm3 := below_cell bE mm3
  replace s1 := s1.later bE
  replace E1 := E1.later bE
  replace g1 := g1.later bE
  replace g2 := g2.later bE
  replace hB := hB.trans (bE.mono hB.size)
  clear bE
  obtain ⟨hs, hwo, hml, hss, hst, hzz, h0, hcx⟩ := HS.out
  have hns := ent_ns E1 f1 hst
  have hRl : R1.length ≤ 1048576 := by have h := nfm_length (fmap (fun r9 => (-r)⁻¹ * r9) lo); rw [← f1, fo_length, fmap_length] at h; omega
  have hnf : nrm (fo R1) := by rw [f1]; exact nfm_nrm _
  have hc9 : co x (fo R1) = 0 := by rw [f1, nfm_co, co_scale, hcx, Rat.mul_zero]
  have hfn : fine (fmap (fun r9 => r * r9) (fo R1)) := fine_nrm hnf (fun y => by rw [f1, nfm_co]; exact hst y) (by omega) hs (by omega)
  have hEo : (RatV.of s.num s.den p1 q1).ok wE := ⟨g1, Nat.le_refl _, Nat.le_trans hss.1 (by omega), g2, Nat.le_refl _, Nat.le_trans hss.2 (by omega)⟩
  have hn1 : (RatV.of s.num s.den p1 q1).n ≤ 8388610 := hss.1
  have hn2 : (RatV.of s.num s.den p1 q1).m ≤ 8388610 := hss.2
  have G4 := hide' (fun w' (hb8 : Below w.heap.size w w') (hb9 : Below wE.heap.size wE w') => GS.out w' hb8 a1 c1 R1 (RatV.of s.num s.den p1 q1) (s1.lies.later hb9) (fun p hp => (E1 p hp).ok.later hb9) s1.len hRl (fun p hp => by have := hns p hp; omega) (hEo.later hb9) (by omega) hfn)
  rw [val_ofR, hzz, solved h0 f1] at G4
  have G5 := hide' (fun w' (hb9 : Below wE.heap.size wE w') => lCoef_is a1 c1 R1 x w' (s1.lies.later hb9) (fun p hp => And.intro ((E1 p hp).ok.later hb9) (by have := hns p hp; omega)) s1.len hRl (by rw [mine_none hnf hc9]; show (0 : Nat) + 1 ≤ _; omega))
  rw [hc9] at G5
  obtain ⟨z, hz⟩ : ∃ z : Rat, 0 = z := ⟨_, rfl⟩
  rw [hz] at G4 G5
  have hsz : sz 1 z := by rw [← hz]; exact sz_zero 1 (Nat.le_refl _)
  have G6 := hide' (fun w' p q k1 k2 => vqSign_is (ng z.num) p (ln (am z.num)) (ln (am z.num)) (am z.num) q (ln z.den) (ln z.den) z.den 0 w' (Nat.le_refl _) (Nat.le_trans hsz.1 (by omega)) k1 (Nat.le_refl _) (Nat.le_trans hsz.2 (by omega)) k2 (by rw [rn_nf z.den_pos]; rw [← hz]; rfl))
  clear s1 E1 g1 g2 hs hwo hml hss hst hzz h0 hcx hns hRl hnf hc9 hfn hEo hn1 hn2 GS HS f1 hz hsz G1
  have bW : Below wE.heap.size wE wE := Below.refl _ _
  go_wp2_with fail
  clear hwE
  refine (G2.out _ hB).mono ?_
  rintro e w2 ⟨p, q, rfl, b2, g1, g2⟩
  replace mm0 := below_cell b2 mm0
  replace mm1 := below_cell b2 mm1
  replace mm2 := below_cell b2 mm2
  replace mm3 := below_cell b2 mm3
  replace y0 := below_cell b2 y0
  replace y1 := below_cell b2 y1
  replace y2 := below_cell b2 y2
  replace y3 := below_cell b2 y3
  replace hB := hB.trans (b2.mono hB.size)
  replace bW := bW.trans (b2.mono bW.size)
  clear b2
  go_wp2_with fail
  refine (G3.out _ p q g1 g2).mono ?_
  rintro e w3 ⟨rfl, b3⟩
  clear g1 g2
  replace mm0 := below_cell b3 mm0
  replace mm1 := below_cell b3 mm1
  replace mm2 := below_cell b3 mm2
  replace mm3 := below_cell b3 mm3
  replace y0 := below_cell b3 y0
  replace y1 := below_cell b3 y1
  replace y2 := below_cell b3 y2
  replace y3 := below_cell b3 y3
  replace hB := hB.trans (b3.mono hB.size)
  replace bW := bW.trans (b3.mono bW.size)
  clear b3
  go_wp2_with fail
  refine (G4.out _ hB bW).mono ?_
  rintro e w4 ⟨a5, c5, R5, p5, q5, rfl, b4, s5, E5, f5, g5, g6⟩
  obtain rfl : R5 = [] := by have h := congrArg List.length f5; rw [fo_length] at h; exact List.length_eq_zero_iff.1 h
  rw [show ([] : List Mo).length = 0 from rfl]
  clear s5 E5 f5
  replace mm0 := below_cell b4 mm0
  replace mm1 := below_cell b4 mm1
  replace mm2 := below_cell b4 mm2
  replace mm3 := below_cell b4 mm3
  replace y0 := below_cell b4 y0
  replace y1 := below_cell b4 y1
  replace y2 := below_cell b4 y2
  replace y3 := below_cell b4 y3
  replace hB := hB.trans (b4.mono hB.size)
  replace bW := bW.trans (b4.mono bW.size)
  clear b4
  obtain ⟨wF, hwF⟩ : ∃ wF, w4.alloc (.cells #[.slice a5 0 c5, .bool (ng z.num), .slice p5 (ln (am z.num)) (ln (am z.num)), .slice q5 (ln z.den) (ln z.den)] 31) = wF := ⟨_, rfl⟩
  have bF : Below w4.heap.size w4 wF := by subst hwF; exact below_alloc _
  have o0 : wF.cell? ⟨w4.heap.size, 0, none⟩ = some (.slice a5 0 c5) := by subst hwF; go_simp
  have o1 : wF.cell? ⟨w4.heap.size, 1, none⟩ = some (.bool (ng z.num)) := by subst hwF; go_simp
  have o2 : wF.cell? ⟨w4.heap.size, 2, none⟩ = some (.slice p5 (ln (am z.num)) (ln (am z.num))) := by subst hwF; go_simp
  have o3 : wF.cell? ⟨w4.heap.size, 3, none⟩ = some (.slice q5 (ln z.den) (ln z.den)) := by subst hwF; go_simp
  replace g5 := g5.later bF
  replace g6 := g6.later bF
  replace mm0 := below_cell bF mm0
  replace mm1 := below_cell bF mm1
  replace mm2 := below_cell bF mm2
  replace mm3 := below_cell bF mm3
  replace y0 := below_cell bF y0
  replace y1 := below_cell bF y1
  replace y2 := below_cell bF y2
  replace y3 := below_cell bF y3
  replace hB := hB.trans (bF.mono hB.size)
  replace bW := bW.trans (bF.mono bW.size)
  clear bF
  go_wp2_with fail
  clear hwF
  refine (G5.out _ bW).mono ?_
  rintro e w6 ⟨p6, q6, rfl, b6, k1, k2⟩
  replace o0 := below_cell b6 o0
  replace o1 := below_cell b6 o1
  replace o2 := below_cell b6 o2
  replace o3 := below_cell b6 o3
  replace g5 := g5.later b6
  replace g6 := g6.later b6
  replace mm0 := below_cell b6 mm0
  replace mm1 := below_cell b6 mm1
  replace mm2 := below_cell b6 mm2
  replace mm3 := below_cell b6 mm3
  replace y0 := below_cell b6 y0
  replace y1 := below_cell b6 y1
  replace y2 := below_cell b6 y2
  replace y3 := below_cell b6 y3
  replace hB := hB.trans (b6.mono hB.size)
  replace bW := bW.trans (b6.mono bW.size)
  clear b6
  go_wp2_with fail
  refine (G6.out _ p6 q6 k1 k2).mono ?_
  rintro e w7 ⟨rfl, b7⟩
  clear k1 k2
  replace o0 := below_cell b7 o0
  replace o1 := below_cell b7 o1
  replace o2 := below_cell b7 o2
  replace o3 := below_cell b7 o3
  replace g5 := g5.later b7
  replace g6 := g6.later b7
  replace mm0 := below_cell b7 mm0
  replace mm1 := below_cell b7 mm1
  replace mm2 := below_cell b7 mm2
  replace mm3 := below_cell b7 mm3
  replace y0 := below_cell b7 y0
  replace y1 := below_cell b7 y1
  replace y2 := below_cell b7 y2
  replace y3 := below_cell b7 y3
  replace hB := hB.trans (b7.mono hB.size)
  replace bW := bW.trans (b7.mono bW.size)
  clear b7
  go_wp2_with fail
  refine (G6.out _ p5 q5 g5 g6).mono ?_
  rintro e w8 ⟨rfl, b8⟩
  go_wp2
  go_ret
  exact ⟨rfl, hB.trans (b8.mono hB.size)⟩
theorem bulkL_mos (v : Nat → Int) (f : Nat → RatV) : ∀ n, bulkL (mos v f n) = bulkV f n + n
  | 0 => rfl
  | n + 1 => by
    unfold mos
    rw [List.range_succ, List.map_append, bulkL_append]
    have h := bulkL_mos v f n
    unfold mos at h
    rw [h]
    simp only [List.map, bulkL, bulkV]
    omega
theorem walk (af : Option Addr) (n capf : Nat) (v : Nat → Int) (f : Nat → RatV) (D : RatV) (x : Int) (w : World) (hF : FormAt w af n v f) (hfo : ∀ i, i < n → (Lit.int .i64 (v i)).wf = true ∧ (f i).ok w) (hcf : n ≤ capf) (hD : D.ok w) (h1 : -9223372036854775808 ≤ x) (h2 : x < 9223372036854775808) (hb : bulkV f n + D.n + D.m ≤ 1048576) :
    Calls Tryz.prog 3 #[.agg #[.slice af n capf, .bool D.s, .slice D.a D.n D.c, .slice D.b D.m D.e], .int .i64 x] w fun e w' => e = .returned (.bool true) ∧ Below w.heap.size w w' := by
  have b1 := bulk_n (q := f) n
  have hbm := bulkL_mos v f n
  have hk : ∀ p ∈ mos v f n, p.2.ok w ∧ p.2.m < 35184372087808 := fun p hp => by
    obtain ⟨i, hi, rfl⟩ := mos_mem hp
    have := bulk_at (q := f) n i hi
    exact ⟨(hfo i hi).2, by show (f i).m < _; omega⟩
  have hc : (mos v f n).length ≤ capf := by rw [mos_length]; exact hcf
  have hm : (mos v f n).length ≤ 1048576 := by rw [mos_length]; omega
  have h := (Classical.em (co x (fo (mos v f n)) = 0)).elim (fun h0 => walk0 af capf (mos v f n) D x w (mos_at hF) hk hc hm hD (by omega) h0) (fun h0 => walk1 af capf (mos v f n) D x w (mos_at hF) hk hc hm hD (by omega) h0)
  rw [mos_length] at h
  exact h

set_option maxRecDepth 100000 in
theorem contract (H : Type) (enc : TypeId × Value → H) (W : World) (base : Nat) (args : Array Value) (ds gs : List (DataW H)) (before : List MemPlace)
    (hval : ∀ (j : Nat) t v, Tryz.f3.params[j]? = some t → args[j]? = some v → Value.okWide Tryz.prog W .any base t v)
    (hW : DataW.Whole enc Tryz.prog Tryz.f3.params.toList Rows.linearSolvesSpec.vars false W args.toList ds gs before)
    (hsz : (DataW.weightsEach Tryz.prog (Tryz.f3.params.toList ++ Rows.linearSolvesSpec.plain.varTypes Tryz.prog) (ds ++ gs)).all (· ≤ reachBytes) = true) (hk : Rows.uptoSmall H (ds ++ gs) = true) :
    Calls Tryz.prog 3 args W fun e W' => ∃ v, e = .returned v ∧ Rows.linearSolvesSpec.post enc Tryz.prog Tryz.f3 false true false false W args v W' := by
  have hW' := hW
  obtain ⟨p, q, hA0, hV, rfl, hfz, hnd⟩ := hW
  have hA : DataW.TrodAll enc Tryz.prog W 0 (fun _ => true) true Tryz.f3.params.toList args.toList ds p := hA0
  rw [Tryz.params3] at hA hval hsz
  obtain ⟨v0, vs0, d0, ds0, p0, q0, hargs, rfl, rfl, h0, r0⟩ := trodAll_cons hA
  obtain ⟨v1, vs1, d1, ds1, p1, q1, rfl, rfl, rfl, h1, r1⟩ := trodAll_cons r0
  obtain ⟨rfl, rfl, rfl⟩ := trodAll_nil r1
  obtain rfl : args = #[v0, v1] := by cases args; simp_all
  obtain ⟨rfl, rfl⟩ := trodVars_none hV
  have lt0 : ∀ x ∈ p0, x.block < W.heap.size := by obtain ⟨m, hm⟩ := h0; exact DataW.trod_lt m _ _ _ hm
  obtain ⟨xa0, xl0, xc0, fv0, ff0, qv0, rfl, hF0, hfo0, hfc0, hqo0, hfu0⟩ := open_Affine (hval 0 31 v0 rfl rfl) h0 (sized_at 0 hsz rfl rfl)
  obtain ⟨z1, rfl, rfl, rfl, w1⟩ := open_int Tryz.underlying3 (hval 1 3 v1 rfl rfl) h1
  have bz1 := bounds_i64 w1
  clear hA0
  have hbulk := of_decide_eq_true hk
  simp only [List.append_nil, Rows.uptoBulkAll] at hbulk
  simp only [List.append_nil] at hW'
  refine (walk xa0 xl0 xc0 fv0 ff0 qv0 z1 W hF0 hfo0 hfc0 hqo0 (by omega) (by omega) (by omega)).mono fun e W' ⟨he, bel⟩ => ?_
  subst he
  exact ⟨_, rfl, _, _, _, [], _, [], hW', trodAll_mk1 (shut_bool Tryz.underlying4 _), (trodAll_cons_mk (Below.trod laidOut (by kernel_rfl) (of_decide_eq_true (by kernel_rfl)) h0 bel lt0) (trodAll_cons_mk (shut_int Tryz.underlying3 w1) trodAll_mk0)), rfl, bel.frame _, fun h => by cases h⟩

set_option maxRecDepth 100000 in
theorem lifted (os : Os) (started : os.Started) (H : Type) (enc : TypeId × Value → H) (F : Stop.Interp) :
    ReturnsInHanded {} Tryz.checked os 3 .any ((Rows.OpenSpec.upto Rows.linearSolvesSpec).pre6 enc Tryz.prog Tryz.f3 Rows.linearSolvesUptoRow.domain false) (((Rows.OpenSpec.upto Rows.linearSolvesSpec).at F).post enc Tryz.prog Tryz.f3 false true false false) := by
  refine returnsInHanded_of_cond_sized (C := Tryz.checked) (s := Rows.OpenSpec.upto Rows.linearSolvesSpec) (k := Rows.uptoSmall) rfl own started (by kernel_rfl) Tryz.func3
    (OpenSpec.witness (enc := enc) (C := Tryz.checked) (s := Rows.OpenSpec.upto Rows.linearSolvesSpec) (k := Rows.uptoSmall) rfl false ⟨#[], #[.agg #[.slice none 0 0, .bool false, .slice none 0 0, .slice none 0 0], .int .i64 0], []⟩ 8 (by kernel_rfl) (by kernel_rfl) (by kernel_rfl)
      (x := ([.agg [.nil, .agg [.agg [.lit (.bool false), .nil], .nil]], .lit (.int .i64 0)], [], [])) (by kernel_rfl) rfl (by kernel_rfl)) ?_
  intro W base args ds gs before hval hW _ hk hsz _
  exact contract H enc W base args ds gs before hval hW hsz hk

theorem over : Rows.linearSolvesUptoRow.holds Tryz.pinned (Rows.OpenSpec.upto Rows.linearSolvesSpec) :=
  OpenClaim.holds_of_cond 3 Tryz.f3 rfl rfl rfl rfl rfl rfl rfl ⟨rfl, rfl, rfl, rfl, rfl⟩ rfl rfl rfl rfl rfl (by kernel_rfl) Tryz.func3 (by kernel_rfl)
    (of_decide_eq_true (by kernel_rfl)) (by unfold Func.isWrapper; first | (rw [if_pos (by decide +kernel)]; kernel_rfl) | (rw [if_neg (by decide +kernel)]; exact ⟨rfl, rfl⟩))
    (fun os started H enc _ F => lifted os started H enc F)

end Go.Proofs.YtoibifaklhihjaaGreat.linearSolves
namespace Go.Proofs.YtoibifaklhihjaaGreat
theorem linearSolves_holds : Rows.LinearSolvesUptoSaid := linearSolves.over
#print axioms linearSolves_holds
end Go.Proofs.YtoibifaklhihjaaGreat
