/-
  LinearPuts.
-/
import Derived.Test.YthpakdmfbbmbiaaGreatWOD
namespace Go.Proofs.YthpakdmfbbmbiaaGreat.linearPuts
open Go.ChangeShapes Go.WideShapes Go.ChangeAt Go.RowKit Go.Proofs.YthpakdmfbbmbiaaGreat
set_option linter.unusedVariables false
set_option linter.unusedSimpArgs false

theorem put_eq {R S : List Mo} {l m : Fo} (f1 : fo R = mrg (nfm l) (nfm m)) (f2 : fo S = nfm (l ++ nfm m)) : fo R = fo S := by
  rw [f1, f2, nfm_append]
  exact nfm_uniq (nfm_nrm _) fun x => by rw [nfm_co, co_append, co_append, nfm_co]
set_option maxHeartbeats 8000000 in
set_option maxRecDepth 100000 in
theorem walkM (a : Option Addr) (ca : Nat) (L : List Mo) (D : RatV) (x : Int) (b : Option Addr) (cb : Nat) (G : List Mo) (E : RatV) (w : World) (hF : FAt w a L) (hok : ∀ p ∈ L, p.2.ok w ∧ p.2.n ≤ 4194304 ∧ p.2.m ≤ 4194304) (hc : L.length ≤ ca) (hm : L.length + G.length ≤ 1048576) (hD : D.ok w) (hb : bulkL L + D.n + D.m ≤ 4194304)
    (hG : FAt w b G) (hkG : ∀ p ∈ G, p.2.ok w ∧ p.2.n ≤ 4194304 ∧ p.2.m ≤ 4194304) (hcG : G.length ≤ cb) (hE : E.ok w) (hbG : bulkL G + E.n + E.m ≤ 4194304) :
    Calls Tryz.prog 3 #[.agg #[.slice a L.length ca, .bool D.s, .slice D.a D.n D.c, .slice D.b D.m D.e], .int .i64 x, .agg #[.slice b G.length cb, .bool E.s, .slice E.a E.n E.c, .slice E.b E.m E.e]] w fun e w' => e = .returned (.bool true) ∧ Below w.heap.size w w' := by
  have hs : sz 4194305 (co x (fo L)) := (co_sz x (fo L)).mono (by have := wts_bulk L (fun p hp => (hok p hp).1); omega)
  have hwG := wts_bulk G (fun p hp => (hkG p hp).1)
  have hfi : fine (fmap (fun r9 => co x (fo L) * r9) (fo G)) := fine_scale hs (by omega)
  have G1 := hide' (fun w' (hb9 : Below w.heap.size w w') => lSubst_is a ca L D x b cb G E w' (hF.later hb9) (fun p hp => And.intro ((hok p hp).1.later hb9) (by have := (hok p hp).2; omega)) hc (by omega) (hD.later hb9) hb (hG.later hb9) (fun p hp => (hkG p hp).1.later hb9) hcG (by omega) (fun p hp => by have := (hkG p hp).2; omega) (hE.later hb9) (by omega) hfi)
  have G2 := hide' (fun w' (hb9 : Below w.heap.size w w') => vlSubst_is a ca L D x b cb G E w' (hF.later hb9) (fun p hp => And.intro ((hok p hp).1.later hb9) (by have := (hok p hp).2; omega)) hc hm (hD.later hb9) hb (hG.later hb9) (fun p hp => (hkG p hp).1.later hb9) hcG (hE.later hb9) hbG)
  obtain ⟨l, Z, V, er, z1, z2, z3, G5, G6⟩ := solves a ca L D x w hF hok hc (by omega) hD hb
  replace G5 := hide' G5
  replace G6 := hide' G6
  obtain ⟨d1, d2⟩ := norm_sz hD
  obtain ⟨e1, e2⟩ := norm_sz hE
  have hss : sz 274877906944 (D.val + co x (fo L) * E.val) := (sz_add (N := 4194305) ⟨by omega, by omega⟩ (sz_mul hs (show sz 4194305 E.val from ⟨by omega, by omega⟩))).mono (by omega)
  have hl1 := nfm_length (fo (oth x L) ++ nfm (fmap (fun r9 => co x (fo L) * r9) (fo G)))
  have hl2 := nfm_length (fmap (fun r9 => co x (fo L) * r9) (fo G))
  rw [fmap_length, fo_length] at hl2
  rw [List.length_append, fo_length] at hl1
  have hl3 : (oth x L).length ≤ L.length := List.length_filter_le _ _
  obtain ⟨s, hS⟩ : ∃ s, D.val + co x (fo L) * E.val = s := ⟨_, rfl⟩
  rw [hS] at hss G1 G2
  have G3 := hide' (fun w' a1 c1 (R1 : List Mo) p1 q1 a2 c2 (R2 : List Mo) p2 q2 (s1 : Sl w' a1 c1 R1) (e1 : Ents w' R1) (f1 : fo R1 = mrg (nfm (fo (oth x L))) (nfm (fmap (fun r9 => co x (fo L) * r9) (fo G)))) (g1 : Seg w' p1 (am s.num) (ln (am s.num))) (g2 : Seg w' q1 s.den (ln s.den)) (s2 : Sl w' a2 c2 R2) (e2 : Ents w' R2) (f2 : fo R2 = nfm (fo (oth x L) ++ nfm (fmap (fun r9 => co x (fo L) * r9) (fo G)))) (g3 : Seg w' p2 (am s.num) (ln (am s.num))) (g4 : Seg w' q2 s.den (ln s.den)) => SameAffine_is a1 c1 R1 a2 c2 R2 s.num s.den p1 q1 p2 q2 w' s1.lies s2.lies e1 e2 s1.len s2.len (by have h := congrArg List.length (put_eq f1 f2); rw [f2, fo_length] at h; omega) (put_eq f1 f2) (Nat.le_trans hss.1 (by omega)) (Nat.le_trans hss.2 (by omega)) g1 g2 g3 g4)
  have G7 := hide' (fun w' a1 c1 (R1 : List Mo) p1 q1 a2 c2 (R2 : List Mo) p2 q2 (s1 : Sl w' a1 c1 R1) (e1 : Ents w' R1) (f1 : fo R1 = l) (g1 : Seg w' p1 (am Z) (ln (am Z))) (g2 : Seg w' q1 V (ln V)) (s2 : Sl w' a2 c2 R2) (e2 : Ents w' R2) (f2 : fo R2 = l) (g3 : Seg w' p2 (am Z) (ln (am Z))) (g4 : Seg w' q2 V (ln V)) => SameAffine_is a1 c1 R1 a2 c2 R2 Z V p1 q1 p2 q2 w' s1.lies s2.lies e1 e2 s1.len s2.len (by have h := congrArg List.length f1; rw [fo_length] at h; omega) (f1.trans f2.symm) z1 z2 g1 g2 g3 g4)
  clear hs hwG hfi d1 d2 e1 e2 hss hl1 hl2 hl3 hS z1 z2 z3 hF hok hc hm hD hb hG hkG hcG hE hbG
  obtain ⟨M1, hM1⟩ : ∃ M1, mrg (nfm (fo (oth x L))) (nfm (fmap (fun r9 => co x (fo L) * r9) (fo G))) = M1 := ⟨_, rfl⟩
  obtain ⟨M2, hM2⟩ : ∃ M2, nfm (fo (oth x L) ++ nfm (fmap (fun r9 => co x (fo L) * r9) (fo G))) = M2 := ⟨_, rfl⟩
  rw [hM1] at G1 G3
  rw [hM2] at G2 G3
  clear hM1 hM2
  go_enter Tryz.func3, Tryz.ntmps3
  go_wp2_with fail
  obtain ⟨wA, hwA⟩ : ∃ wA, (w.alloc (.cells #[.slice a L.length ca, .bool D.s, .slice D.a D.n D.c, .slice D.b D.m D.e] 31)).alloc (.cells #[.slice b G.length cb, .bool E.s, .slice E.a E.n E.c, .slice E.b E.m E.e] 31) = wA := ⟨_, rfl⟩
  have hB : Below w.heap.size w wA := by subst hwA; exact (below_alloc _).trans ((below_alloc _).mono (below_alloc _).size)
  have d0 : wA.cell? ⟨w.heap.size, 0, none⟩ = some (.slice a L.length ca) := by subst hwA; go_simp
  have d1 : wA.cell? ⟨w.heap.size, 1, none⟩ = some (.bool D.s) := by subst hwA; go_simp
  have d2 : wA.cell? ⟨w.heap.size, 2, none⟩ = some (.slice D.a D.n D.c) := by subst hwA; go_simp
  have d3 : wA.cell? ⟨w.heap.size, 3, none⟩ = some (.slice D.b D.m D.e) := by subst hwA; go_simp
  have f0 : wA.cell? ⟨w.heap.size + 1, 0, none⟩ = some (.slice b G.length cb) := by subst hwA; go_simp
  have f1 : wA.cell? ⟨w.heap.size + 1, 1, none⟩ = some (.bool E.s) := by subst hwA; go_simp
  have f2 : wA.cell? ⟨w.heap.size + 1, 2, none⟩ = some (.slice E.a E.n E.c) := by subst hwA; go_simp
  have f3 : wA.cell? ⟨w.heap.size + 1, 3, none⟩ = some (.slice E.b E.m E.e) := by subst hwA; go_simp
  rw [hwA]
  clear hwA
  have bD : Below wA.heap.size wA wA.drew := (Below.refl _ _).drew
  have kd0 := below_cell bD d0
  have kd1 := below_cell bD d1
  have kd2 := below_cell bD d2
  have kd3 := below_cell bD d3
  have kf0 := below_cell bD f0
  have kf1 := below_cell bD f1
  have kf2 := below_cell bD f2
  have kf3 := below_cell bD f3
  replace hB := hB.trans (bD.mono hB.size)
  refine wp_region_held_drew (S := fun w' => w'.cell? ⟨w.heap.size, 0, none⟩ = some (.slice a L.length ca) ∧ w'.cell? ⟨w.heap.size, 1, none⟩ = some (.bool D.s) ∧ w'.cell? ⟨w.heap.size, 2, none⟩ = some (.slice D.a D.n D.c) ∧ w'.cell? ⟨w.heap.size, 3, none⟩ = some (.slice D.b D.m D.e) ∧ w'.cell? ⟨w.heap.size + 1, 0, none⟩ = some (.slice b G.length cb) ∧ w'.cell? ⟨w.heap.size + 1, 1, none⟩ = some (.bool E.s) ∧ w'.cell? ⟨w.heap.size + 1, 2, none⟩ = some (.slice E.a E.n E.c) ∧ w'.cell? ⟨w.heap.size + 1, 3, none⟩ = some (.slice E.b E.m E.e)) (by kernel_rfl) ⟨kd0, kd1, kd2, kd3, kf0, kf1, kf2, kf3⟩ (fun hHeld => ?_)
  clear kd0 kd1 kd2 kd3 kf0 kf1 kf2 kf3
  generalize wA.drew = w0 at bD hB hHeld ⊢
  clear d0 d1 d2 d3 f0 f1 f2 f3
  refine take' 0 (v := ?_) rfl (by kernel_rfl) (by kernel_rfl) (by kernel_rfl) (fun _ _ _ h => h) (Or.inl ⟨by rfl, ?_⟩) (by assumption) ?_
  rotate_left
  · intro w9 hSw
    go_simp
    first | done | with_reducible rfl
  simp only [Act.put, List.setIfInBounds_toArray, List.set_cons_zero, List.set_cons_succ]
  refine take' 1 (v := ?_) rfl (by kernel_rfl) (by kernel_rfl) (by kernel_rfl) (fun _ _ _ h => h) (Or.inl ⟨by rfl, ?_⟩) (by assumption) ?_
  rotate_left
  · intro w9 hSw
    go_simp
    first | done | with_reducible rfl
  simp only [Act.put, List.setIfInBounds_toArray, List.set_cons_zero, List.set_cons_succ]
  refine take' 2 (v := ?_) rfl (by kernel_rfl) (by kernel_rfl) (by kernel_rfl) (fun _ _ _ h => h) (Or.inl ⟨by rfl, ?_⟩) (by assumption) ?_
  rotate_left
  · intro w9 hSw
    go_simp
    first | done | with_reducible rfl
  simp only [Act.put, List.setIfInBounds_toArray, List.set_cons_zero, List.set_cons_succ]
  refine take' 4 (v := ?_) rfl (by kernel_rfl) (by kernel_rfl) (by kernel_rfl) (fun _ _ _ h => h) (Or.inl ⟨by rfl, ?_⟩) (by assumption) ?_
  rotate_left
  · intro w9 hSw
    go_simp
    first | done | with_reducible rfl
  simp only [Act.put, List.setIfInBounds_toArray, List.set_cons_zero, List.set_cons_succ]
  refine take' 5 (v := ?_) rfl (by kernel_rfl) (by kernel_rfl) (by kernel_rfl) (fun _ _ _ h => h) (Or.inl ⟨by rfl, ?_⟩) (by assumption) ?_
  rotate_left
  · intro w9 hSw
    go_simp
    first | done | with_reducible rfl
  simp only [Act.put, List.setIfInBounds_toArray, List.set_cons_zero, List.set_cons_succ]
  refine take' 6 (v := ?_) rfl (by kernel_rfl) (by kernel_rfl) (by kernel_rfl) (fun _ _ _ h => h) (Or.inl ⟨by rfl, ?_⟩) (by assumption) ?_
  rotate_left
  · intro w9 hSw
    go_simp
    first | done | with_reducible rfl
  simp only [Act.put, List.setIfInBounds_toArray, List.set_cons_zero, List.set_cons_succ]
  refine wpAnyH_ready (rs := [3]) (by kernel_rfl) (by simp) ?_
  refine cons' rfl (fun KK hKK => ?_)
  go_simp
  refine (G1.out _ hB).mono ?_
  rintro e w1 ⟨a1, c1, R1, p1, q1, rfl, b1, s1, e1, F1, g1, g2⟩
  have bC := b1
  replace hB := hB.trans (bC.mono hB.size)
  replace hHeld := (⟨below_cell bC hHeld.1, below_cell bC hHeld.2.1, below_cell bC hHeld.2.2.1, below_cell bC hHeld.2.2.2.1, below_cell bC hHeld.2.2.2.2.1, below_cell bC hHeld.2.2.2.2.2.1, below_cell bC hHeld.2.2.2.2.2.2.1, below_cell bC hHeld.2.2.2.2.2.2.2⟩ : _ ∧ _ ∧ _ ∧ _ ∧ _ ∧ _ ∧ _ ∧ _)
  clear bC
  go_wp2_with fail
  have E1 : Ents w1 R1 := e1
  clear e1 b1
  refine hKK.out _ _ hHeld ?_
  clear hHeld
  intro hHeld
  clear hKK KK
  try simp only [Act.put, List.setIfInBounds_toArray, List.set_cons_zero, List.set_cons_succ]
  refine wpAnyH_ready (rs := [7]) (by kernel_rfl) (by simp) ?_
  refine cons' rfl (fun KK hKK => ?_)
  go_simp
  refine (G2.out _ hB).mono ?_
  rintro e w2 ⟨a2, c2, R2, p2, q2, rfl, b2, s2, e2, F2, g3, g4⟩
  have bC := b2
  replace hB := hB.trans (bC.mono hB.size)
  replace s1 := s1.later bC
  replace E1 := E1.later bC
  replace g1 := g1.later bC
  replace g2 := g2.later bC
  replace hHeld := (⟨below_cell bC hHeld.1, below_cell bC hHeld.2.1, below_cell bC hHeld.2.2.1, below_cell bC hHeld.2.2.2.1, below_cell bC hHeld.2.2.2.2.1, below_cell bC hHeld.2.2.2.2.2.1, below_cell bC hHeld.2.2.2.2.2.2.1, below_cell bC hHeld.2.2.2.2.2.2.2⟩ : _ ∧ _ ∧ _ ∧ _ ∧ _ ∧ _ ∧ _ ∧ _)
  clear bC
  go_wp2_with fail
  have E2 : Ents w2 R2 := e2
  clear e2 b2
  refine hKK.out _ _ hHeld ?_
  clear hHeld
  intro hHeld
  clear hKK KK
  try simp only [Act.put, List.setIfInBounds_toArray, List.set_cons_zero, List.set_cons_succ]
  refine wpAnyH_ready (rs := [8]) (by kernel_rfl) (by simp) ?_
  refine cons' rfl (fun KK hKK => ?_)
  go_simp
  refine (G3.out _ a1 c1 R1 p1 q1 a2 c2 R2 p2 q2 s1 E1 F1 g1 g2 s2 E2 F2 g3 g4).mono ?_
  rintro e w3 ⟨rfl, b3⟩
  have bC := b3
  replace hB := hB.trans (bC.mono hB.size)
  replace s1 := s1.later bC
  replace E1 := E1.later bC
  replace g1 := g1.later bC
  replace g2 := g2.later bC
  replace s2 := s2.later bC
  replace E2 := E2.later bC
  replace g3 := g3.later bC
  replace g4 := g4.later bC
  replace hHeld := (⟨below_cell bC hHeld.1, below_cell bC hHeld.2.1, below_cell bC hHeld.2.2.1, below_cell bC hHeld.2.2.2.1, below_cell bC hHeld.2.2.2.2.1, below_cell bC hHeld.2.2.2.2.2.1, below_cell bC hHeld.2.2.2.2.2.2.1, below_cell bC hHeld.2.2.2.2.2.2.2⟩ : _ ∧ _ ∧ _ ∧ _ ∧ _ ∧ _ ∧ _ ∧ _)
  clear bC
  go_wp2_with fail
  clear b3 s1 E1 F1 g1 g2 s2 E2 F2 g3 g4
  refine hKK.out _ _ hHeld ?_
  clear hHeld
  intro hHeld
  clear hKK KK
  try simp only [Act.put, List.setIfInBounds_toArray, List.set_cons_zero, List.set_cons_succ]
  refine take' 9 (v := ?_) rfl (by kernel_rfl) (by kernel_rfl) (by kernel_rfl) (fun _ _ _ h => h) (Or.inl ⟨by rfl, ?_⟩) (by assumption) ?_
  rotate_left
  · intro w9 hSw
    go_simp
    first | done | with_reducible rfl
  simp only [Act.put, List.setIfInBounds_toArray, List.set_cons_zero, List.set_cons_succ]
  refine wpAnyH_done (by kernel_rfl) ?_ _
  clear G1 G2 G3
  have d0 := hHeld.1
  have d1 := hHeld.2.1
  have d2 := hHeld.2.2.1
  have d3 := hHeld.2.2.2.1
  clear hHeld
  go_wp2_with fail
  refine (G5.out _ hB).mono ?_
  rintro e w4 ⟨a4, c4, R4, p4, q4, rfl, b4, s4, E4, f4, g1, g2⟩
  replace E4 : Ents w4 R4 := E4
  replace d0 := below_cell b4 d0
  replace d1 := below_cell b4 d1
  replace d2 := below_cell b4 d2
  replace d3 := below_cell b4 d3
  replace hB := hB.trans (b4.mono hB.size)
  clear b4
  obtain ⟨wE, hwE⟩ : ∃ wE, w4.alloc (.cells #[.slice a4 R4.length c4, .bool (ng Z), .slice p4 (ln (am Z)) (ln (am Z)), .slice q4 (ln V) (ln V)] 31) = wE := ⟨_, rfl⟩
  have bE : Below w4.heap.size w4 wE := by subst hwE; exact below_alloc _
  have y0 : wE.cell? ⟨w4.heap.size, 0, none⟩ = some (.slice a4 R4.length c4) := by subst hwE; go_simp
  have y1 : wE.cell? ⟨w4.heap.size, 1, none⟩ = some (.bool (ng Z)) := by subst hwE; go_simp
  have y2 : wE.cell? ⟨w4.heap.size, 2, none⟩ = some (.slice p4 (ln (am Z)) (ln (am Z))) := by subst hwE; go_simp
  have y3 : wE.cell? ⟨w4.heap.size, 3, none⟩ = some (.slice q4 (ln V) (ln V)) := by subst hwE; go_simp
  replace d0 := below_cell bE d0
  replace d1 := below_cell bE d1
  replace d2 := below_cell bE d2
  replace d3 := below_cell bE d3
  replace s4 := s4.later bE
  replace E4 := E4.later bE
  replace g1 := g1.later bE
  replace g2 := g2.later bE
  replace hB := hB.trans (bE.mono hB.size)
  clear bE
  go_wp2_with fail
  clear hwE
  refine (G6.out _ hB).mono ?_
  rintro e w5 ⟨a5, c5, R5, p5, q5, rfl, b5, s5, E5, f5, g3, g4⟩
  replace E5 : Ents w5 R5 := E5
  replace y0 := below_cell b5 y0
  replace y1 := below_cell b5 y1
  replace y2 := below_cell b5 y2
  replace y3 := below_cell b5 y3
  replace s4 := s4.later b5
  replace E4 := E4.later b5
  replace g1 := g1.later b5
  replace g2 := g2.later b5
  replace hB := hB.trans (b5.mono hB.size)
  clear b5 d0 d1 d2 d3
  obtain ⟨wG, hwG⟩ : ∃ wG, w5.alloc (.cells #[.slice a5 R5.length c5, .bool (ng Z), .slice p5 (ln (am Z)) (ln (am Z)), .slice q5 (ln V) (ln V)] 31) = wG := ⟨_, rfl⟩
  have bG : Below w5.heap.size w5 wG := by subst hwG; exact below_alloc _
  have o0 : wG.cell? ⟨w5.heap.size, 0, none⟩ = some (.slice a5 R5.length c5) := by subst hwG; go_simp
  have o1 : wG.cell? ⟨w5.heap.size, 1, none⟩ = some (.bool (ng Z)) := by subst hwG; go_simp
  have o2 : wG.cell? ⟨w5.heap.size, 2, none⟩ = some (.slice p5 (ln (am Z)) (ln (am Z))) := by subst hwG; go_simp
  have o3 : wG.cell? ⟨w5.heap.size, 3, none⟩ = some (.slice q5 (ln V) (ln V)) := by subst hwG; go_simp
  replace y0 := below_cell bG y0
  replace y1 := below_cell bG y1
  replace y2 := below_cell bG y2
  replace y3 := below_cell bG y3
  replace s4 := s4.later bG
  replace E4 := E4.later bG
  replace g1 := g1.later bG
  replace g2 := g2.later bG
  replace s5 := s5.later bG
  replace E5 := E5.later bG
  replace g3 := g3.later bG
  replace g4 := g4.later bG
  replace hB := hB.trans (bG.mono hB.size)
  clear bG
  have hee : (er == er) = true := by simp
  go_wp2_with fail
  clear hwG
  refine (G7.out _ a4 c4 R4 p4 q4 a5 c5 R5 p5 q5 s4 E4 f4 g1 g2 s5 E5 f5 g3 g4).mono ?_
  rintro e w6 ⟨rfl, b6⟩
  go_wp2
  go_ret
  exact ⟨rfl, hB.trans (b6.mono hB.size)⟩
theorem bulkL_mos (v : Nat → Int) (f : Nat → RatV) : ∀ n, bulkL (mos v f n) = bulkV f n + n
  | 0 => rfl
  | n + 1 => by
    unfold mos
    rw [List.range_succ, List.map_append, bulkL_append]
    have h := bulkL_mos v f n
    unfold mos at h
    rw [h]
    simp only [List.map, bulkL, bulkV]
    omega
theorem mos_ok {w : World} {v : Nat → Int} {f : Nat → RatV} {n : Nat} (hfo : ∀ i, i < n → (Lit.int .i64 (v i)).wf = true ∧ (f i).ok w) (hb : bulkV f n ≤ 1048576) : ∀ p ∈ mos v f n, p.2.ok w ∧ p.2.n ≤ 4194304 ∧ p.2.m ≤ 4194304 := fun p hp => by
  obtain ⟨i, hi, rfl⟩ := mos_mem hp
  have := bulk_at (q := f) n i hi
  exact ⟨(hfo i hi).2, by show (f i).n ≤ _; omega, by show (f i).m ≤ _; omega⟩
theorem walk (af : Option Addr) (n capf : Nat) (v : Nat → Int) (f : Nat → RatV) (D : RatV) (x : Int) (ag : Option Addr) (m capg : Nat) (u : Nat → Int) (g : Nat → RatV) (E : RatV) (w : World) (hF : FormAt w af n v f) (hfo : ∀ i, i < n → (Lit.int .i64 (v i)).wf = true ∧ (f i).ok w) (hcf : n ≤ capf) (hD : D.ok w) (h1 : -9223372036854775808 ≤ x) (h2 : x < 9223372036854775808)
    (hG : FormAt w ag m u g) (hgo : ∀ i, i < m → (Lit.int .i64 (u i)).wf = true ∧ (g i).ok w) (hcg : m ≤ capg) (hE : E.ok w) (hb : bulkV f n + D.n + D.m + (bulkV g m + E.n + E.m) ≤ 1048576) :
    Calls Tryz.prog 3 #[.agg #[.slice af n capf, .bool D.s, .slice D.a D.n D.c, .slice D.b D.m D.e], .int .i64 x, .agg #[.slice ag m capg, .bool E.s, .slice E.a E.n E.c, .slice E.b E.m E.e]] w fun e w' => e = .returned (.bool true) ∧ Below w.heap.size w w' := by
  have b1 := bulk_n (q := f) n
  have b2 := bulk_n (q := g) m
  have hbm := bulkL_mos v f n
  have hbg := bulkL_mos u g m
  have h := walkM af capf (mos v f n) D x ag capg (mos u g m) E w (mos_at hF) (mos_ok hfo (by omega)) (by rw [mos_length]; exact hcf) (by rw [mos_length, mos_length]; omega) hD (by omega) (mos_at hG) (mos_ok hgo (by omega)) (by rw [mos_length]; exact hcg) hE (by omega)
  rw [mos_length, mos_length] at h
  exact h

set_option maxRecDepth 100000 in
theorem contract (H : Type) (enc : TypeId × Value → H) (W : World) (base : Nat) (args : Array Value) (ds gs : List (DataW H)) (before : List MemPlace)
    (hval : ∀ (j : Nat) t v, Tryz.f3.params[j]? = some t → args[j]? = some v → Value.okWide Tryz.prog W .any base t v)
    (hW : DataW.Whole enc Tryz.prog Tryz.f3.params.toList Rows.linearPutsSpec.vars false W args.toList ds gs before)
    (hsz : (DataW.weightsEach Tryz.prog (Tryz.f3.params.toList ++ Rows.linearPutsSpec.plain.varTypes Tryz.prog) (ds ++ gs)).all (· ≤ reachBytes) = true) (hk : Rows.uptoSmall H (ds ++ gs) = true) :
    Calls Tryz.prog 3 args W fun e W' => ∃ v, e = .returned v ∧ Rows.linearPutsSpec.post enc Tryz.prog Tryz.f3 false true false false W args v W' := by
  have hW' := hW
  obtain ⟨p, q, hA0, hV, rfl, hfz, hnd⟩ := hW
  have hA : DataW.TrodAll enc Tryz.prog W 0 (fun _ => true) true Tryz.f3.params.toList args.toList ds p := hA0
  rw [Tryz.params3] at hA hval hsz
  obtain ⟨v0, vs0, d0, ds0, p0, q0, hargs, rfl, rfl, h0, r0⟩ := trodAll_cons hA
  obtain ⟨v1, vs1, d1, ds1, p1, q1, rfl, rfl, rfl, h1, r1⟩ := trodAll_cons r0
  obtain ⟨v2, vs2, d2, ds2, p2, q2, rfl, rfl, rfl, h2, r2⟩ := trodAll_cons r1
  obtain ⟨rfl, rfl, rfl⟩ := trodAll_nil r2
  obtain rfl : args = #[v0, v1, v2] := by cases args; simp_all
  obtain ⟨rfl, rfl⟩ := trodVars_none hV
  have lt0 : ∀ x ∈ p0, x.block < W.heap.size := by obtain ⟨m, hm⟩ := h0; exact DataW.trod_lt m _ _ _ hm
  obtain ⟨xa0, xl0, xc0, fv0, ff0, qv0, rfl, hF0, hfo0, hfc0, hqo0, hfu0⟩ := open_Affine (hval 0 31 v0 rfl rfl) h0 (sized_at 0 hsz rfl rfl)
  obtain ⟨z1, rfl, rfl, rfl, w1⟩ := open_int Tryz.underlying3 (hval 1 3 v1 rfl rfl) h1
  have bz1 := bounds_i64 w1
  have lt2 : ∀ x ∈ p2, x.block < W.heap.size := by obtain ⟨m, hm⟩ := h2; exact DataW.trod_lt m _ _ _ hm
  obtain ⟨xa2, xl2, xc2, fv2, ff2, qv2, rfl, hF2, hfo2, hfc2, hqo2, hfu2⟩ := open_Affine (hval 2 31 v2 rfl rfl) h2 (sized_at 2 hsz rfl rfl)
  clear hA0
  have hbulk := of_decide_eq_true hk
  simp only [List.append_nil, Rows.uptoBulkAll] at hbulk
  simp only [List.append_nil] at hW'
  refine (walk xa0 xl0 xc0 fv0 ff0 qv0 z1 xa2 xl2 xc2 fv2 ff2 qv2 W hF0 hfo0 hfc0 hqo0 (by omega) (by omega) hF2 hfo2 hfc2 hqo2 (by omega)).mono fun e W' ⟨he, bel⟩ => ?_
  subst he
  exact ⟨_, rfl, _, _, _, [], _, [], hW', trodAll_mk1 (shut_bool Tryz.underlying4 _), (trodAll_cons_mk (Below.trod laidOut (by kernel_rfl) (of_decide_eq_true (by kernel_rfl)) h0 bel lt0) (trodAll_cons_mk (shut_int Tryz.underlying3 w1) (trodAll_cons_mk (Below.trod laidOut (by kernel_rfl) (of_decide_eq_true (by kernel_rfl)) h2 bel lt2) trodAll_mk0))), rfl, bel.frame _, fun h => by cases h⟩

set_option maxRecDepth 100000 in
theorem lifted (os : Os) (started : os.Started) (H : Type) (enc : TypeId × Value → H) (F : Stop.Interp) :
    ReturnsInHanded {} Tryz.checked os 3 .any ((Rows.OpenSpec.upto Rows.linearPutsSpec).pre6 enc Tryz.prog Tryz.f3 Rows.linearPutsUptoRow.domain false) (((Rows.OpenSpec.upto Rows.linearPutsSpec).at F).post enc Tryz.prog Tryz.f3 false true false false) := by
  refine returnsInHanded_of_cond_sized (C := Tryz.checked) (s := Rows.OpenSpec.upto Rows.linearPutsSpec) (k := Rows.uptoSmall) rfl own started (by kernel_rfl) Tryz.func3
    (OpenSpec.witness (enc := enc) (C := Tryz.checked) (s := Rows.OpenSpec.upto Rows.linearPutsSpec) (k := Rows.uptoSmall) rfl false ⟨#[], #[.agg #[.slice none 0 0, .bool false, .slice none 0 0, .slice none 0 0], .int .i64 0, .agg #[.slice none 0 0, .bool false, .slice none 0 0, .slice none 0 0]], []⟩ 8 (by kernel_rfl) (by kernel_rfl) (by kernel_rfl)
      (x := ([.agg [.nil, .agg [.agg [.lit (.bool false), .nil], .nil]], .lit (.int .i64 0), .agg [.nil, .agg [.agg [.lit (.bool false), .nil], .nil]]], [], [])) (by kernel_rfl) rfl (by kernel_rfl)) ?_
  intro W base args ds gs before hval hW _ hk hsz _
  exact contract H enc W base args ds gs before hval hW hsz hk

theorem over : Rows.linearPutsUptoRow.holds Tryz.pinned (Rows.OpenSpec.upto Rows.linearPutsSpec) :=
  OpenClaim.holds_of_cond 3 Tryz.f3 rfl rfl rfl rfl rfl rfl rfl ⟨rfl, rfl, rfl, rfl, rfl⟩ rfl rfl rfl rfl rfl (by kernel_rfl) Tryz.func3 (by kernel_rfl)
    (of_decide_eq_true (by kernel_rfl)) (by unfold Func.isWrapper; first | (rw [if_pos (by decide +kernel)]; kernel_rfl) | (rw [if_neg (by decide +kernel)]; exact ⟨rfl, rfl⟩))
    (fun os started H enc _ F => lifted os started H enc F)

end Go.Proofs.YthpakdmfbbmbiaaGreat.linearPuts
namespace Go.Proofs.YthpakdmfbbmbiaaGreat
theorem linearPuts_holds : Rows.LinearPutsUptoSaid := linearPuts.over
#print axioms linearPuts_holds
end Go.Proofs.YthpakdmfbbmbiaaGreat
