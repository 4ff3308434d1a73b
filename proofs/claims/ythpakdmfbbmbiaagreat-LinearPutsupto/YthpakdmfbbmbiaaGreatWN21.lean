/-
  Layer 6: what Solve tells, put in: nothing is left.
-/
import Derived.Test.YthpakdmfbbmbiaaGreatWN18
namespace Go.Proofs.YthpakdmfbbmbiaaGreat
open Go.RowKit
set_option linter.unusedVariables false
set_option linter.unusedSimpArgs false

/-- four cells that are no whole numbers are none of a form's: a form stays as it is where they are stored into -/
theorem Four.far4 {w : World} {c b o : Nat} {u0 u1 u2 u3 : Value} (h : c = b → 4 ≤ o) : (set4 w c u0 u1 u2 u3).cell? ⟨b, o, none⟩ = w.cell? ⟨b, o, none⟩ := by
  have hne : ∀ i, i < 4 → (⟨b, o, none⟩ : Addr) ≠ ⟨c, i, none⟩ := fun i hi e => by
    simp only [Addr.mk.injEq] at e
    have := h e.1.symm
    omega
  unfold set4
  rw [World.cell?_setCell_other _ _ _ _ (by first | exact hne 3 (by omega) | exact (hne 3 (by omega)).symm), World.cell?_setCell_other _ _ _ _ (by first | exact hne 2 (by omega) | exact (hne 2 (by omega)).symm), World.cell?_setCell_other _ _ _ _ (by first | exact hne 1 (by omega) | exact (hne 1 (by omega)).symm), World.cell?_setCell_other _ _ _ _ (by first | exact hne 0 (by omega) | exact (hne 0 (by omega)).symm)]
theorem Four.fat {w : World} {c : Nat} {u0 u1 u2 u3 z0 z1 z2 z3 : Value} (h : Four w c z0 z1 z2 z3) (k0 : ∀ i, z0 ≠ .int .i64 i) (k1 : ∀ i, z1 ≠ .int .i64 i) (k2 : ∀ i, z2 ≠ .int .i64 i) (k3 : ∀ i, z3 ≠ .int .i64 i) {a : Option Addr} {L : List Mo} (hF : FAt w a L) : FAt (set4 w c u0 u1 u2 u3) a L := fun hn => by
  obtain ⟨b, off, e, hl, hc⟩ := hF hn
  have hsz : (set4 w c u0 u1 u2 u3).heap.size = w.heap.size := by simp only [set4, World.size_setCell]
  refine ⟨b, off, e, by rw [hsz]; exact hl, fun i p hi => ?_⟩
  have hm := hc i p hi
  obtain ⟨o, ho⟩ : ∃ o, off + i * 4 = o := ⟨_, rfl⟩
  rw [ho] at hm ⊢
  have h4 : c = b → 4 ≤ o := fun e => by
    subst e
    obtain ⟨⟨h0, h1, h2, h3⟩, _⟩ := h
    have m0 := hm.1
    rcases Nat.lt_or_ge o 4 with hlt | hge
    · exfalso
      match o, hlt, m0 with
      | 0, _, m0 => rw [h0] at m0; exact k0 _ (Option.some.inj m0)
      | 1, _, m0 => rw [h1] at m0; exact k1 _ (Option.some.inj m0)
      | 2, _, m0 => rw [h2] at m0; exact k2 _ (Option.some.inj m0)
      | 3, _, m0 => rw [h3] at m0; exact k3 _ (Option.some.inj m0)
    · exact hge
  refine ⟨by rw [Four.far4 h4]; exact hm.1, by rw [Four.far4 (fun e => by have := h4 e; omega)]; exact hm.2.1, by rw [Four.far4 (fun e => by have := h4 e; omega)]; exact hm.2.2.1, by rw [Four.far4 (fun e => by have := h4 e; omega)]; exact hm.2.2.2⟩
theorem Four.ok {w : World} {c : Nat} {u0 u1 u2 u3 z0 z1 z2 z3 : Value} (h : Four w c z0 z1 z2 z3) (k0 : ∀ i, z0 ≠ .int .u32 i) (k1 : ∀ i, z1 ≠ .int .u32 i) (k2 : ∀ i, z2 ≠ .int .u32 i) (k3 : ∀ i, z3 ≠ .int .u32 i) {p : Mo} (hE : Ent w p) : Ent (set4 w c u0 u1 u2 u3) p :=
  ⟨⟨h.seg k0 k1 k2 k3 hE.ok.1, hE.ok.2.1, hE.ok.2.2.1, h.seg k0 k1 k2 k3 hE.ok.2.2.2.1, hE.ok.2.2.2.2.1, hE.ok.2.2.2.2.2⟩, hE.low⟩

theorem bulkL_oth (x : Int) : ∀ (L : List Mo), bulkL (oth x L) ≤ bulkL L
  | [] => Nat.le_refl _
  | p :: L => by
    have h := bulkL_oth x L
    unfold oth at h ⊢
    rw [List.filter_cons]
    split
    · simp only [bulkL]; omega
    · simp only [bulkL]; omega
theorem bulkL_mem : ∀ {L : List Mo} {p : Mo}, p ∈ L → p.2.n + p.2.m + 2 ≤ bulkL L
  | q :: L, p, h => by
    simp only [bulkL]
    rcases List.mem_cons.1 h with rfl | h
    · omega
    · have := bulkL_mem h; omega
theorem oth_mem {x : Int} {L : List Mo} {p : Mo} (h : p ∈ oth x L) : p ∈ L := (List.mem_filter.1 h).1
theorem sz_neg {N : Nat} {r : Rat} (h : sz N r) : sz N (-r) := by
  unfold sz at h ⊢
  rw [Rat.neg_num, Rat.neg_den, am_neg]
  exact h
theorem low_inv {t : Rat} (h : t ≠ 0) : Low (t.den : Int) t.num (t⁻¹).num (t⁻¹).den := low_of (fun e => h (Rat.num_eq_zero.1 e)) (Rat.inv_def t)
theorem sz_inv {N : Nat} {t : Rat} (h : sz N t) (h0 : t ≠ 0) : sz N (t⁻¹) := by
  have hl := (low_inv h0).le
  exact ⟨Nat.le_trans (ln_mono hl.1) h.2, Nat.le_trans (ln_mono hl.2) h.1⟩

/-- what Solve tells where it can -/
def SolAns (w : World) (l : Fo) (s : Rat) (e : Ending) (w' : World) : Prop :=
  ∃ a c R p q, e = .returned (.tuple #[.agg #[.slice a (R : List Mo).length c, .bool (ng s.num), .slice p (ln (am s.num)) (ln (am s.num)), .slice q (ln s.den) (ln s.den)], .int .i64 0]) ∧ Below w.heap.size w w' ∧
    Sl w' a c R ∧ (∀ p ∈ R, Ent w' p) ∧ fo R = l ∧ Seg w' p (am s.num) (ln (am s.num)) ∧ Seg w' q s.den (ln s.den)

set_option maxHeartbeats 8000000 in
set_option maxRecDepth 100000 in
theorem lSolve_is (a : Option Addr) (ca : Nat) (L : List Mo) (D : RatV) (x : Int) (w : World) (hF : FAt w a L) (hok : ∀ p ∈ L, p.2.ok w ∧ p.2.m < 35184372087808) (hc : L.length ≤ ca) (hm : L.length ≤ 1048576) (hD : D.ok w) (hb : bulkL L + D.n + D.m ≤ 4194304) (h0 : co x (fo L) ≠ 0) :
    Calls Tryz.prog 7 #[.agg #[.slice a L.length ca, .bool D.s, .slice D.a D.n D.c, .slice D.b D.m D.e], .int .i64 x] w (SolAns w (nfm (fmap (fun r => (-(co x (fo L)))⁻¹ * r) (fo (oth x L)))) ((-(co x (fo L)))⁻¹ * D.val)) := by
  have hs : sz 4194305 (co x (fo L)) := (co_sz x (fo L)).mono (by have := wts_bulk L (fun p hp => (hok p hp).1); omega)
  have hbo := bulkL_oth x L
  have hwo := Nat.le_trans (wts_bulk (oth x L) (fun p hp => (hok p (oth_mem hp)).1)) hbo
  have hmo : (oth x L).length ≤ 1048576 := Nat.le_trans (List.length_filter_le _ _) hm
  have G1 := hide' (fun w' (hb9 : Below w.heap.size w w') => apart_is a ca L x w' (hF.later hb9) (fun p hp => And.intro ((hok p hp).1.later hb9) (hok p hp).2) hc hm (by have := bulkL_mine x L; omega))
  have hko := fun p hp => (hok p (oth_mem (x := x) hp)).1
  have hkn : ∀ p ∈ oth x L, p.2.n + p.2.m + 2 ≤ 4194304 := fun p hp => by have := bulkL_mem hp; omega
  clear hF hok hc hm hbo
  obtain ⟨r, hr⟩ : ∃ r, co x (fo L) = r := ⟨_, rfl⟩
  rw [hr] at hs h0 ⊢
  have G2 := hide' (fun w' p q k1 k2 => qNeg_is (ng r.num) p (ln (am r.num)) (ln (am r.num)) (am r.num) q (ln r.den) (ln r.den) r.den (-r).num (-r).den w' (Nat.le_refl _) (Nat.le_trans hs.1 (by omega)) k1 (Nat.le_refl _) (Nat.le_trans hs.2 (by omega)) k2 (by have h := low_neg (RatV.of r.num r.den p q); rw [val_ofR] at h; exact h))
  have hst := sz_neg hs
  have ht0 : -r ≠ 0 := fun e => h0 (by rw [← Rat.neg_neg r, e]; rfl)
  obtain ⟨t, ht⟩ : ∃ t, -r = t := ⟨_, rfl⟩
  rw [ht] at G2 hst ht0 ⊢
  have G3 := hide' (fun w' p q k1 k2 => qInv_is (ng t.num) p (ln (am t.num)) (ln (am t.num)) (am t.num) q (ln t.den) (ln t.den) t.den (t⁻¹).num (t⁻¹).den w' (Nat.le_refl _) (Nat.le_trans hst.1 (by omega)) k1 (Nat.le_refl _) (Nat.le_trans hst.2 (by omega)) k2 (by rw [rn_nf t.den_pos, rd_nf t.den_pos]; exact low_inv ht0))
  have hsu := sz_inv hst ht0
  obtain ⟨u, hu⟩ : ∃ u, t⁻¹ = u := ⟨_, rfl⟩
  rw [hu] at G3 hsu ⊢
  replace hr := hide' hr
  clear ht hu hs h0 hst ht0
  have HS := hide' (And.intro hsu (And.intro hko (And.intro hkn (And.intro hwo (And.intro hmo (And.intro hb hD))))))
  clear hsu hko hkn hwo hmo hb hD
  obtain ⟨TT, hTT⟩ : ∃ TT, SolAns w (nfm (fmap (fun r => u * r) (fo (oth x L)))) (u * D.val) = TT := ⟨_, rfl⟩
  rw [hTT]
  replace hTT := hide' hTT
  go_enter Tryz.func7, Tryz.ntmps7
  go_wp2_with fail
  obtain ⟨wA, hwA⟩ : ∃ wA, (w.alloc (.cells #[.slice a L.length ca, .bool D.s, .slice D.a D.n D.c, .slice D.b D.m D.e] 31)).alloc (.cells #[.slice none 0 0, .bool false, .slice none 0 0, .slice none 0 0] 31) = wA := ⟨_, rfl⟩
  have bA : Below w.heap.size w wA := by subst hwA; exact (below_alloc _).trans ((below_alloc _).mono (below_alloc _).size)
  have rA : Four wA (w.heap.size + 1) (.slice none 0 0) (.bool false) (.slice none 0 0) (.slice none 0 0) := by subst hwA; exact ⟨⟨by go_simp, by go_simp, by go_simp, by go_simp⟩, by have h := row_new (w.alloc (.cells #[.slice a L.length ca, .bool D.s, .slice D.a D.n D.c, .slice D.b D.m D.e] 31)) #[.slice none 0 0, .bool false, .slice none 0 0, .slice none 0 0] 31; rw [show (w.alloc (.cells #[.slice a L.length ca, .bool D.s, .slice D.a D.n D.c, .slice D.b D.m D.e] 31)).heap.size = w.heap.size + 1 from Array.size_push _] at h; exact h⟩
  have d1 : wA.cell? ⟨w.heap.size, 1, none⟩ = some (.bool D.s) := by subst hwA; go_simp
  have d2 : wA.cell? ⟨w.heap.size, 2, none⟩ = some (.slice D.a D.n D.c) := by subst hwA; go_simp
  have d3 : wA.cell? ⟨w.heap.size, 3, none⟩ = some (.slice D.b D.m D.e) := by subst hwA; go_simp
  rw [hwA]
  clear hwA
  have hz1 : w.heap.size + 1 < wA.heap.size := rA.2.lt
  refine (G1.out _ bA).mono ?_
  rintro e w1 ⟨p, q, a1, c1, rfl, b1, g1, g2, s1⟩
  rw [hr.out] at g1 g2 ⊢
  have rB := rA.later b1
  have hB := bA.trans (b1.mono bA.size)
  replace hz1 := Nat.lt_of_lt_of_le hz1 b1.size
  replace d1 := below_cell b1 d1
  replace d2 := below_cell b1 d2
  replace d3 := below_cell b1 d3
  clear rA b1 bA
  obtain ⟨wC, hwC⟩ : ∃ wC, w1.alloc (.cells #[.bool (ng r.num), .slice p (ln (am r.num)) (ln (am r.num)), .slice q (ln r.den) (ln r.den)] 29) = wC := ⟨_, rfl⟩
  have bC : Below w1.heap.size w1 wC := by subst hwC; exact below_alloc _
  have rC : Thr wC w1.heap.size (.bool (ng r.num)) (.slice p (ln (am r.num)) (ln (am r.num))) (.slice q (ln r.den) (ln r.den)) := by subst hwC; exact ⟨⟨by go_simp, by go_simp, by go_simp⟩, row_new _ _ 29⟩
  replace rB := rB.later bC
  replace hB := hB.trans (bC.mono hB.size)
  replace g1 := g1.later bC
  replace g2 := g2.later bC
  replace s1 := s1.later bC
  replace hz1 := Nat.lt_of_lt_of_le hz1 bC.size
  replace d1 := below_cell bC d1
  replace d2 := below_cell bC d2
  replace d3 := below_cell bC d3
  clear bC
  have z0 := rC.1.1
  have z1 := rC.1.2.1
  have z2 := rC.1.2.2
  clear rC
  go_wp2_with fail
  refine (G2.out _ p q g1 g2).mono ?_
  rintro e w2 ⟨p2, q2, rfl, n1, n2⟩
  have b2 := n1.below
  go_wp2_with fail
  refine (G3.out _ p2 q2 n1.seg n2.seg).mono ?_
  rintro e w3 ⟨p3, q3, rfl, n3, n4⟩
  have b3 := n3.below
  have g3 := n3.seg
  have g4 := n4.seg
  clear n1 n2 n3 n4 z0 z1 z2 g1 g2 hwC
  replace b3 := b2.trans (b3.mono b2.size)
  clear b2
  obtain ⟨wE, hwE⟩ : ∃ wE, w3.alloc (.cells #[.bool (ng u.num), .slice p3 (ln (am u.num)) (ln (am u.num)), .slice q3 (ln u.den) (ln u.den)] 29) = wE := ⟨_, rfl⟩
  have bE : Below w3.heap.size w3 wE := by subst hwE; exact below_alloc _
  have y0 : wE.cell? ⟨w3.heap.size, 0, none⟩ = some (.bool (ng u.num)) := by subst hwE; go_simp
  have y1 : wE.cell? ⟨w3.heap.size, 1, none⟩ = some (.slice p3 (ln (am u.num)) (ln (am u.num))) := by subst hwE; go_simp
  have y2 : wE.cell? ⟨w3.heap.size, 2, none⟩ = some (.slice q3 (ln u.den) (ln u.den)) := by subst hwE; go_simp
  have bT : Below wC.heap.size wC wE := b3.trans (bE.mono b3.size)
  have hz3 : w.heap.size + 1 < w3.heap.size := Nat.lt_of_lt_of_le hz1 b3.size
  replace rB := rB.later bT
  replace hB := hB.trans (bT.mono hB.size)
  replace g3 := g3.later bE
  replace g4 := g4.later bE
  replace s1 := s1.later bT
  replace d1 := below_cell bT d1
  replace d2 := below_cell bT d2
  replace d3 := below_cell bT d3
  clear bT b3 bE
  obtain ⟨hsu, hko, hkn, hwo, hmo, hb, hD⟩ := HS.out
  have hCo : (RatV.of u.num u.den p3 q3).ok wE := ⟨g3, Nat.le_refl _, Nat.le_trans hsu.1 (by omega), g4, Nat.le_refl _, Nat.le_trans hsu.2 (by omega)⟩
  have hn1 : (RatV.of u.num u.den p3 q3).n ≤ 4194305 := hsu.1
  have hn2 : (RatV.of u.num u.den p3 q3).m ≤ 4194305 := hsu.2
  have G5 := hide' (fun w' (hb9 : Below wE.heap.size wE w') => lScaleF_is (RatV.of u.num u.den p3 q3) a1 c1 (oth x L) 20000000 w' (s1.lies.later hb9) (fun p hp => ((hko p hp).later hB).later hb9) s1.len hmo (hCo.later hb9) (fun p hp => by have := hkn p hp; omega) (by omega) (by omega) (by rw [val_ofR]; exact fine_scale hsu (by omega)))
  rw [val_ofR] at G5
  have G6 := hide' (fun w' (hb9 : Below wE.heap.size wE w') => qMul_is (ng u.num) p3 (ln (am u.num)) (ln (am u.num)) (am u.num) q3 (ln u.den) (ln u.den) u.den D.s D.a D.n D.c D.X D.b D.m D.e D.Y (u * D.val).num (u * D.val).den w' (Nat.le_refl _) (Nat.le_trans hsu.1 (by omega)) (g3.later hb9) (Nat.le_refl _) (Nat.le_trans hsu.2 (by omega)) (g4.later hb9) hD.2.1 (by omega) ((hD.later hB).1.later hb9) hD.2.2.2.2.1 (by omega) ((hD.later hB).2.2.2.1.later hb9) (by have h := low_mul (RatV.of u.num u.den p3 q3) D; rw [val_ofR] at h; exact h))
  obtain ⟨s, hs⟩ : ∃ s, u * D.val = s := ⟨_, rfl⟩
  rw [hs] at G6
  clear g3 g4 s1 hCo hn1 hn2 hsu hko hkn hwo hmo hb hD HS
  have bW : Below wE.heap.size wE wE := Below.refl _ _
  go_wp2_with fail
  clear hwE
  have bD : Below wE.heap.size wE wE.drew := (Below.refl _ _).drew
  have ky0 := below_cell bD y0
  have ky1 := below_cell bD y1
  have ky2 := below_cell bD y2
  have kd1 := below_cell bD d1
  have kd2 := below_cell bD d2
  have kd3 := below_cell bD d3
  replace bW := bW.trans (bD.mono bW.size)
  replace hB := hB.trans (bD.mono hB.size)
  replace rB := rB.later bD
  refine wp_region_held_drew (S := fun w' => w'.cell? ⟨w3.heap.size, 0, none⟩ = some (.bool (ng u.num)) ∧ w'.cell? ⟨w3.heap.size, 1, none⟩ = some (.slice p3 (ln (am u.num)) (ln (am u.num))) ∧ w'.cell? ⟨w3.heap.size, 2, none⟩ = some (.slice q3 (ln u.den) (ln u.den)) ∧ w'.cell? ⟨w.heap.size, 1, none⟩ = some (.bool D.s) ∧ w'.cell? ⟨w.heap.size, 2, none⟩ = some (.slice D.a D.n D.c) ∧ w'.cell? ⟨w.heap.size, 3, none⟩ = some (.slice D.b D.m D.e)) (by kernel_rfl) ⟨ky0, ky1, ky2, kd1, kd2, kd3⟩ (fun hHeld => ?_)
  clear ky0 ky1 ky2 kd1 kd2 kd3
  generalize wE.drew = w0 at bD rB bW hB hHeld ⊢
  clear y0 y1 y2 d1 d2 d3
  refine take' 0 (v := ?_) rfl (by kernel_rfl) (by kernel_rfl) (by kernel_rfl) (fun _ _ _ h => h) (Or.inl ⟨by rfl, ?_⟩) (by assumption) ?_
  rotate_left
  · intro w9 hSw
    go_simp
    first | done | with_reducible rfl
  simp only [Act.put, List.setIfInBounds_toArray, List.set_cons_zero, List.set_cons_succ]
  refine take' 1 (v := ?_) rfl (by kernel_rfl) (by kernel_rfl) (by kernel_rfl) (fun _ _ _ h => h) (Or.inl ⟨by rfl, ?_⟩) (by assumption) ?_
  rotate_left
  · intro w9 hSw
    go_simp
    first | done | with_reducible rfl
  simp only [Act.put, List.setIfInBounds_toArray, List.set_cons_zero, List.set_cons_succ]
  refine take' 3 (v := ?_) rfl (by kernel_rfl) (by kernel_rfl) (by kernel_rfl) (fun _ _ _ h => h) (Or.inl ⟨by rfl, ?_⟩) (by assumption) ?_
  rotate_left
  · intro w9 hSw
    go_simp
    first | done | with_reducible rfl
  simp only [Act.put, List.setIfInBounds_toArray, List.set_cons_zero, List.set_cons_succ]
  refine take' 4 (v := ?_) rfl (by kernel_rfl) (by kernel_rfl) (by kernel_rfl) (fun _ _ _ h => h) (Or.inl ⟨by rfl, ?_⟩) (by assumption) ?_
  rotate_left
  · intro w9 hSw
    go_simp
    first | done | with_reducible rfl
  simp only [Act.put, List.setIfInBounds_toArray, List.set_cons_zero, List.set_cons_succ]
  refine take' 5 (v := ?_) rfl (by kernel_rfl) (by kernel_rfl) (by kernel_rfl) (fun _ _ _ h => h) (Or.inl ⟨by rfl, ?_⟩) (by assumption) ?_
  rotate_left
  · intro w9 hSw
    go_simp
    first | done | with_reducible rfl
  simp only [Act.put, List.setIfInBounds_toArray, List.set_cons_zero, List.set_cons_succ]
  refine wpAnyH_ready (rs := [2]) (by kernel_rfl) (by simp) ?_
  refine cons' rfl (fun KK hKK => ?_)
  go_simp
  refine (G5.out _ bW).mono ?_
  rintro e w5 ⟨a5, c5, R5, rfl, b5, s5, e5, f5⟩
  have bC := b5
  replace bW := bW.trans (bC.mono bW.size)
  replace hB := hB.trans (bC.mono hB.size)
  replace rB := rB.later bC
  replace hHeld := (⟨below_cell bC hHeld.1, below_cell bC hHeld.2.1, below_cell bC hHeld.2.2.1, below_cell bC hHeld.2.2.2.1, below_cell bC hHeld.2.2.2.2.1, below_cell bC hHeld.2.2.2.2.2⟩ : _ ∧ _ ∧ _ ∧ _ ∧ _ ∧ _)
  clear bC
  go_wp2_with fail
  have E5 : Ents w5 R5 := e5
  clear e5 b5
  refine hKK.out _ _ hHeld ?_
  clear hHeld
  intro hHeld
  clear hKK KK
  try simp only [Act.put, List.setIfInBounds_toArray, List.set_cons_zero, List.set_cons_succ]
  refine wpAnyH_ready (rs := [6]) (by kernel_rfl) (by simp) ?_
  refine cons' rfl (fun KK hKK => ?_)
  go_simp
  refine (G6.out _ bW).mono ?_
  rintro e w6 ⟨p6, q6, rfl, n6, n7⟩
  have bC := n6.below
  replace bW := bW.trans (bC.mono bW.size)
  replace hB := hB.trans (bC.mono hB.size)
  replace rB := rB.later bC
  replace s5 := s5.later bC
  replace E5 := E5.later bC
  replace hHeld := (⟨below_cell bC hHeld.1, below_cell bC hHeld.2.1, below_cell bC hHeld.2.2.1, below_cell bC hHeld.2.2.2.1, below_cell bC hHeld.2.2.2.2.1, below_cell bC hHeld.2.2.2.2.2⟩ : _ ∧ _ ∧ _ ∧ _ ∧ _ ∧ _)
  clear bC
  go_wp2_with fail
  have g6 := n6.seg
  have g7 := n7.seg
  clear n6 n7
  refine hKK.out _ _ hHeld ?_
  clear hHeld
  intro hHeld
  clear hKK KK
  try simp only [Act.put, List.setIfInBounds_toArray, List.set_cons_zero, List.set_cons_succ]
  refine take' 7 (v := ?_) rfl (by kernel_rfl) (by kernel_rfl) (by kernel_rfl) (fun _ _ _ h => h) (Or.inl ⟨by rfl, ?_⟩) (by assumption) ?_
  rotate_left
  · intro w9 hSw
    go_simp
    first | done | with_reducible rfl
  simp only [Act.put, List.setIfInBounds_toArray, List.set_cons_zero, List.set_cons_succ]
  refine wpAnyH_ready (rs := [8]) (by kernel_rfl) (by simp) ?_
  refine cons' rfl (fun KK hKK => ?_)
  have fz := fun o => rB.2.frozen o
  have z0 := rB.1.1
  have z1 := rB.1.2.1
  have z2 := rB.1.2.2.1
  have z3 := rB.1.2.2.2
  replace g6 := rB.seg (u0 := .slice a5 R5.length c5) (u1 := .bool (ng s.num)) (u2 := .slice p6 (ln (am s.num)) (ln (am s.num))) (u3 := .slice q6 (ln s.den) (ln s.den)) (by simp) (by simp) (by simp) (by simp) g6
  replace g7 := rB.seg (u0 := .slice a5 R5.length c5) (u1 := .bool (ng s.num)) (u2 := .slice p6 (ln (am s.num)) (ln (am s.num))) (u3 := .slice q6 (ln s.den) (ln s.den)) (by simp) (by simp) (by simp) (by simp) g7
  have s7 : Sl _ a5 c5 R5 := ⟨rB.fat (u0 := .slice a5 R5.length c5) (u1 := .bool (ng s.num)) (u2 := .slice p6 (ln (am s.num)) (ln (am s.num))) (u3 := .slice q6 (ln s.den) (ln s.den)) (by simp) (by simp) (by simp) (by simp) s5.lies, s5.len, s5.nn⟩
  have E7 : Ents _ R5 := fun p hp => rB.ok (u0 := .slice a5 R5.length c5) (u1 := .bool (ng s.num)) (u2 := .slice p6 (ln (am s.num)) (ln (am s.num))) (u3 := .slice q6 (ln s.den) (ln s.den)) (by simp) (by simp) (by simp) (by simp) (E5 p hp)
  replace hB := below_set4 (u0 := .slice a5 R5.length c5) (u1 := .bool (ng s.num)) (u2 := .slice p6 (ln (am s.num)) (ln (am s.num))) (u3 := .slice q6 (ln s.den) (ln s.den)) hB (show w.heap.size ≤ w.heap.size + 1 by omega)
  have hH2 := (⟨(set4_far (w := w6) (c := w.heap.size + 1) (b := w3.heap.size) (o := 0) (u0 := .slice a5 R5.length c5) (u1 := .bool (ng s.num)) (u2 := .slice p6 (ln (am s.num)) (ln (am s.num))) (u3 := .slice q6 (ln s.den) (ln s.den)) (by omega)).trans hHeld.1, (set4_far (w := w6) (c := w.heap.size + 1) (b := w3.heap.size) (o := 1) (u0 := .slice a5 R5.length c5) (u1 := .bool (ng s.num)) (u2 := .slice p6 (ln (am s.num)) (ln (am s.num))) (u3 := .slice q6 (ln s.den) (ln s.den)) (by omega)).trans hHeld.2.1, (set4_far (w := w6) (c := w.heap.size + 1) (b := w3.heap.size) (o := 2) (u0 := .slice a5 R5.length c5) (u1 := .bool (ng s.num)) (u2 := .slice p6 (ln (am s.num)) (ln (am s.num))) (u3 := .slice q6 (ln s.den) (ln s.den)) (by omega)).trans hHeld.2.2.1, (set4_far (w := w6) (c := w.heap.size + 1) (b := w.heap.size) (o := 1) (u0 := .slice a5 R5.length c5) (u1 := .bool (ng s.num)) (u2 := .slice p6 (ln (am s.num)) (ln (am s.num))) (u3 := .slice q6 (ln s.den) (ln s.den)) (by omega)).trans hHeld.2.2.2.1, (set4_far (w := w6) (c := w.heap.size + 1) (b := w.heap.size) (o := 2) (u0 := .slice a5 R5.length c5) (u1 := .bool (ng s.num)) (u2 := .slice p6 (ln (am s.num)) (ln (am s.num))) (u3 := .slice q6 (ln s.den) (ln s.den)) (by omega)).trans hHeld.2.2.2.2.1, (set4_far (w := w6) (c := w.heap.size + 1) (b := w.heap.size) (o := 3) (u0 := .slice a5 R5.length c5) (u1 := .bool (ng s.num)) (u2 := .slice p6 (ln (am s.num)) (ln (am s.num))) (u3 := .slice q6 (ln s.den) (ln s.den)) (by omega)).trans hHeld.2.2.2.2.2⟩ : _ ∧ _ ∧ _ ∧ _ ∧ _ ∧ _)
  have rD := rB.put (u0 := .slice a5 R5.length c5) (u1 := .bool (ng s.num)) (u2 := .slice p6 (ln (am s.num)) (ln (am s.num))) (u3 := .slice q6 (ln s.den) (ln s.den))
  go_simp
  clear z0 z1 z2 z3 fz rB s5 E5
  refine hKK.out _ _ hH2 ?_
  clear hHeld
  intro hHeld
  clear hKK KK
  try simp only [Act.put, List.setIfInBounds_toArray, List.set_cons_zero, List.set_cons_succ]
  clear hH2
  try unfold set4 at g6
  try unfold set4 at g7
  try unfold set4 at s7
  try unfold set4 at E7
  try unfold set4 at rD
  try unfold set4 at hB
  try unfold set4 at hHeld
  generalize ((((w6.setCell ⟨w.heap.size + 1, 0, none⟩ (.slice a5 R5.length c5)).setCell ⟨w.heap.size + 1, 1, none⟩ (.bool (ng s.num))).setCell ⟨w.heap.size + 1, 2, none⟩ (.slice p6 (ln (am s.num)) (ln (am s.num)))).setCell ⟨w.heap.size + 1, 3, none⟩ (.slice q6 (ln s.den) (ln s.den))) = w7 at g6 g7 s7 E7 rD hB hHeld ⊢
  refine take' 9 (v := ?_) rfl (by kernel_rfl) (by kernel_rfl) (by kernel_rfl) (fun _ _ _ h => h) (Or.inl ⟨by rfl, ?_⟩) (by assumption) ?_
  rotate_left
  · intro w9 hSw
    go_simp
    first | done | with_reducible rfl
  simp only [Act.put, List.setIfInBounds_toArray, List.set_cons_zero, List.set_cons_succ]
  refine wpAnyH_done (by kernel_rfl) ?_ _
  obtain ⟨⟨v0, v1, v2, v3⟩, vR⟩ := rD
  go_wp2
  refine bodyPost_ret (v := .tuple #[.agg #[.slice a5 R5.length c5, .bool (ng s.num), .slice p6 (ln (am s.num)) (ln (am s.num)), .slice q6 (ln s.den) (ln s.den)], .int .i64 0]) (by rw [results_ct rfl]; go_simp) rfl ?_
  rw [← hTT.out, hs]
  exact ⟨a5, c5, R5, p6, q6, rfl, hB, s7, E7, f5, g6, g7⟩
end Go.Proofs.YthpakdmfbbmbiaaGreat

namespace Go.Proofs.YthpakdmfbbmbiaaGreat
open Go.RowKit
set_option linter.unusedVariables false
set_option linter.unusedSimpArgs false

/-- an answer that is an affine form -/
def AfAns (w : World) (l : Fo) (s : Rat) (e : Ending) (w' : World) : Prop :=
  ∃ a c R p q, e = .returned (.agg #[.slice a (R : List Mo).length c, .bool (ng s.num), .slice p (ln (am s.num)) (ln (am s.num)), .slice q (ln s.den) (ln s.den)]) ∧ Below w.heap.size w w' ∧
    Sl w' a c R ∧ (∀ p ∈ R, Ent w' p) ∧ fo R = l ∧ Seg w' p (am s.num) (ln (am s.num)) ∧ Seg w' q s.den (ln s.den)

set_option maxHeartbeats 8000000 in
set_option maxRecDepth 100000 in
theorem lSubst_is (a : Option Addr) (ca : Nat) (L : List Mo) (D : RatV) (x : Int) (b : Option Addr) (cb : Nat) (G : List Mo) (E : RatV) (w : World) (hF : FAt w a L) (hok : ∀ p ∈ L, p.2.ok w ∧ p.2.m < 35184372087808) (hc : L.length ≤ ca) (hm : L.length ≤ 1048576) (hD : D.ok w) (hb : bulkL L + D.n + D.m ≤ 4194304)
    (hG : FAt w b G) (hkG : ∀ p ∈ G, p.2.ok w) (hcG : G.length ≤ cb) (hmG : G.length ≤ 1048576) (hKG : ∀ p ∈ G, p.2.n + p.2.m ≤ 100000000) (hE : E.ok w) (hEn : E.n + E.m ≤ 100000000) (hf : fine (fmap (fun r => co x (fo L) * r) (fo G))) :
    Calls Tryz.prog 5 #[.agg #[.slice a L.length ca, .bool D.s, .slice D.a D.n D.c, .slice D.b D.m D.e], .int .i64 x, .agg #[.slice b G.length cb, .bool E.s, .slice E.a E.n E.c, .slice E.b E.m E.e]] w (AfAns w (mrg (nfm (fo (oth x L))) (nfm (fmap (fun r => co x (fo L) * r) (fo G)))) (D.val + co x (fo L) * E.val)) := by
  have hs : sz 4194305 (co x (fo L)) := (co_sz x (fo L)).mono (by have := wts_bulk L (fun p hp => (hok p hp).1); omega)
  have hbo := bulkL_oth x L
  have hwo := Nat.le_trans (wts_bulk (oth x L) (fun p hp => (hok p (oth_mem hp)).1)) hbo
  have hmo : (oth x L).length ≤ 1048576 := Nat.le_trans (List.length_filter_le _ _) hm
  have G1 := hide' (fun w' (hb9 : Below w.heap.size w w') => apart_is a ca L x w' (hF.later hb9) (fun p hp => And.intro ((hok p hp).1.later hb9) (hok p hp).2) hc hm (by have := bulkL_mine x L; omega))
  have hko := fun p hp => hok p (oth_mem (x := x) hp)
  clear hF hok hc hm hbo
  obtain ⟨r, hr⟩ : ∃ r, co x (fo L) = r := ⟨_, rfl⟩
  rw [hr] at hs hf ⊢
  replace hr := hide' hr
  obtain ⟨e1, e2⟩ := norm_sz hE
  have hsm : sz 274877906944 (r * E.val) := (sz_mul hs (show sz 100000010 E.val from ⟨by omega, by omega⟩)).mono (by omega)
  have HS := hide' (And.intro hs (And.intro hko (And.intro hwo (And.intro hmo (And.intro hb (And.intro hD (And.intro hG (And.intro hkG (And.intro hcG (And.intro hmG (And.intro hKG (And.intro hE (And.intro hEn (And.intro hf hsm))))))))))))))
  clear hs hko hwo hmo hb hD hG hkG hcG hmG hKG hE hEn hf hsm e1 e2
  obtain ⟨TT, hTT⟩ : ∃ TT, AfAns w (mrg (nfm (fo (oth x L))) (nfm (fmap (fun r9 => r * r9) (fo G)))) (D.val + r * E.val) = TT := ⟨_, rfl⟩
  rw [hTT]
  replace hTT := hide' hTT
  go_enter Tryz.func5, Tryz.ntmps5
  go_wp2_with fail
  obtain ⟨wA, hwA⟩ : ∃ wA, ((w.alloc (.cells #[.slice a L.length ca, .bool D.s, .slice D.a D.n D.c, .slice D.b D.m D.e] 31)).alloc (.cells #[.slice b G.length cb, .bool E.s, .slice E.a E.n E.c, .slice E.b E.m E.e] 31)).alloc (.cells #[.slice none 0 0, .bool false, .slice none 0 0, .slice none 0 0] 31) = wA := ⟨_, rfl⟩
  have bA : Below w.heap.size w wA := by subst hwA; exact ((below_alloc _).trans ((below_alloc _).mono (below_alloc _).size)).trans ((below_alloc _).mono ((below_alloc _).trans ((below_alloc _).mono (below_alloc _).size)).size)
  have rA : Four wA (w.heap.size + 1 + 1) (.slice none 0 0) (.bool false) (.slice none 0 0) (.slice none 0 0) := by subst hwA; exact ⟨⟨by go_simp, by go_simp, by go_simp, by go_simp⟩, by have h := row_new ((w.alloc (.cells #[.slice a L.length ca, .bool D.s, .slice D.a D.n D.c, .slice D.b D.m D.e] 31)).alloc (.cells #[.slice b G.length cb, .bool E.s, .slice E.a E.n E.c, .slice E.b E.m E.e] 31)) #[.slice none 0 0, .bool false, .slice none 0 0, .slice none 0 0] 31; rw [show ((w.alloc (.cells #[.slice a L.length ca, .bool D.s, .slice D.a D.n D.c, .slice D.b D.m D.e] 31)).alloc (.cells #[.slice b G.length cb, .bool E.s, .slice E.a E.n E.c, .slice E.b E.m E.e] 31)).heap.size = w.heap.size + 1 + 1 from (Array.size_push _).trans (congrArg (· + 1) (Array.size_push _))] at h; exact h⟩
  have d1 : wA.cell? ⟨w.heap.size, 1, none⟩ = some (.bool D.s) := by subst hwA; go_simp
  have d2 : wA.cell? ⟨w.heap.size, 2, none⟩ = some (.slice D.a D.n D.c) := by subst hwA; go_simp
  have d3 : wA.cell? ⟨w.heap.size, 3, none⟩ = some (.slice D.b D.m D.e) := by subst hwA; go_simp
  have f0 : wA.cell? ⟨w.heap.size + 1, 0, none⟩ = some (.slice b G.length cb) := by subst hwA; go_simp
  have f1 : wA.cell? ⟨w.heap.size + 1, 1, none⟩ = some (.bool E.s) := by subst hwA; go_simp
  have f2 : wA.cell? ⟨w.heap.size + 1, 2, none⟩ = some (.slice E.a E.n E.c) := by subst hwA; go_simp
  have f3 : wA.cell? ⟨w.heap.size + 1, 3, none⟩ = some (.slice E.b E.m E.e) := by subst hwA; go_simp
  rw [hwA]
  clear hwA
  have hz1 : w.heap.size + 1 + 1 < wA.heap.size := rA.2.lt
  refine (G1.out _ bA).mono ?_
  rintro e w1 ⟨p, q, a1, c1, rfl, b1, g1, g2, s1⟩
  rw [hr.out] at g1 g2 ⊢
  have rB := rA.later b1
  have hB := bA.trans (b1.mono bA.size)
  replace hz1 := Nat.lt_of_lt_of_le hz1 b1.size
  replace d1 := below_cell b1 d1
  replace d2 := below_cell b1 d2
  replace d3 := below_cell b1 d3
  replace f0 := below_cell b1 f0
  replace f1 := below_cell b1 f1
  replace f2 := below_cell b1 f2
  replace f3 := below_cell b1 f3
  clear rA b1 bA
  obtain ⟨wC, hwC⟩ : ∃ wC, w1.alloc (.cells #[.bool (ng r.num), .slice p (ln (am r.num)) (ln (am r.num)), .slice q (ln r.den) (ln r.den)] 29) = wC := ⟨_, rfl⟩
  have bC : Below w1.heap.size w1 wC := by subst hwC; exact below_alloc _
  have y0 : wC.cell? ⟨w1.heap.size, 0, none⟩ = some (.bool (ng r.num)) := by subst hwC; go_simp
  have y1 : wC.cell? ⟨w1.heap.size, 1, none⟩ = some (.slice p (ln (am r.num)) (ln (am r.num))) := by subst hwC; go_simp
  have y2 : wC.cell? ⟨w1.heap.size, 2, none⟩ = some (.slice q (ln r.den) (ln r.den)) := by subst hwC; go_simp
  replace rB := rB.later bC
  replace hB := hB.trans (bC.mono hB.size)
  replace g1 := g1.later bC
  replace g2 := g2.later bC
  replace s1 := s1.later bC
  replace d1 := below_cell bC d1
  replace d2 := below_cell bC d2
  replace d3 := below_cell bC d3
  replace f0 := below_cell bC f0
  replace f1 := below_cell bC f1
  replace f2 := below_cell bC f2
  replace f3 := below_cell bC f3
  clear bC
  obtain ⟨hs, hko, hwo, hmo, hb, hD, hG, hkG, hcG, hmG, hKG, hE, hEn, hf, hsm⟩ := HS.out
  have hCo : (RatV.of r.num r.den p q).ok wC := ⟨g1, Nat.le_refl _, Nat.le_trans hs.1 (by omega), g2, Nat.le_refl _, Nat.le_trans hs.2 (by omega)⟩
  have hn1 : (RatV.of r.num r.den p q).n ≤ 4194305 := hs.1
  have hn2 : (RatV.of r.num r.den p q).m ≤ 4194305 := hs.2
  have G4 := hide' (fun w' (hb9 : Below wC.heap.size wC w') => lNorm_is a1 c1 (oth x L) w' (s1.lies.later hb9) (fun p hp => ((hko p hp).1.later hB).later hb9) s1.len hmo (fun p hp => (hko p hp).2) (thin_of (by omega)))
  have G5 := hide' (fun w' (hb9 : Below wC.heap.size wC w') => lScaleF_is (RatV.of r.num r.den p q) b cb G 200000000 w' ((hG.later hB).later hb9) (fun p hp => ((hkG p hp).later hB).later hb9) hcG hmG (hCo.later hb9) (fun p hp => by have := hKG p hp; omega) (by omega) (by omega) (by rw [val_ofR]; exact hf))
  rw [val_ofR] at G5
  have G6 := hide' (fun w' (hb9 : Below wC.heap.size wC w') => qMul_is (ng r.num) p (ln (am r.num)) (ln (am r.num)) (am r.num) q (ln r.den) (ln r.den) r.den E.s E.a E.n E.c E.X E.b E.m E.e E.Y (r * E.val).num (r * E.val).den w' (Nat.le_refl _) (Nat.le_trans hs.1 (by omega)) (g1.later hb9) (Nat.le_refl _) (Nat.le_trans hs.2 (by omega)) (g2.later hb9) hE.2.1 (by omega) ((hE.later hB).1.later hb9) hE.2.2.2.2.1 (by omega) ((hE.later hB).2.2.2.1.later hb9) (by have h := low_mul (RatV.of r.num r.den p q) E; rw [val_ofR] at h; exact h))
  obtain ⟨m, hm9⟩ : ∃ m, r * E.val = m := ⟨_, rfl⟩
  rw [hm9] at G6 hsm
  have G7 := hide' (fun w' (hb9 : Below wC.heap.size wC w') p6 q6 k1 k2 => qAdd_is D.s D.a D.n D.c D.X D.b D.m D.e D.Y (ng m.num) p6 (ln (am m.num)) (ln (am m.num)) (am m.num) q6 (ln m.den) (ln m.den) m.den (D.val + m).num (D.val + m).den w' hD.2.1 (by omega) ((hD.later hB).1.later hb9) hD.2.2.2.2.1 (by omega) ((hD.later hB).2.2.2.1.later hb9) (Nat.le_refl _) (Nat.le_trans hsm.1 (by omega)) k1 (Nat.le_refl _) (Nat.le_trans hsm.2 (by omega)) k2 (by have h := low_add D (RatV.of m.num m.den p6 q6); rw [val_ofR] at h; exact h))
  obtain ⟨s, hs9⟩ : ∃ s, D.val + m = s := ⟨_, rfl⟩
  rw [hs9] at G7
  have Y1 := hide' (fun w' (R4 : List Mo) (e4 : ∀ p ∈ R4, Ent w' p) (f4 : fo R4 = nfm (fo (oth x L))) => And.intro (entS_sz e4 f4 (fun y => (co_sz y _).mono (by omega))) (show R4.length ≤ 1048576 by have h := nfm_length (fo (oth x L)); rw [← f4, fo_length, fo_length] at h; omega))
  have Y2 := hide' (fun w' (R5 : List Mo) (e5 : ∀ p ∈ R5, Ent w' p) (f5 : fo R5 = nfm (fmap (fun r9 => r * r9) (fo G))) => And.intro (entS_sz e5 f5 hf.all) (show R5.length ≤ 1048576 by have h := nfm_length (fmap (fun r9 => r * r9) (fo G)); rw [← f5, fo_length, fmap_length, fo_length] at h; omega))
  clear g1 g2 s1 hCo hn1 hn2 hs hko hwo hmo hb hD hG hkG hcG hmG hKG hE hEn hf hsm HS
  have bW : Below wC.heap.size wC wC := Below.refl _ _
  go_wp2_with fail
  clear hwC
  have bD : Below wC.heap.size wC wC.drew := (Below.refl _ _).drew
  have ky0 := below_cell bD y0
  have ky1 := below_cell bD y1
  have ky2 := below_cell bD y2
  have kd1 := below_cell bD d1
  have kd2 := below_cell bD d2
  have kd3 := below_cell bD d3
  have kf0 := below_cell bD f0
  have kf1 := below_cell bD f1
  have kf2 := below_cell bD f2
  have kf3 := below_cell bD f3
  replace bW := bW.trans (bD.mono bW.size)
  replace hB := hB.trans (bD.mono hB.size)
  replace rB := rB.later bD
  refine wp_region_held_drew (S := fun w' => w'.cell? ⟨w1.heap.size, 0, none⟩ = some (.bool (ng r.num)) ∧ w'.cell? ⟨w1.heap.size, 1, none⟩ = some (.slice p (ln (am r.num)) (ln (am r.num))) ∧ w'.cell? ⟨w1.heap.size, 2, none⟩ = some (.slice q (ln r.den) (ln r.den)) ∧ w'.cell? ⟨w.heap.size, 1, none⟩ = some (.bool D.s) ∧ w'.cell? ⟨w.heap.size, 2, none⟩ = some (.slice D.a D.n D.c) ∧ w'.cell? ⟨w.heap.size, 3, none⟩ = some (.slice D.b D.m D.e) ∧ w'.cell? ⟨w.heap.size + 1, 0, none⟩ = some (.slice b G.length cb) ∧ w'.cell? ⟨w.heap.size + 1, 1, none⟩ = some (.bool E.s) ∧ w'.cell? ⟨w.heap.size + 1, 2, none⟩ = some (.slice E.a E.n E.c) ∧ w'.cell? ⟨w.heap.size + 1, 3, none⟩ = some (.slice E.b E.m E.e)) (by kernel_rfl) ⟨ky0, ky1, ky2, kd1, kd2, kd3, kf0, kf1, kf2, kf3⟩ (fun hHeld => ?_)
  clear ky0 ky1 ky2 kd1 kd2 kd3 kf0 kf1 kf2 kf3
  generalize wC.drew = w0 at bD rB bW hB hHeld ⊢
  clear y0 y1 y2 d1 d2 d3 f0 f1 f2 f3
  refine take' 0 (v := ?_) rfl (by kernel_rfl) (by kernel_rfl) (by kernel_rfl) (fun _ _ _ h => h) (Or.inl ⟨by rfl, ?_⟩) (by assumption) ?_
  rotate_left
  · intro w9 hSw
    go_simp
    first | done | with_reducible rfl
  simp only [Act.put, List.setIfInBounds_toArray, List.set_cons_zero, List.set_cons_succ]
  refine take' 2 (v := ?_) rfl (by kernel_rfl) (by kernel_rfl) (by kernel_rfl) (fun _ _ _ h => h) (Or.inl ⟨by rfl, ?_⟩) (by assumption) ?_
  rotate_left
  · intro w9 hSw
    go_simp
    first | done | with_reducible rfl
  simp only [Act.put, List.setIfInBounds_toArray, List.set_cons_zero, List.set_cons_succ]
  refine take' 3 (v := ?_) rfl (by kernel_rfl) (by kernel_rfl) (by kernel_rfl) (fun _ _ _ h => h) (Or.inl ⟨by rfl, ?_⟩) (by assumption) ?_
  rotate_left
  · intro w9 hSw
    go_simp
    first | done | with_reducible rfl
  simp only [Act.put, List.setIfInBounds_toArray, List.set_cons_zero, List.set_cons_succ]
  refine take' 4 (v := ?_) rfl (by kernel_rfl) (by kernel_rfl) (by kernel_rfl) (fun _ _ _ h => h) (Or.inl ⟨by rfl, ?_⟩) (by assumption) ?_
  rotate_left
  · intro w9 hSw
    go_simp
    first | done | with_reducible rfl
  simp only [Act.put, List.setIfInBounds_toArray, List.set_cons_zero, List.set_cons_succ]
  refine take' 7 (v := ?_) rfl (by kernel_rfl) (by kernel_rfl) (by kernel_rfl) (fun _ _ _ h => h) (Or.inl ⟨by rfl, ?_⟩) (by assumption) ?_
  rotate_left
  · intro w9 hSw
    go_simp
    first | done | with_reducible rfl
  simp only [Act.put, List.setIfInBounds_toArray, List.set_cons_zero, List.set_cons_succ]
  refine take' 8 (v := ?_) rfl (by kernel_rfl) (by kernel_rfl) (by kernel_rfl) (fun _ _ _ h => h) (Or.inl ⟨by rfl, ?_⟩) (by assumption) ?_
  rotate_left
  · intro w9 hSw
    go_simp
    first | done | with_reducible rfl
  simp only [Act.put, List.setIfInBounds_toArray, List.set_cons_zero, List.set_cons_succ]
  refine take' 9 (v := ?_) rfl (by kernel_rfl) (by kernel_rfl) (by kernel_rfl) (fun _ _ _ h => h) (Or.inl ⟨by rfl, ?_⟩) (by assumption) ?_
  rotate_left
  · intro w9 hSw
    go_simp
    first | done | with_reducible rfl
  simp only [Act.put, List.setIfInBounds_toArray, List.set_cons_zero, List.set_cons_succ]
  refine take' 10 (v := ?_) rfl (by kernel_rfl) (by kernel_rfl) (by kernel_rfl) (fun _ _ _ h => h) (Or.inl ⟨by rfl, ?_⟩) (by assumption) ?_
  rotate_left
  · intro w9 hSw
    go_simp
    first | done | with_reducible rfl
  simp only [Act.put, List.setIfInBounds_toArray, List.set_cons_zero, List.set_cons_succ]
  refine take' 11 (v := ?_) rfl (by kernel_rfl) (by kernel_rfl) (by kernel_rfl) (fun _ _ _ h => h) (Or.inl ⟨by rfl, ?_⟩) (by assumption) ?_
  rotate_left
  · intro w9 hSw
    go_simp
    first | done | with_reducible rfl
  simp only [Act.put, List.setIfInBounds_toArray, List.set_cons_zero, List.set_cons_succ]
  refine wpAnyH_ready (rs := [1]) (by kernel_rfl) (by simp) ?_
  refine cons' rfl (fun KK hKK => ?_)
  go_simp
  refine (G4.out _ bW).mono ?_
  rintro e w4 ⟨a4, c4, R4, rfl, b4, s4, e4, f4⟩
  have bC := b4
  replace bW := bW.trans (bC.mono bW.size)
  replace hB := hB.trans (bC.mono hB.size)
  replace rB := rB.later bC
  replace hHeld := (⟨below_cell bC hHeld.1, below_cell bC hHeld.2.1, below_cell bC hHeld.2.2.1, below_cell bC hHeld.2.2.2.1, below_cell bC hHeld.2.2.2.2.1, below_cell bC hHeld.2.2.2.2.2.1, below_cell bC hHeld.2.2.2.2.2.2.1, below_cell bC hHeld.2.2.2.2.2.2.2.1, below_cell bC hHeld.2.2.2.2.2.2.2.2.1, below_cell bC hHeld.2.2.2.2.2.2.2.2.2⟩ : _ ∧ _ ∧ _ ∧ _ ∧ _ ∧ _ ∧ _ ∧ _ ∧ _ ∧ _)
  clear bC
  go_wp2_with fail
  have E4 : Ents w4 R4 := e4
  clear e4 b4
  refine hKK.out _ _ hHeld ?_
  clear hHeld
  intro hHeld
  clear hKK KK
  try simp only [Act.put, List.setIfInBounds_toArray, List.set_cons_zero, List.set_cons_succ]
  refine wpAnyH_ready (rs := [5]) (by kernel_rfl) (by simp) ?_
  refine cons' rfl (fun KK hKK => ?_)
  go_simp
  refine (G5.out _ bW).mono ?_
  rintro e w5 ⟨a5, c5, R5, rfl, b5, s5, e5, f5⟩
  have bC := b5
  replace bW := bW.trans (bC.mono bW.size)
  replace hB := hB.trans (bC.mono hB.size)
  replace rB := rB.later bC
  replace s4 := s4.later bC
  replace E4 := E4.later bC
  replace hHeld := (⟨below_cell bC hHeld.1, below_cell bC hHeld.2.1, below_cell bC hHeld.2.2.1, below_cell bC hHeld.2.2.2.1, below_cell bC hHeld.2.2.2.2.1, below_cell bC hHeld.2.2.2.2.2.1, below_cell bC hHeld.2.2.2.2.2.2.1, below_cell bC hHeld.2.2.2.2.2.2.2.1, below_cell bC hHeld.2.2.2.2.2.2.2.2.1, below_cell bC hHeld.2.2.2.2.2.2.2.2.2⟩ : _ ∧ _ ∧ _ ∧ _ ∧ _ ∧ _ ∧ _ ∧ _ ∧ _ ∧ _)
  clear bC
  go_wp2_with fail
  have E5 : Ents w5 R5 := e5
  clear e5 b5
  refine hKK.out _ _ hHeld ?_
  clear hHeld
  intro hHeld
  clear hKK KK
  try simp only [Act.put, List.setIfInBounds_toArray, List.set_cons_zero, List.set_cons_succ]
  refine wpAnyH_ready (rs := [6]) (by kernel_rfl) (by simp) ?_
  refine cons' rfl (fun KK hKK => ?_)
  obtain ⟨x4, l4⟩ := Y1.out _ R4 E4 f4
  obtain ⟨x5, l5⟩ := Y2.out _ R5 E5 f5
  go_simp
  refine (lsum_is a4 c4 R4 a5 c5 R5 _ s4 s5 x4 x5 (by omega)).mono ?_
  rintro e w6 ⟨a6, c6, R6, rfl, b6, s6, e6, f6⟩
  have bC := b6
  replace bW := bW.trans (bC.mono bW.size)
  replace hB := hB.trans (bC.mono hB.size)
  replace rB := rB.later bC
  replace s4 := s4.later bC
  replace E4 := E4.later bC
  replace s5 := s5.later bC
  replace E5 := E5.later bC
  replace hHeld := (⟨below_cell bC hHeld.1, below_cell bC hHeld.2.1, below_cell bC hHeld.2.2.1, below_cell bC hHeld.2.2.2.1, below_cell bC hHeld.2.2.2.2.1, below_cell bC hHeld.2.2.2.2.2.1, below_cell bC hHeld.2.2.2.2.2.2.1, below_cell bC hHeld.2.2.2.2.2.2.2.1, below_cell bC hHeld.2.2.2.2.2.2.2.2.1, below_cell bC hHeld.2.2.2.2.2.2.2.2.2⟩ : _ ∧ _ ∧ _ ∧ _ ∧ _ ∧ _ ∧ _ ∧ _ ∧ _ ∧ _)
  clear bC
  go_wp2_with fail
  have E6 : Ents w6 R6 := e6
  clear e6 b6 s4 s5 E4 E5 x4 x5 l4 l5
  refine hKK.out _ _ hHeld ?_
  clear hHeld
  intro hHeld
  clear hKK KK
  try simp only [Act.put, List.setIfInBounds_toArray, List.set_cons_zero, List.set_cons_succ]
  refine wpAnyH_ready (rs := [12]) (by kernel_rfl) (by simp) ?_
  refine cons' rfl (fun KK hKK => ?_)
  go_simp
  refine (G6.out _ bW).mono ?_
  rintro e w7 ⟨p7, q7, rfl, n6, n7⟩
  have bC := n6.below
  replace bW := bW.trans (bC.mono bW.size)
  replace hB := hB.trans (bC.mono hB.size)
  replace rB := rB.later bC
  replace s6 := s6.later bC
  replace E6 := E6.later bC
  replace hHeld := (⟨below_cell bC hHeld.1, below_cell bC hHeld.2.1, below_cell bC hHeld.2.2.1, below_cell bC hHeld.2.2.2.1, below_cell bC hHeld.2.2.2.2.1, below_cell bC hHeld.2.2.2.2.2.1, below_cell bC hHeld.2.2.2.2.2.2.1, below_cell bC hHeld.2.2.2.2.2.2.2.1, below_cell bC hHeld.2.2.2.2.2.2.2.2.1, below_cell bC hHeld.2.2.2.2.2.2.2.2.2⟩ : _ ∧ _ ∧ _ ∧ _ ∧ _ ∧ _ ∧ _ ∧ _ ∧ _ ∧ _)
  clear bC
  go_wp2_with fail
  have g6 := n6.seg
  have g7 := n7.seg
  clear n6 n7
  refine hKK.out _ _ hHeld ?_
  clear hHeld
  intro hHeld
  clear hKK KK
  try simp only [Act.put, List.setIfInBounds_toArray, List.set_cons_zero, List.set_cons_succ]
  refine wpAnyH_ready (rs := [13]) (by kernel_rfl) (by simp) ?_
  refine cons' rfl (fun KK hKK => ?_)
  go_simp
  refine (G7.out _ bW p7 q7 g6 g7).mono ?_
  rintro e w8 ⟨p8, q8, rfl, n8, n9⟩
  have bC := n8.below
  replace bW := bW.trans (bC.mono bW.size)
  replace hB := hB.trans (bC.mono hB.size)
  replace rB := rB.later bC
  replace s6 := s6.later bC
  replace E6 := E6.later bC
  replace g6 := g6.later bC
  replace g7 := g7.later bC
  replace hHeld := (⟨below_cell bC hHeld.1, below_cell bC hHeld.2.1, below_cell bC hHeld.2.2.1, below_cell bC hHeld.2.2.2.1, below_cell bC hHeld.2.2.2.2.1, below_cell bC hHeld.2.2.2.2.2.1, below_cell bC hHeld.2.2.2.2.2.2.1, below_cell bC hHeld.2.2.2.2.2.2.2.1, below_cell bC hHeld.2.2.2.2.2.2.2.2.1, below_cell bC hHeld.2.2.2.2.2.2.2.2.2⟩ : _ ∧ _ ∧ _ ∧ _ ∧ _ ∧ _ ∧ _ ∧ _ ∧ _ ∧ _)
  clear bC
  go_wp2_with fail
  have g8 := n8.seg
  have g9 := n9.seg
  clear n8 n9 g6 g7
  refine hKK.out _ _ hHeld ?_
  clear hHeld
  intro hHeld
  clear hKK KK
  try simp only [Act.put, List.setIfInBounds_toArray, List.set_cons_zero, List.set_cons_succ]
  refine take' 14 (v := ?_) rfl (by kernel_rfl) (by kernel_rfl) (by kernel_rfl) (fun _ _ _ h => h) (Or.inl ⟨by rfl, ?_⟩) (by assumption) ?_
  rotate_left
  · intro w9 hSw
    go_simp
    first | done | with_reducible rfl
  simp only [Act.put, List.setIfInBounds_toArray, List.set_cons_zero, List.set_cons_succ]
  refine wpAnyH_ready (rs := [15]) (by kernel_rfl) (by simp) ?_
  refine cons' rfl (fun KK hKK => ?_)
  have fz := fun o => rB.2.frozen o
  have z0 := rB.1.1
  have z1 := rB.1.2.1
  have z2 := rB.1.2.2.1
  have z3 := rB.1.2.2.2
  replace g8 := rB.seg (u0 := .slice a6 R6.length c6) (u1 := .bool (ng s.num)) (u2 := .slice p8 (ln (am s.num)) (ln (am s.num))) (u3 := .slice q8 (ln s.den) (ln s.den)) (by simp) (by simp) (by simp) (by simp) g8
  replace g9 := rB.seg (u0 := .slice a6 R6.length c6) (u1 := .bool (ng s.num)) (u2 := .slice p8 (ln (am s.num)) (ln (am s.num))) (u3 := .slice q8 (ln s.den) (ln s.den)) (by simp) (by simp) (by simp) (by simp) g9
  have s7 : Sl _ a6 c6 R6 := ⟨rB.fat (u0 := .slice a6 R6.length c6) (u1 := .bool (ng s.num)) (u2 := .slice p8 (ln (am s.num)) (ln (am s.num))) (u3 := .slice q8 (ln s.den) (ln s.den)) (by simp) (by simp) (by simp) (by simp) s6.lies, s6.len, s6.nn⟩
  have E7 : Ents _ R6 := fun p hp => rB.ok (u0 := .slice a6 R6.length c6) (u1 := .bool (ng s.num)) (u2 := .slice p8 (ln (am s.num)) (ln (am s.num))) (u3 := .slice q8 (ln s.den) (ln s.den)) (by simp) (by simp) (by simp) (by simp) (E6 p hp)
  replace hB := below_set4 (u0 := .slice a6 R6.length c6) (u1 := .bool (ng s.num)) (u2 := .slice p8 (ln (am s.num)) (ln (am s.num))) (u3 := .slice q8 (ln s.den) (ln s.den)) hB (show w.heap.size ≤ w.heap.size + 1 + 1 by omega)
  have hH2 := (⟨(set4_far (w := w8) (c := w.heap.size + 1 + 1) (b := w1.heap.size) (o := 0) (u0 := .slice a6 R6.length c6) (u1 := .bool (ng s.num)) (u2 := .slice p8 (ln (am s.num)) (ln (am s.num))) (u3 := .slice q8 (ln s.den) (ln s.den)) (by omega)).trans hHeld.1, (set4_far (w := w8) (c := w.heap.size + 1 + 1) (b := w1.heap.size) (o := 1) (u0 := .slice a6 R6.length c6) (u1 := .bool (ng s.num)) (u2 := .slice p8 (ln (am s.num)) (ln (am s.num))) (u3 := .slice q8 (ln s.den) (ln s.den)) (by omega)).trans hHeld.2.1, (set4_far (w := w8) (c := w.heap.size + 1 + 1) (b := w1.heap.size) (o := 2) (u0 := .slice a6 R6.length c6) (u1 := .bool (ng s.num)) (u2 := .slice p8 (ln (am s.num)) (ln (am s.num))) (u3 := .slice q8 (ln s.den) (ln s.den)) (by omega)).trans hHeld.2.2.1, (set4_far (w := w8) (c := w.heap.size + 1 + 1) (b := w.heap.size) (o := 1) (u0 := .slice a6 R6.length c6) (u1 := .bool (ng s.num)) (u2 := .slice p8 (ln (am s.num)) (ln (am s.num))) (u3 := .slice q8 (ln s.den) (ln s.den)) (by omega)).trans hHeld.2.2.2.1, (set4_far (w := w8) (c := w.heap.size + 1 + 1) (b := w.heap.size) (o := 2) (u0 := .slice a6 R6.length c6) (u1 := .bool (ng s.num)) (u2 := .slice p8 (ln (am s.num)) (ln (am s.num))) (u3 := .slice q8 (ln s.den) (ln s.den)) (by omega)).trans hHeld.2.2.2.2.1, (set4_far (w := w8) (c := w.heap.size + 1 + 1) (b := w.heap.size) (o := 3) (u0 := .slice a6 R6.length c6) (u1 := .bool (ng s.num)) (u2 := .slice p8 (ln (am s.num)) (ln (am s.num))) (u3 := .slice q8 (ln s.den) (ln s.den)) (by omega)).trans hHeld.2.2.2.2.2.1, (set4_far (w := w8) (c := w.heap.size + 1 + 1) (b := w.heap.size + 1) (o := 0) (u0 := .slice a6 R6.length c6) (u1 := .bool (ng s.num)) (u2 := .slice p8 (ln (am s.num)) (ln (am s.num))) (u3 := .slice q8 (ln s.den) (ln s.den)) (by omega)).trans hHeld.2.2.2.2.2.2.1, (set4_far (w := w8) (c := w.heap.size + 1 + 1) (b := w.heap.size + 1) (o := 1) (u0 := .slice a6 R6.length c6) (u1 := .bool (ng s.num)) (u2 := .slice p8 (ln (am s.num)) (ln (am s.num))) (u3 := .slice q8 (ln s.den) (ln s.den)) (by omega)).trans hHeld.2.2.2.2.2.2.2.1, (set4_far (w := w8) (c := w.heap.size + 1 + 1) (b := w.heap.size + 1) (o := 2) (u0 := .slice a6 R6.length c6) (u1 := .bool (ng s.num)) (u2 := .slice p8 (ln (am s.num)) (ln (am s.num))) (u3 := .slice q8 (ln s.den) (ln s.den)) (by omega)).trans hHeld.2.2.2.2.2.2.2.2.1, (set4_far (w := w8) (c := w.heap.size + 1 + 1) (b := w.heap.size + 1) (o := 3) (u0 := .slice a6 R6.length c6) (u1 := .bool (ng s.num)) (u2 := .slice p8 (ln (am s.num)) (ln (am s.num))) (u3 := .slice q8 (ln s.den) (ln s.den)) (by omega)).trans hHeld.2.2.2.2.2.2.2.2.2⟩ : _ ∧ _ ∧ _ ∧ _ ∧ _ ∧ _ ∧ _ ∧ _ ∧ _ ∧ _)
  have rD := rB.put (u0 := .slice a6 R6.length c6) (u1 := .bool (ng s.num)) (u2 := .slice p8 (ln (am s.num)) (ln (am s.num))) (u3 := .slice q8 (ln s.den) (ln s.den))
  go_simp
  clear z0 z1 z2 z3 fz rB s6 E6
  refine hKK.out _ _ hH2 ?_
  clear hHeld
  intro hHeld
  clear hKK KK
  try simp only [Act.put, List.setIfInBounds_toArray, List.set_cons_zero, List.set_cons_succ]
  clear hH2
  try unfold set4 at g8
  try unfold set4 at g9
  try unfold set4 at s7
  try unfold set4 at E7
  try unfold set4 at rD
  try unfold set4 at hB
  try unfold set4 at hHeld
  generalize ((((w8.setCell ⟨w.heap.size + 1 + 1, 0, none⟩ (.slice a6 R6.length c6)).setCell ⟨w.heap.size + 1 + 1, 1, none⟩ (.bool (ng s.num))).setCell ⟨w.heap.size + 1 + 1, 2, none⟩ (.slice p8 (ln (am s.num)) (ln (am s.num)))).setCell ⟨w.heap.size + 1 + 1, 3, none⟩ (.slice q8 (ln s.den) (ln s.den))) = w9 at g8 g9 s7 E7 rD hB hHeld ⊢
  refine wpAnyH_done (by kernel_rfl) ?_ _
  obtain ⟨⟨v0, v1, v2, v3⟩, vR⟩ := rD
  go_wp2
  refine bodyPost_ret (v := .agg #[.slice a6 R6.length c6, .bool (ng s.num), .slice p8 (ln (am s.num)) (ln (am s.num)), .slice q8 (ln s.den) (ln s.den)]) (by rw [results_cell rfl]; go_simp) rfl ?_
  rw [← hTT.out, hm9, hs9]
  exact ⟨a6, c6, R6, p8, q8, rfl, hB, s7, E7, by rw [f6, f4, f5], g8, g9⟩
end Go.Proofs.YthpakdmfbbmbiaaGreat

namespace Go.Proofs.YthpakdmfbbmbiaaGreat
open Go.RowKit
set_option linter.unusedVariables false
set_option linter.unusedSimpArgs false

theorem sz_zero (N : Nat) (h : 1 ≤ N) : sz N 0 := ⟨by show ln 0 ≤ _; rw [ln_zero]; omega, by show ln 1 ≤ _; rw [ln_one]; omega⟩
theorem nrm.sub {l m : Fo} (h : nrm l) (hs : List.Sublist m l) : nrm m := ⟨h.1.sublist hs, fun p hp => h.2 p (hs.subset hp)⟩
end Go.Proofs.YthpakdmfbbmbiaaGreat
