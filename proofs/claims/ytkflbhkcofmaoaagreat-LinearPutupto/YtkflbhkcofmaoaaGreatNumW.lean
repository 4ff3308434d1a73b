/-
  Values of forms, and how long they are.
-/
import Derived.Test.YtkflbhkcofmaoaaGreatWN19
namespace Go.Proofs.YtkflbhkcofmaoaaGreat
open Go.RowKit
set_option linter.unusedVariables false
set_option linter.unusedSimpArgs false

/-- an answer that is an affine form -/
def AfAns (w : World) (l : Fo) (s : Rat) (e : Ending) (w' : World) : Prop :=
  ∃ a c R p q, e = .returned (.agg #[.slice a (R : List Mo).length c, .bool (ng s.num), .slice p (ln (am s.num)) (ln (am s.num)), .slice q (ln s.den) (ln s.den)]) ∧ Below w.heap.size w w' ∧
    Sl w' a c R ∧ (∀ p ∈ R, Ent w' p) ∧ fo R = l ∧ Seg w' p (am s.num) (ln (am s.num)) ∧ Seg w' q s.den (ln s.den)

set_option maxHeartbeats 8000000 in
set_option maxRecDepth 100000 in
theorem lSubst_is (a : Option Addr) (ca : Nat) (L : List Mo) (D : RatV) (x : Int) (b : Option Addr) (cb : Nat) (G : List Mo) (E : RatV) (w : World) (hF : FAt w a L) (hok : ∀ p ∈ L, p.2.ok w ∧ p.2.m < 35184372087808) (hc : L.length ≤ ca) (hm : L.length ≤ 1048576) (hD : D.ok w) (hb : bulkL L + D.n + D.m ≤ 4194304)
    (hG : FAt w b G) (hkG : ∀ p ∈ G, p.2.ok w) (hcG : G.length ≤ cb) (hmG : G.length ≤ 1048576) (hKG : ∀ p ∈ G, p.2.n + p.2.m ≤ 100000000) (hE : E.ok w) (hEn : E.n + E.m ≤ 100000000) (hf : fine (fmap (fun r => co x (fo L) * r) (fo G))) :
    Calls Tryz.prog 14 #[.agg #[.slice a L.length ca, .bool D.s, .slice D.a D.n D.c, .slice D.b D.m D.e], .int .i64 x, .agg #[.slice b G.length cb, .bool E.s, .slice E.a E.n E.c, .slice E.b E.m E.e]] w (AfAns w (mrg (nfm (fo (oth x L))) (nfm (fmap (fun r => co x (fo L) * r) (fo G)))) (D.val + co x (fo L) * E.val)) := by
  have hs : sz 4194305 (co x (fo L)) := (co_sz x (fo L)).mono (by have := wts_bulk L (fun p hp => (hok p hp).1); omega)
  have hbo := bulkL_oth x L
  have hwo := Nat.le_trans (wts_bulk (oth x L) (fun p hp => (hok p (oth_mem hp)).1)) hbo
  have hmo : (oth x L).length ≤ 1048576 := Nat.le_trans (List.length_filter_le _ _) hm
  have G1 := hide' (fun w' (hb9 : Below w.heap.size w w') => apart_is a ca L x w' (hF.later hb9) (fun p hp => And.intro ((hok p hp).1.later hb9) (hok p hp).2) hc hm (by have := bulkL_mine x L; omega))
  have hko := fun p hp => hok p (oth_mem (x := x) hp)
  clear hF hok hc hm hbo
  obtain ⟨r, hr⟩ : ∃ r, co x (fo L) = r := ⟨_, rfl⟩
  rw [hr] at hs hf ⊢
  replace hr := hide' hr
  obtain ⟨e1, e2⟩ := norm_sz hE
  have hsm : sz 274877906944 (r * E.val) := (sz_mul hs (show sz 100000010 E.val from ⟨by omega, by omega⟩)).mono (by omega)
  have HS := hide' (And.intro hs (And.intro hko (And.intro hwo (And.intro hmo (And.intro hb (And.intro hD (And.intro hG (And.intro hkG (And.intro hcG (And.intro hmG (And.intro hKG (And.intro hE (And.intro hEn (And.intro hf hsm))))))))))))))
  clear hs hko hwo hmo hb hD hG hkG hcG hmG hKG hE hEn hf hsm e1 e2
  obtain ⟨TT, hTT⟩ : ∃ TT, AfAns w (mrg (nfm (fo (oth x L))) (nfm (fmap (fun r9 => r * r9) (fo G)))) (D.val + r * E.val) = TT := ⟨_, rfl⟩
  rw [hTT]
  replace hTT := hide' hTT
  go_enter Tryz.func14, Tryz.ntmps14
  go_wp2_with fail
  obtain ⟨wA, hwA⟩ : ∃ wA, ((w.alloc (.cells #[.slice a L.length ca, .bool D.s, .slice D.a D.n D.c, .slice D.b D.m D.e] 33)).alloc (.cells #[.slice b G.length cb, .bool E.s, .slice E.a E.n E.c, .slice E.b E.m E.e] 33)).alloc (.cells #[.slice none 0 0, .bool false, .slice none 0 0, .slice none 0 0] 33) = wA := ⟨_, rfl⟩
  have bA : Below w.heap.size w wA := by subst hwA; exact ((below_alloc _).trans ((below_alloc _).mono (below_alloc _).size)).trans ((below_alloc _).mono ((below_alloc _).trans ((below_alloc _).mono (below_alloc _).size)).size)
  have rA : Four wA (w.heap.size + 1 + 1) (.slice none 0 0) (.bool false) (.slice none 0 0) (.slice none 0 0) := by subst hwA; exact ⟨⟨by go_simp, by go_simp, by go_simp, by go_simp⟩, by have h := row_new ((w.alloc (.cells #[.slice a L.length ca, .bool D.s, .slice D.a D.n D.c, .slice D.b D.m D.e] 33)).alloc (.cells #[.slice b G.length cb, .bool E.s, .slice E.a E.n E.c, .slice E.b E.m E.e] 33)) #[.slice none 0 0, .bool false, .slice none 0 0, .slice none 0 0] 33; rw [show ((w.alloc (.cells #[.slice a L.length ca, .bool D.s, .slice D.a D.n D.c, .slice D.b D.m D.e] 33)).alloc (.cells #[.slice b G.length cb, .bool E.s, .slice E.a E.n E.c, .slice E.b E.m E.e] 33)).heap.size = w.heap.size + 1 + 1 from (Array.size_push _).trans (congrArg (· + 1) (Array.size_push _))] at h; exact h⟩
  have d1 : wA.cell? ⟨w.heap.size, 1, none⟩ = some (.bool D.s) := by subst hwA; go_simp
  have d2 : wA.cell? ⟨w.heap.size, 2, none⟩ = some (.slice D.a D.n D.c) := by subst hwA; go_simp
  have d3 : wA.cell? ⟨w.heap.size, 3, none⟩ = some (.slice D.b D.m D.e) := by subst hwA; go_simp
  have f0 : wA.cell? ⟨w.heap.size + 1, 0, none⟩ = some (.slice b G.length cb) := by subst hwA; go_simp
  have f1 : wA.cell? ⟨w.heap.size + 1, 1, none⟩ = some (.bool E.s) := by subst hwA; go_simp
  have f2 : wA.cell? ⟨w.heap.size + 1, 2, none⟩ = some (.slice E.a E.n E.c) := by subst hwA; go_simp
  have f3 : wA.cell? ⟨w.heap.size + 1, 3, none⟩ = some (.slice E.b E.m E.e) := by subst hwA; go_simp
  rw [hwA]
  clear hwA
  have hz1 : w.heap.size + 1 + 1 < wA.heap.size := rA.2.lt
  refine (G1.out _ bA).mono ?_
  rintro e w1 ⟨p, q, a1, c1, rfl, b1, g1, g2, s1⟩
  rw [hr.out] at g1 g2 ⊢
  have rB := rA.later b1
  have hB := bA.trans (b1.mono bA.size)
  replace hz1 := Nat.lt_of_lt_of_le hz1 b1.size
  replace d1 := below_cell b1 d1
  replace d2 := below_cell b1 d2
  replace d3 := below_cell b1 d3
  replace f0 := below_cell b1 f0
  replace f1 := below_cell b1 f1
  replace f2 := below_cell b1 f2
  replace f3 := below_cell b1 f3
  clear rA b1 bA
  obtain ⟨wC, hwC⟩ : ∃ wC, w1.alloc (.cells #[.bool (ng r.num), .slice p (ln (am r.num)) (ln (am r.num)), .slice q (ln r.den) (ln r.den)] 31) = wC := ⟨_, rfl⟩
  have bC : Below w1.heap.size w1 wC := by subst hwC; exact below_alloc _
  have y0 : wC.cell? ⟨w1.heap.size, 0, none⟩ = some (.bool (ng r.num)) := by subst hwC; go_simp
  have y1 : wC.cell? ⟨w1.heap.size, 1, none⟩ = some (.slice p (ln (am r.num)) (ln (am r.num))) := by subst hwC; go_simp
  have y2 : wC.cell? ⟨w1.heap.size, 2, none⟩ = some (.slice q (ln r.den) (ln r.den)) := by subst hwC; go_simp
  replace rB := rB.later bC
  replace hB := hB.trans (bC.mono hB.size)
  replace g1 := g1.later bC
  replace g2 := g2.later bC
  replace s1 := s1.later bC
  replace d1 := below_cell bC d1
  replace d2 := below_cell bC d2
  replace d3 := below_cell bC d3
  replace f0 := below_cell bC f0
  replace f1 := below_cell bC f1
  replace f2 := below_cell bC f2
  replace f3 := below_cell bC f3
  clear bC
  obtain ⟨hs, hko, hwo, hmo, hb, hD, hG, hkG, hcG, hmG, hKG, hE, hEn, hf, hsm⟩ := HS.out
  have hCo : (RatV.of r.num r.den p q).ok wC := ⟨g1, Nat.le_refl _, Nat.le_trans hs.1 (by omega), g2, Nat.le_refl _, Nat.le_trans hs.2 (by omega)⟩
  have hn1 : (RatV.of r.num r.den p q).n ≤ 4194305 := hs.1
  have hn2 : (RatV.of r.num r.den p q).m ≤ 4194305 := hs.2
  have G4 := hide' (fun w' (hb9 : Below wC.heap.size wC w') => lNorm_is a1 c1 (oth x L) w' (s1.lies.later hb9) (fun p hp => ((hko p hp).1.later hB).later hb9) s1.len hmo (fun p hp => (hko p hp).2) (thin_of (by omega)))
  have G5 := hide' (fun w' (hb9 : Below wC.heap.size wC w') => lScaleF_is (RatV.of r.num r.den p q) b cb G 200000000 w' ((hG.later hB).later hb9) (fun p hp => ((hkG p hp).later hB).later hb9) hcG hmG (hCo.later hb9) (fun p hp => by have := hKG p hp; omega) (by omega) (by omega) (by rw [val_ofR]; exact hf))
  rw [val_ofR] at G5
  have G6 := hide' (fun w' (hb9 : Below wC.heap.size wC w') => qMul_is (ng r.num) p (ln (am r.num)) (ln (am r.num)) (am r.num) q (ln r.den) (ln r.den) r.den E.s E.a E.n E.c E.X E.b E.m E.e E.Y (r * E.val).num (r * E.val).den w' (Nat.le_refl _) (Nat.le_trans hs.1 (by omega)) (g1.later hb9) (Nat.le_refl _) (Nat.le_trans hs.2 (by omega)) (g2.later hb9) hE.2.1 (by omega) ((hE.later hB).1.later hb9) hE.2.2.2.2.1 (by omega) ((hE.later hB).2.2.2.1.later hb9) (by have h := low_mul (RatV.of r.num r.den p q) E; rw [val_ofR] at h; exact h))
  obtain ⟨m, hm9⟩ : ∃ m, r * E.val = m := ⟨_, rfl⟩
  rw [hm9] at G6 hsm
  have G7 := hide' (fun w' (hb9 : Below wC.heap.size wC w') p6 q6 k1 k2 => qAdd_is D.s D.a D.n D.c D.X D.b D.m D.e D.Y (ng m.num) p6 (ln (am m.num)) (ln (am m.num)) (am m.num) q6 (ln m.den) (ln m.den) m.den (D.val + m).num (D.val + m).den w' hD.2.1 (by omega) ((hD.later hB).1.later hb9) hD.2.2.2.2.1 (by omega) ((hD.later hB).2.2.2.1.later hb9) (Nat.le_refl _) (Nat.le_trans hsm.1 (by omega)) k1 (Nat.le_refl _) (Nat.le_trans hsm.2 (by omega)) k2 (by have h := low_add D (RatV.of m.num m.den p6 q6); rw [val_ofR] at h; exact h))
  obtain ⟨s, hs9⟩ : ∃ s, D.val + m = s := ⟨_, rfl⟩
  rw [hs9] at G7
  have Y1 := hide' (fun w' (R4 : List Mo) (e4 : ∀ p ∈ R4, Ent w' p) (f4 : fo R4 = nfm (fo (oth x L))) => And.intro (entS_sz e4 f4 (fun y => (co_sz y _).mono (by omega))) (show R4.length ≤ 1048576 by have h := nfm_length (fo (oth x L)); rw [← f4, fo_length, fo_length] at h; omega))
  have Y2 := hide' (fun w' (R5 : List Mo) (e5 : ∀ p ∈ R5, Ent w' p) (f5 : fo R5 = nfm (fmap (fun r9 => r * r9) (fo G))) => And.intro (entS_sz e5 f5 hf.all) (show R5.length ≤ 1048576 by have h := nfm_length (fmap (fun r9 => r * r9) (fo G)); rw [← f5, fo_length, fmap_length, fo_length] at h; omega))
  clear g1 g2 s1 hCo hn1 hn2 hs hko hwo hmo hb hD hG hkG hcG hmG hKG hE hEn hf hsm HS
  have bW : Below wC.heap.size wC wC := Below.refl _ _
  go_wp2_with fail
  clear hwC
  have bD : Below wC.heap.size wC wC.drew := (Below.refl _ _).drew
  have ky0 := below_cell bD y0
  have ky1 := below_cell bD y1
  have ky2 := below_cell bD y2
  have kd1 := below_cell bD d1
  have kd2 := below_cell bD d2
  have kd3 := below_cell bD d3
  have kf0 := below_cell bD f0
  have kf1 := below_cell bD f1
  have kf2 := below_cell bD f2
  have kf3 := below_cell bD f3
  replace bW := bW.trans (bD.mono bW.size)
  replace hB := hB.trans (bD.mono hB.size)
  replace rB := rB.later bD
  refine wp_region_held_drew (S := fun w' => w'.cell? ⟨w1.heap.size, 0, none⟩ = some (.bool (ng r.num)) ∧ w'.cell? ⟨w1.heap.size, 1, none⟩ = some (.slice p (ln (am r.num)) (ln (am r.num))) ∧ w'.cell? ⟨w1.heap.size, 2, none⟩ = some (.slice q (ln r.den) (ln r.den)) ∧ w'.cell? ⟨w.heap.size, 1, none⟩ = some (.bool D.s) ∧ w'.cell? ⟨w.heap.size, 2, none⟩ = some (.slice D.a D.n D.c) ∧ w'.cell? ⟨w.heap.size, 3, none⟩ = some (.slice D.b D.m D.e) ∧ w'.cell? ⟨w.heap.size + 1, 0, none⟩ = some (.slice b G.length cb) ∧ w'.cell? ⟨w.heap.size + 1, 1, none⟩ = some (.bool E.s) ∧ w'.cell? ⟨w.heap.size + 1, 2, none⟩ = some (.slice E.a E.n E.c) ∧ w'.cell? ⟨w.heap.size + 1, 3, none⟩ = some (.slice E.b E.m E.e)) (by kernel_rfl) ⟨ky0, ky1, ky2, kd1, kd2, kd3, kf0, kf1, kf2, kf3⟩ (fun hHeld => ?_)
  clear ky0 ky1 ky2 kd1 kd2 kd3 kf0 kf1 kf2 kf3
  generalize wC.drew = w0 at bD rB bW hB hHeld ⊢
  clear y0 y1 y2 d1 d2 d3 f0 f1 f2 f3
  refine take' 0 (v := ?_) rfl (by kernel_rfl) (by kernel_rfl) (by kernel_rfl) (fun _ _ _ h => h) (Or.inl ⟨by rfl, ?_⟩) (by assumption) ?_
  rotate_left
  · intro w9 hSw
    go_simp
    first | done | with_reducible rfl
  simp only [Act.put, List.setIfInBounds_toArray, List.set_cons_zero, List.set_cons_succ]
  refine take' 2 (v := ?_) rfl (by kernel_rfl) (by kernel_rfl) (by kernel_rfl) (fun _ _ _ h => h) (Or.inl ⟨by rfl, ?_⟩) (by assumption) ?_
  rotate_left
  · intro w9 hSw
    go_simp
    first | done | with_reducible rfl
  simp only [Act.put, List.setIfInBounds_toArray, List.set_cons_zero, List.set_cons_succ]
  refine take' 3 (v := ?_) rfl (by kernel_rfl) (by kernel_rfl) (by kernel_rfl) (fun _ _ _ h => h) (Or.inl ⟨by rfl, ?_⟩) (by assumption) ?_
  rotate_left
  · intro w9 hSw
    go_simp
    first | done | with_reducible rfl
  simp only [Act.put, List.setIfInBounds_toArray, List.set_cons_zero, List.set_cons_succ]
  refine take' 4 (v := ?_) rfl (by kernel_rfl) (by kernel_rfl) (by kernel_rfl) (fun _ _ _ h => h) (Or.inl ⟨by rfl, ?_⟩) (by assumption) ?_
  rotate_left
  · intro w9 hSw
    go_simp
    first | done | with_reducible rfl
  simp only [Act.put, List.setIfInBounds_toArray, List.set_cons_zero, List.set_cons_succ]
  refine take' 7 (v := ?_) rfl (by kernel_rfl) (by kernel_rfl) (by kernel_rfl) (fun _ _ _ h => h) (Or.inl ⟨by rfl, ?_⟩) (by assumption) ?_
  rotate_left
  · intro w9 hSw
    go_simp
    first | done | with_reducible rfl
  simp only [Act.put, List.setIfInBounds_toArray, List.set_cons_zero, List.set_cons_succ]
  refine take' 8 (v := ?_) rfl (by kernel_rfl) (by kernel_rfl) (by kernel_rfl) (fun _ _ _ h => h) (Or.inl ⟨by rfl, ?_⟩) (by assumption) ?_
  rotate_left
  · intro w9 hSw
    go_simp
    first | done | with_reducible rfl
  simp only [Act.put, List.setIfInBounds_toArray, List.set_cons_zero, List.set_cons_succ]
  refine take' 9 (v := ?_) rfl (by kernel_rfl) (by kernel_rfl) (by kernel_rfl) (fun _ _ _ h => h) (Or.inl ⟨by rfl, ?_⟩) (by assumption) ?_
  rotate_left
  · intro w9 hSw
    go_simp
    first | done | with_reducible rfl
  simp only [Act.put, List.setIfInBounds_toArray, List.set_cons_zero, List.set_cons_succ]
  refine take' 10 (v := ?_) rfl (by kernel_rfl) (by kernel_rfl) (by kernel_rfl) (fun _ _ _ h => h) (Or.inl ⟨by rfl, ?_⟩) (by assumption) ?_
  rotate_left
  · intro w9 hSw
    go_simp
    first | done | with_reducible rfl
  simp only [Act.put, List.setIfInBounds_toArray, List.set_cons_zero, List.set_cons_succ]
  refine take' 11 (v := ?_) rfl (by kernel_rfl) (by kernel_rfl) (by kernel_rfl) (fun _ _ _ h => h) (Or.inl ⟨by rfl, ?_⟩) (by assumption) ?_
  rotate_left
  · intro w9 hSw
    go_simp
    first | done | with_reducible rfl
  simp only [Act.put, List.setIfInBounds_toArray, List.set_cons_zero, List.set_cons_succ]
  refine wpAnyH_ready (rs := [1]) (by kernel_rfl) (by simp) ?_
  refine cons' rfl (fun KK hKK => ?_)
  go_simp
  refine (G4.out _ bW).mono ?_
  rintro e w4 ⟨a4, c4, R4, rfl, b4, s4, e4, f4⟩
  have bC := b4
  replace bW := bW.trans (bC.mono bW.size)
  replace hB := hB.trans (bC.mono hB.size)
  replace rB := rB.later bC
  replace hHeld := (⟨below_cell bC hHeld.1, below_cell bC hHeld.2.1, below_cell bC hHeld.2.2.1, below_cell bC hHeld.2.2.2.1, below_cell bC hHeld.2.2.2.2.1, below_cell bC hHeld.2.2.2.2.2.1, below_cell bC hHeld.2.2.2.2.2.2.1, below_cell bC hHeld.2.2.2.2.2.2.2.1, below_cell bC hHeld.2.2.2.2.2.2.2.2.1, below_cell bC hHeld.2.2.2.2.2.2.2.2.2⟩ : _ ∧ _ ∧ _ ∧ _ ∧ _ ∧ _ ∧ _ ∧ _ ∧ _ ∧ _)
  clear bC
  go_wp2_with fail
  have E4 : Ents w4 R4 := e4
  clear e4 b4
  refine hKK.out _ _ hHeld ?_
  clear hHeld
  intro hHeld
  clear hKK KK
  try simp only [Act.put, List.setIfInBounds_toArray, List.set_cons_zero, List.set_cons_succ]
  refine wpAnyH_ready (rs := [5]) (by kernel_rfl) (by simp) ?_
  refine cons' rfl (fun KK hKK => ?_)
  go_simp
  refine (G5.out _ bW).mono ?_
  rintro e w5 ⟨a5, c5, R5, rfl, b5, s5, e5, f5⟩
  have bC := b5
  replace bW := bW.trans (bC.mono bW.size)
  replace hB := hB.trans (bC.mono hB.size)
  replace rB := rB.later bC
  replace s4 := s4.later bC
  replace E4 := E4.later bC
  replace hHeld := (⟨below_cell bC hHeld.1, below_cell bC hHeld.2.1, below_cell bC hHeld.2.2.1, below_cell bC hHeld.2.2.2.1, below_cell bC hHeld.2.2.2.2.1, below_cell bC hHeld.2.2.2.2.2.1, below_cell bC hHeld.2.2.2.2.2.2.1, below_cell bC hHeld.2.2.2.2.2.2.2.1, below_cell bC hHeld.2.2.2.2.2.2.2.2.1, below_cell bC hHeld.2.2.2.2.2.2.2.2.2⟩ : _ ∧ _ ∧ _ ∧ _ ∧ _ ∧ _ ∧ _ ∧ _ ∧ _ ∧ _)
  clear bC
  go_wp2_with fail
  have E5 : Ents w5 R5 := e5
  clear e5 b5
  refine hKK.out _ _ hHeld ?_
  clear hHeld
  intro hHeld
  clear hKK KK
  try simp only [Act.put, List.setIfInBounds_toArray, List.set_cons_zero, List.set_cons_succ]
  refine wpAnyH_ready (rs := [6]) (by kernel_rfl) (by simp) ?_
  refine cons' rfl (fun KK hKK => ?_)
  obtain ⟨x4, l4⟩ := Y1.out _ R4 E4 f4
  obtain ⟨x5, l5⟩ := Y2.out _ R5 E5 f5
  go_simp
  refine (lsum_is a4 c4 R4 a5 c5 R5 _ s4 s5 x4 x5 (by omega)).mono ?_
  rintro e w6 ⟨a6, c6, R6, rfl, b6, s6, e6, f6⟩
  have bC := b6
  replace bW := bW.trans (bC.mono bW.size)
  replace hB := hB.trans (bC.mono hB.size)
  replace rB := rB.later bC
  replace s4 := s4.later bC
  replace E4 := E4.later bC
  replace s5 := s5.later bC
  replace E5 := E5.later bC
  replace hHeld := (⟨below_cell bC hHeld.1, below_cell bC hHeld.2.1, below_cell bC hHeld.2.2.1, below_cell bC hHeld.2.2.2.1, below_cell bC hHeld.2.2.2.2.1, below_cell bC hHeld.2.2.2.2.2.1, below_cell bC hHeld.2.2.2.2.2.2.1, below_cell bC hHeld.2.2.2.2.2.2.2.1, below_cell bC hHeld.2.2.2.2.2.2.2.2.1, below_cell bC hHeld.2.2.2.2.2.2.2.2.2⟩ : _ ∧ _ ∧ _ ∧ _ ∧ _ ∧ _ ∧ _ ∧ _ ∧ _ ∧ _)
  clear bC
  go_wp2_with fail
  have E6 : Ents w6 R6 := e6
  clear e6 b6 s4 s5 E4 E5 x4 x5 l4 l5
  refine hKK.out _ _ hHeld ?_
  clear hHeld
  intro hHeld
  clear hKK KK
  try simp only [Act.put, List.setIfInBounds_toArray, List.set_cons_zero, List.set_cons_succ]
  refine wpAnyH_ready (rs := [12]) (by kernel_rfl) (by simp) ?_
  refine cons' rfl (fun KK hKK => ?_)
  go_simp
  refine (G6.out _ bW).mono ?_
  rintro e w7 ⟨p7, q7, rfl, n6, n7⟩
  have bC := n6.below
  replace bW := bW.trans (bC.mono bW.size)
  replace hB := hB.trans (bC.mono hB.size)
  replace rB := rB.later bC
  replace s6 := s6.later bC
  replace E6 := E6.later bC
  replace hHeld := (⟨below_cell bC hHeld.1, below_cell bC hHeld.2.1, below_cell bC hHeld.2.2.1, below_cell bC hHeld.2.2.2.1, below_cell bC hHeld.2.2.2.2.1, below_cell bC hHeld.2.2.2.2.2.1, below_cell bC hHeld.2.2.2.2.2.2.1, below_cell bC hHeld.2.2.2.2.2.2.2.1, below_cell bC hHeld.2.2.2.2.2.2.2.2.1, below_cell bC hHeld.2.2.2.2.2.2.2.2.2⟩ : _ ∧ _ ∧ _ ∧ _ ∧ _ ∧ _ ∧ _ ∧ _ ∧ _ ∧ _)
  clear bC
  go_wp2_with fail
  have g6 := n6.seg
  have g7 := n7.seg
  clear n6 n7
  refine hKK.out _ _ hHeld ?_
  clear hHeld
  intro hHeld
  clear hKK KK
  try simp only [Act.put, List.setIfInBounds_toArray, List.set_cons_zero, List.set_cons_succ]
  refine wpAnyH_ready (rs := [13]) (by kernel_rfl) (by simp) ?_
  refine cons' rfl (fun KK hKK => ?_)
  go_simp
  refine (G7.out _ bW p7 q7 g6 g7).mono ?_
  rintro e w8 ⟨p8, q8, rfl, n8, n9⟩
  have bC := n8.below
  replace bW := bW.trans (bC.mono bW.size)
  replace hB := hB.trans (bC.mono hB.size)
  replace rB := rB.later bC
  replace s6 := s6.later bC
  replace E6 := E6.later bC
  replace g6 := g6.later bC
  replace g7 := g7.later bC
  replace hHeld := (⟨below_cell bC hHeld.1, below_cell bC hHeld.2.1, below_cell bC hHeld.2.2.1, below_cell bC hHeld.2.2.2.1, below_cell bC hHeld.2.2.2.2.1, below_cell bC hHeld.2.2.2.2.2.1, below_cell bC hHeld.2.2.2.2.2.2.1, below_cell bC hHeld.2.2.2.2.2.2.2.1, below_cell bC hHeld.2.2.2.2.2.2.2.2.1, below_cell bC hHeld.2.2.2.2.2.2.2.2.2⟩ : _ ∧ _ ∧ _ ∧ _ ∧ _ ∧ _ ∧ _ ∧ _ ∧ _ ∧ _)
  clear bC
  go_wp2_with fail
  have g8 := n8.seg
  have g9 := n9.seg
  clear n8 n9 g6 g7
  refine hKK.out _ _ hHeld ?_
  clear hHeld
  intro hHeld
  clear hKK KK
  try simp only [Act.put, List.setIfInBounds_toArray, List.set_cons_zero, List.set_cons_succ]
  refine take' 14 (v := ?_) rfl (by kernel_rfl) (by kernel_rfl) (by kernel_rfl) (fun _ _ _ h => h) (Or.inl ⟨by rfl, ?_⟩) (by assumption) ?_
  rotate_left
  · intro w9 hSw
    go_simp
    first | done | with_reducible rfl
  simp only [Act.put, List.setIfInBounds_toArray, List.set_cons_zero, List.set_cons_succ]
  refine wpAnyH_ready (rs := [15]) (by kernel_rfl) (by simp) ?_
  refine cons' rfl (fun KK hKK => ?_)
  have fz := fun o => rB.2.frozen o
  have z0 := rB.1.1
  have z1 := rB.1.2.1
  have z2 := rB.1.2.2.1
  have z3 := rB.1.2.2.2
  replace g8 := rB.seg (u0 := .slice a6 R6.length c6) (u1 := .bool (ng s.num)) (u2 := .slice p8 (ln (am s.num)) (ln (am s.num))) (u3 := .slice q8 (ln s.den) (ln s.den)) (by simp) (by simp) (by simp) (by simp) g8
  replace g9 := rB.seg (u0 := .slice a6 R6.length c6) (u1 := .bool (ng s.num)) (u2 := .slice p8 (ln (am s.num)) (ln (am s.num))) (u3 := .slice q8 (ln s.den) (ln s.den)) (by simp) (by simp) (by simp) (by simp) g9
  have s7 : Sl _ a6 c6 R6 := ⟨rB.fat (u0 := .slice a6 R6.length c6) (u1 := .bool (ng s.num)) (u2 := .slice p8 (ln (am s.num)) (ln (am s.num))) (u3 := .slice q8 (ln s.den) (ln s.den)) (by simp) (by simp) (by simp) (by simp) s6.lies, s6.len, s6.nn⟩
  have E7 : Ents _ R6 := fun p hp => rB.ok (u0 := .slice a6 R6.length c6) (u1 := .bool (ng s.num)) (u2 := .slice p8 (ln (am s.num)) (ln (am s.num))) (u3 := .slice q8 (ln s.den) (ln s.den)) (by simp) (by simp) (by simp) (by simp) (E6 p hp)
  replace hB := below_set4 (u0 := .slice a6 R6.length c6) (u1 := .bool (ng s.num)) (u2 := .slice p8 (ln (am s.num)) (ln (am s.num))) (u3 := .slice q8 (ln s.den) (ln s.den)) hB (show w.heap.size ≤ w.heap.size + 1 + 1 by omega)
  have hH2 := (⟨(set4_far (w := w8) (c := w.heap.size + 1 + 1) (b := w1.heap.size) (o := 0) (u0 := .slice a6 R6.length c6) (u1 := .bool (ng s.num)) (u2 := .slice p8 (ln (am s.num)) (ln (am s.num))) (u3 := .slice q8 (ln s.den) (ln s.den)) (by omega)).trans hHeld.1, (set4_far (w := w8) (c := w.heap.size + 1 + 1) (b := w1.heap.size) (o := 1) (u0 := .slice a6 R6.length c6) (u1 := .bool (ng s.num)) (u2 := .slice p8 (ln (am s.num)) (ln (am s.num))) (u3 := .slice q8 (ln s.den) (ln s.den)) (by omega)).trans hHeld.2.1, (set4_far (w := w8) (c := w.heap.size + 1 + 1) (b := w1.heap.size) (o := 2) (u0 := .slice a6 R6.length c6) (u1 := .bool (ng s.num)) (u2 := .slice p8 (ln (am s.num)) (ln (am s.num))) (u3 := .slice q8 (ln s.den) (ln s.den)) (by omega)).trans hHeld.2.2.1, (set4_far (w := w8) (c := w.heap.size + 1 + 1) (b := w.heap.size) (o := 1) (u0 := .slice a6 R6.length c6) (u1 := .bool (ng s.num)) (u2 := .slice p8 (ln (am s.num)) (ln (am s.num))) (u3 := .slice q8 (ln s.den) (ln s.den)) (by omega)).trans hHeld.2.2.2.1, (set4_far (w := w8) (c := w.heap.size + 1 + 1) (b := w.heap.size) (o := 2) (u0 := .slice a6 R6.length c6) (u1 := .bool (ng s.num)) (u2 := .slice p8 (ln (am s.num)) (ln (am s.num))) (u3 := .slice q8 (ln s.den) (ln s.den)) (by omega)).trans hHeld.2.2.2.2.1, (set4_far (w := w8) (c := w.heap.size + 1 + 1) (b := w.heap.size) (o := 3) (u0 := .slice a6 R6.length c6) (u1 := .bool (ng s.num)) (u2 := .slice p8 (ln (am s.num)) (ln (am s.num))) (u3 := .slice q8 (ln s.den) (ln s.den)) (by omega)).trans hHeld.2.2.2.2.2.1, (set4_far (w := w8) (c := w.heap.size + 1 + 1) (b := w.heap.size + 1) (o := 0) (u0 := .slice a6 R6.length c6) (u1 := .bool (ng s.num)) (u2 := .slice p8 (ln (am s.num)) (ln (am s.num))) (u3 := .slice q8 (ln s.den) (ln s.den)) (by omega)).trans hHeld.2.2.2.2.2.2.1, (set4_far (w := w8) (c := w.heap.size + 1 + 1) (b := w.heap.size + 1) (o := 1) (u0 := .slice a6 R6.length c6) (u1 := .bool (ng s.num)) (u2 := .slice p8 (ln (am s.num)) (ln (am s.num))) (u3 := .slice q8 (ln s.den) (ln s.den)) (by omega)).trans hHeld.2.2.2.2.2.2.2.1, (set4_far (w := w8) (c := w.heap.size + 1 + 1) (b := w.heap.size + 1) (o := 2) (u0 := .slice a6 R6.length c6) (u1 := .bool (ng s.num)) (u2 := .slice p8 (ln (am s.num)) (ln (am s.num))) (u3 := .slice q8 (ln s.den) (ln s.den)) (by omega)).trans hHeld.2.2.2.2.2.2.2.2.1, (set4_far (w := w8) (c := w.heap.size + 1 + 1) (b := w.heap.size + 1) (o := 3) (u0 := .slice a6 R6.length c6) (u1 := .bool (ng s.num)) (u2 := .slice p8 (ln (am s.num)) (ln (am s.num))) (u3 := .slice q8 (ln s.den) (ln s.den)) (by omega)).trans hHeld.2.2.2.2.2.2.2.2.2⟩ : _ ∧ _ ∧ _ ∧ _ ∧ _ ∧ _ ∧ _ ∧ _ ∧ _ ∧ _)
  have rD := rB.put (u0 := .slice a6 R6.length c6) (u1 := .bool (ng s.num)) (u2 := .slice p8 (ln (am s.num)) (ln (am s.num))) (u3 := .slice q8 (ln s.den) (ln s.den))
  go_simp
  clear z0 z1 z2 z3 fz rB s6 E6
  refine hKK.out _ _ hH2 ?_
  clear hHeld
  intro hHeld
  clear hKK KK
  try simp only [Act.put, List.setIfInBounds_toArray, List.set_cons_zero, List.set_cons_succ]
  clear hH2
  try unfold set4 at g8
  try unfold set4 at g9
  try unfold set4 at s7
  try unfold set4 at E7
  try unfold set4 at rD
  try unfold set4 at hB
  try unfold set4 at hHeld
  generalize ((((w8.setCell ⟨w.heap.size + 1 + 1, 0, none⟩ (.slice a6 R6.length c6)).setCell ⟨w.heap.size + 1 + 1, 1, none⟩ (.bool (ng s.num))).setCell ⟨w.heap.size + 1 + 1, 2, none⟩ (.slice p8 (ln (am s.num)) (ln (am s.num)))).setCell ⟨w.heap.size + 1 + 1, 3, none⟩ (.slice q8 (ln s.den) (ln s.den))) = w9 at g8 g9 s7 E7 rD hB hHeld ⊢
  refine wpAnyH_done (by kernel_rfl) ?_ _
  obtain ⟨⟨v0, v1, v2, v3⟩, vR⟩ := rD
  go_wp2
  refine bodyPost_ret (v := .agg #[.slice a6 R6.length c6, .bool (ng s.num), .slice p8 (ln (am s.num)) (ln (am s.num)), .slice q8 (ln s.den) (ln s.den)]) (by rw [results_cell rfl]; go_simp) rfl ?_
  rw [← hTT.out, hm9, hs9]
  exact ⟨a6, c6, R6, p8, q8, rfl, hB, s7, E7, by rw [f6, f4, f5], g8, g9⟩
end Go.Proofs.YtkflbhkcofmaoaaGreat

namespace Go.Proofs.YtkflbhkcofmaoaaGreat
open Go.RowKit
set_option linter.unusedVariables false
set_option linter.unusedSimpArgs false

theorem nrm.sub {l m : Fo} (h : nrm l) (hs : List.Sublist m l) : nrm m := ⟨h.1.sublist hs, fun p hp => h.2 p (hs.subset hp)⟩
end Go.Proofs.YtkflbhkcofmaoaaGreat

namespace Go.Proofs.YtkflbhkcofmaoaaGreat
set_option linter.unusedVariables false
set_option linter.unusedSimpArgs false

/-- a form's value -/
def vl (ρ : Int → Rat) : Fo → Rat
  | [] => 0
  | p :: l => p.2 * ρ p.1 + vl ρ l
theorem vl_append (ρ : Int → Rat) : ∀ (l m : Fo), vl ρ (l ++ m) = vl ρ l + vl ρ m
  | [], m => by simp [vl, Rat.zero_add]
  | p :: l, m => by simp only [List.cons_append, vl, vl_append ρ l m]; grind
theorem vl_mrg (ρ : Int → Rat) : ∀ (l m : Fo), vl ρ (mrg l m) = vl ρ l + vl ρ m
  | [], m => by rw [mrg]; simp only [vl]; rw [Rat.zero_add]
  | p :: l, [] => by rw [mrg]; simp only [vl]; grind
  | p :: l, q :: m => by
    rw [mrg]
    split
    · rw [vl, vl_mrg ρ l (q :: m)]
      simp only [vl]; grind
    · split
      · rw [vl, vl_mrg ρ (p :: l) m]
        simp only [vl]; grind
      · have e : p.1 = q.1 := by omega
        split
        · rename_i h
          rw [vl_mrg ρ l m]
          simp only [vl, e]
          have : p.2 * ρ q.1 + q.2 * ρ q.1 = 0 := by rw [← Rat.add_mul, h, Rat.zero_mul]
          grind
        · rw [vl, vl_mrg ρ l m]
          simp only [vl, e]; grind
termination_by l m => l.length + m.length
theorem vl_nfm (ρ : Int → Rat) : ∀ (l : Fo), vl ρ (nfm l) = vl ρ l
  | [] => rfl
  | p :: l => by
    simp only [nfm]
    rw [vl_mrg, vl_nfm ρ l]
    simp only [vl]
    split
    · rename_i h
      simp only [vl, h, Rat.zero_mul]
    · simp only [vl]
      rw [Rat.add_zero]
theorem vl_scale (ρ : Int → Rat) (c : Rat) : ∀ (l : Fo), vl ρ (fmap (fun r => c * r) l) = c * vl ρ l
  | [] => by show (0 : Rat) = c * 0; grind
  | p :: l => by
    show c * p.2 * ρ p.1 + vl ρ (fmap (fun r => c * r) l) = c * (p.2 * ρ p.1 + vl ρ l)
    rw [vl_scale ρ c l]
    grind
theorem vl_congr {ρ σ : Int → Rat} : ∀ {l : Fo}, (∀ p ∈ l, ρ p.1 = σ p.1) → vl ρ l = vl σ l
  | [], _ => rfl
  | p :: l, h => by
    simp only [vl]
    rw [h p List.mem_cons_self, vl_congr fun q hq => h q (List.mem_cons_of_mem _ hq)]
/-- a variable's part by itself -/
theorem vl_apart (ρ : Int → Rat) (x : Int) : ∀ (L : List Mo), vl ρ (fo L) = vl ρ (fo (oth x L)) + co x (fo L) * ρ x
  | [] => by show (0 : Rat) = 0 + 0 * ρ x; grind
  | p :: L => by
    have ih := vl_apart ρ x L
    rw [fo_cons]
    simp only [vl, co]
    rw [ih]
    by_cases h : p.1 = x
    · have e : oth x (p :: L) = oth x L := List.filter_cons_of_neg (by simp [h])
      rw [e, if_pos h, h]
      grind
    · have e : oth x (p :: L) = p :: oth x L := List.filter_cons_of_pos (by simp [h])
      rw [e, if_neg h, fo_cons]
      simp only [vl]
      grind

/-! ### How long -/
theorem vl_co (ρ : Int → Rat) : ∀ (l : Fo), vl ρ l = co 0 (l.map fun p => ((0 : Int), p.2 * ρ p.1))
  | [] => rfl
  | p :: l => by
    simp only [vl, List.map_cons, co, if_true]
    rw [vl_co ρ l]
theorem wt_mul' (r t : Rat) : wt (r * t) ≤ wt r + wt t := by
  have e : r * t = Rat.divInt (r.num * t.num) ((r.den : Int) * (t.den : Int)) := by
    rw [← Rat.divInt_mul_divInt, Rat.num_divInt_den, Rat.num_divInt_den]
  have hl := (low_of (Int.mul_ne_zero (by have := r.den_pos; omega) (by have := t.den_pos; omega)) e).le
  have a1 := lt_prod (i := ln (am r.num)) (j := ln (am t.num)) (ln_lt (am r.num)) (ln_lt (am t.num))
  have a2 : am ((r.den : Int) * (t.den : Int)) < BB ^ (ln r.den + ln t.den) := lt_prod (by show r.den < _; exact ln_lt r.den) (by show t.den < _; exact ln_lt t.den)
  have b1 := ln_le_of_lt (Nat.lt_of_le_of_lt hl.1 a1)
  have b2 := ln_le_of_lt (Nat.lt_of_le_of_lt hl.2 a2)
  unfold wt
  omega
/-- values of the variables from 0 on -/
def rho (g : Nat → RatV) (m : Nat) (x : Int) : Rat := if 0 ≤ x ∧ x < (m : Int) then (g x.toNat).val else 0
/-- the same as a list -/
def rlist (g : Nat → RatV) (m : Nat) : Fo := (List.range m).map fun (t : Nat) => ((t : Int), (g t).val)
theorem rlist_succ (g : Nat → RatV) (m : Nat) : rlist g (m + 1) = rlist g m ++ [((m : Int), (g m).val)] := by
  unfold rlist
  rw [List.range_succ, List.map_append]
  rfl
theorem wts_mem {l : Fo} {p : Int × Rat} (h : p ∈ l) : wt p.2 ≤ wts l := by
  induction l with
  | nil => exact absurd h (by simp)
  | cons q l ih =>
    simp only [wts]
    rcases List.mem_cons.1 h with rfl | h
    · omega
    · have := ih h; omega
theorem wt_zero : wt 0 = 2 := by
  unfold wt
  show ln 0 + ln 1 + 1 = 2
  rw [ln_zero, ln_one]
theorem rho_wt (g : Nat → RatV) (m : Nat) (x : Int) : wt (rho g m x) ≤ wts ((rlist g m).filter fun p => p.1 == x) + 2 := by
  unfold rho
  split
  · rename_i h
    have hm : (x, (g x.toNat).val) ∈ (rlist g m).filter fun p => p.1 == x := List.mem_filter.2 ⟨List.mem_map.2 ⟨x.toNat, List.mem_range.2 (by omega), by rw [Int.toNat_of_nonneg h.1]⟩, by simp⟩
    have := wts_mem hm
    simp only at this
    omega
  · rw [wt_zero]
    omega
theorem wts_mapped (ρ : Int → Rat) : ∀ (l : Fo), wts (l.map fun p => ((0 : Int), p.2 * ρ p.1)) ≤ wts l + (l.map fun p => wt (ρ p.1)).sum
  | [] => Nat.le_refl _
  | p :: l => by
    have h := wts_mapped ρ l
    have h2 := wt_mul' p.2 (ρ p.1)
    simp only [List.map_cons, wts, List.sum_cons]
    omega
theorem sum_le2 {α : Type} (f g : α → Nat) : ∀ (l : List α), (∀ p ∈ l, f p ≤ g p + 2) → (l.map f).sum ≤ (l.map g).sum + 2 * l.length
  | [], _ => Nat.le_refl _
  | p :: l, h => by
    have h1 := sum_le2 f g l fun q hq => h q (List.mem_cons_of_mem _ hq)
    have h2 := h p List.mem_cons_self
    simp only [List.map_cons, List.sum_cons, List.length_cons]
    omega
/-- how long a normal form's value is -/
theorem vl_nrm_sz {l : Fo} (hl : nrm l) (g : Nat → RatV) (m : Nat) : sz (wts l + wts (rlist g m) + 2 * l.length + 1) (vl (rho g m) l) := by
  rw [vl_co]
  refine (co_sz 0 _).mono ?_
  have h1 := wts_mapped (rho g m) l
  have h2 := sum_le2 (fun p : Int × Rat => wt (rho g m p.1)) (fun p => wts ((rlist g m).filter fun q => q.1 == p.1)) l fun p _ => rho_wt g m p.1
  have h3 := wts_vars (l.map (·.1)) (rlist g m) (by rw [List.pairwise_map]; exact hl.1)
  rw [List.map_map] at h3
  have e : (l.map ((fun x => wts ((rlist g m).filter fun p => p.1 == x)) ∘ fun x => x.1)) = l.map fun p => wts ((rlist g m).filter fun q => q.1 == p.1) := rfl
  rw [e] at h3
  omega
/-- how long any form's value is -/
theorem vl_sz (l : Fo) (g : Nat → RatV) (m : Nat) : sz (2 * wts l + wts (rlist g m) + 5 * l.length + 1) (vl (rho g m) l) := by
  rw [← vl_nfm]
  refine (vl_nrm_sz (nfm_nrm l) g m).mono ?_
  have h1 := wts_nfm l
  have h2 := nfm_length l
  omega
theorem vl_part_sz (l : Fo) (g : Nat → RatV) (m i j : Nat) : sz (2 * wts l + wts (rlist g m) + 5 * l.length + 1) (vl (rho g m) ((l.drop i).take j)) := by
  refine (vl_sz _ g m).mono ?_
  have h1 := co_part l i j
  have h2 : ((l.drop i).take j).length ≤ l.length := by rw [List.length_take, List.length_drop]; omega
  omega
theorem rlist_wts {w : World} {g : Nat → RatV} : ∀ (m : Nat), (∀ t, t < m → (g t).ok w) → wts (rlist g m) ≤ bulkV g m + m
  | 0, _ => Nat.zero_le _
  | m + 1, h => by
    have h1 := rlist_wts m fun t ht => h t (by omega)
    obtain ⟨h2, h3⟩ := norm_sz (h m (by omega))
    rw [rlist_succ, wts_append]
    simp only [wts, bulkV, wt]
    omega

/-! ### The list of products -/
def rsum : List Rat → Rat
  | [] => 0
  | r :: l => r + rsum l
theorem rsum_append : ∀ (l m : List Rat), rsum (l ++ m) = rsum l + rsum m
  | [], m => by simp [rsum, Rat.zero_add]
  | p :: l, m => by simp only [List.cons_append, rsum, rsum_append l m]; grind
/-- the products of the parts whose variables have a place -/
def pls (g : Nat → RatV) (m : Nat) : Fo → List Rat
  | [] => []
  | p :: l => (if 0 ≤ p.1 ∧ p.1 < (m : Int) then [p.2 * (g p.1.toNat).val] else []) ++ pls g m l
theorem pls_append (g : Nat → RatV) (m : Nat) : ∀ (l k : Fo), pls g m (l ++ k) = pls g m l ++ pls g m k
  | [], k => rfl
  | p :: l, k => by simp only [List.cons_append, pls, pls_append g m l k, List.append_assoc]
theorem pls_sum (g : Nat → RatV) (m : Nat) : ∀ (l : Fo), rsum (pls g m l) = vl (rho g m) l
  | [] => rfl
  | p :: l => by
    simp only [pls, vl]
    rw [rsum_append, pls_sum g m l]
    unfold rho
    split
    · simp only [rsum]; rw [Rat.add_zero]
    · simp only [rsum]; rw [Rat.mul_zero]
theorem pls_drop (g : Nat → RatV) (m : Nat) : ∀ (l : Fo) (i : Nat), ∃ i', (pls g m l).drop i = pls g m (l.drop i')
  | [], i => ⟨0, by simp [pls]⟩
  | p :: l, 0 => ⟨0, rfl⟩
  | p :: l, i + 1 => by
    simp only [pls]
    split
    · obtain ⟨i', h⟩ := pls_drop g m l i
      exact ⟨i' + 1, by rw [List.cons_append, List.nil_append, List.drop_succ_cons, List.drop_succ_cons]; exact h⟩
    · obtain ⟨i', h⟩ := pls_drop g m l (i + 1)
      exact ⟨i' + 1, by rw [List.nil_append, List.drop_succ_cons]; exact h⟩
theorem pls_take (g : Nat → RatV) (m : Nat) : ∀ (l : Fo) (i : Nat), ∃ i', (pls g m l).take i = pls g m (l.take i')
  | [], i => ⟨0, by simp [pls]⟩
  | p :: l, 0 => ⟨0, rfl⟩
  | p :: l, i + 1 => by
    simp only [pls]
    split
    · rename_i hp
      obtain ⟨i', h⟩ := pls_take g m l i
      refine ⟨i' + 1, ?_⟩
      rw [List.cons_append, List.nil_append, List.take_succ_cons, List.take_succ_cons]
      simp only [pls]
      rw [if_pos hp, h]
      rfl
    · rename_i hp
      obtain ⟨i', h⟩ := pls_take g m l (i + 1)
      refine ⟨i' + 1, ?_⟩
      rw [List.nil_append, List.take_succ_cons]
      simp only [pls]
      rw [if_neg hp, h]
      rfl
/-- sums of products that stand side by side are values of parts that stand side by side -/
theorem pls_part (l : Fo) (g : Nat → RatV) (m i j : Nat) : ∃ i' j', rsum (((pls g m l).drop i).take j) = vl (rho g m) ((l.drop i').take j') := by
  obtain ⟨i', h1⟩ := pls_drop g m l i
  obtain ⟨j', h2⟩ := pls_take g m (l.drop i') j
  exact ⟨i', j', by rw [h1, h2, pls_sum]⟩
theorem prl_pls (v : Nat → Int) (f g : Nat → RatV) (m : Nat) : ∀ n, prl v f g m n = pls g m ((List.range n).map fun i => (v i, (f i).val))
  | 0 => rfl
  | n + 1 => by
    rw [List.range_succ, List.map_append, pls_append, ← prl_pls v f g m n]
    simp only [prl, List.map_cons, List.map_nil, pls, List.append_nil]
theorem rs_lv (q : Nat → RatV) : ∀ n, rs q n = rsum (lv q n)
  | 0 => rfl
  | n + 1 => by
    rw [lv_succ, rsum_append, ← rs_lv q n]
    simp only [rs, rsum]
    rw [Rat.add_zero]
theorem lv_part (q : Nat → RatV) (n i k : Nat) (h : i + k ≤ n) : lv (fun t => q (i + t)) k = ((lv q n).drop i).take k := by
  unfold lv
  rw [← List.map_drop, ← List.map_take]
  apply List.ext_getElem
  · simp; omega
  · intro t h1 h2
    simp
theorem sz_plus {r t : Rat} {N M : Nat} (h : sz N r) (k : sz M t) : sz (2 * N + 2 * M + 3) (r + t) := by
  have e : co 0 [(0, r), (0, t)] = r + t := by simp [co]; grind
  rw [← e]
  refine (co_sz 0 _).mono ?_
  simp only [wts, wt]
  have := h.1; have := h.2; have := k.1; have := k.2
  omega
theorem co_filter (P : Int → Bool) (x : Int) : ∀ (l : Fo), co x (l.filter fun p => P p.1) = if P x then co x l else 0
  | [] => by simp [co]
  | p :: l => by
    have ih := co_filter P x l
    cases h : P p.1
    · rw [List.filter_cons_of_neg (by rw [h]; simp), ih]
      simp only [co]
      by_cases e : p.1 = x
      · rw [e] at h
        rw [h, if_neg (by simp), if_neg (by simp)]
      · rw [if_neg e, Rat.zero_add]
    · rw [List.filter_cons_of_pos (by simpa using h)]
      simp only [co]
      rw [ih]
      by_cases e : p.1 = x
      · rw [e] at h
        rw [h, if_pos rfl, if_pos rfl]
      · rw [if_neg e, Rat.zero_add, Rat.zero_add]
/-- parts of a normal form: what is left of the form of which it was made -/
theorem vl_seg (ρ : Int → Rat) {l s : Fo} (hs : List.Sublist s (nfm l)) : vl ρ s = vl ρ (l.filter fun p => decide (p.1 ∈ s.map (·.1))) := by
  have hn := nfm_nrm l
  have e : s = nfm (l.filter fun p => decide (p.1 ∈ s.map (·.1))) := nfm_uniq (hn.sub hs) fun x => by
    rw [co_filter (fun y => decide (y ∈ s.map (·.1))) x l]
    by_cases hx : x ∈ s.map (·.1)
    · rw [if_pos (by simpa using hx)]
      obtain ⟨p, hp, rfl⟩ := List.mem_map.1 hx
      rw [(hn.sub hs).co_mem hp, ← hn.co_mem (hs.subset hp), nfm_co]
    · rw [if_neg (by simpa using hx), co_zero fun p hp h => hx (List.mem_map.2 ⟨p, hp, h⟩)]
  rw [← vl_nfm ρ (l.filter _), ← e]
theorem wts_filter (P : Int × Rat → Bool) (l : Fo) : wts (l.filter P) ≤ wts l := by have := wts_part P l; omega
theorem fmap_filter (f : Rat → Rat) (P : Int → Bool) : ∀ (l : Fo), (fmap f l).filter (fun p => P p.1) = fmap f (l.filter fun p => P p.1)
  | [] => rfl
  | p :: l => by
    have ih := fmap_filter f P l
    show ((p.1, f p.2) :: fmap f l).filter _ = _
    cases h : P p.1
    · rw [List.filter_cons_of_neg (by simp [h]), List.filter_cons_of_neg (by simp [h]), ih]
    · rw [List.filter_cons_of_pos (by simp [h]), List.filter_cons_of_pos (by simp [h]), ih]
      rfl
theorem vl_filter_sz (P : Int × Rat → Bool) (l : Fo) (g : Nat → RatV) (m : Nat) : sz (2 * wts l + wts (rlist g m) + 5 * l.length + 1) (vl (rho g m) (l.filter P)) := by
  refine (vl_sz _ g m).mono ?_
  have h1 := wts_filter P l
  have h2 := List.length_filter_le P l
  omega
/-- how long the value of a part of what Subst tells is -/
theorem vl_put_sz {a b : Fo} {c : Rat} {g : Nat → RatV} {m N M : Nat} (hc : sz N c) (ha : 2 * wts a + wts (rlist g m) + 5 * a.length + 1 ≤ M) (hb : 2 * wts b + wts (rlist g m) + 5 * b.length + 1 ≤ M) {s : Fo} (hs : List.Sublist s (mrg (nfm a) (nfm (fmap (fun r => c * r) b)))) :
    sz (2 * M + 2 * (N + M) + 3) (vl (rho g m) s) := by
  rw [nfm_append] at hs
  rw [vl_seg (rho g m) hs]
  generalize s.map (·.1) = V
  rw [List.filter_append, vl_append, fmap_filter (fun r => c * r) (fun y => decide (y ∈ V)) b, vl_scale]
  exact sz_plus ((vl_filter_sz _ a g m).mono ha) (sz_mul hc ((vl_filter_sz _ b g m).mono hb))
/-- the list of products as numbers over numbers -/
theorem prods_rat (v : Nat → Int) (f g : Nat → RatV) (m : Nat) : ∀ n, 0 < lden (prods v f g m n) ∧ rsum (prl v f g m n) = Rat.divInt (lnum (prods v f g m n)) ((lden (prods v f g m n) : Nat) : Int)
  | 0 => ⟨Nat.one_pos, by show (0 : Rat) = Rat.divInt 0 _; rw [Rat.zero_divInt]⟩
  | n + 1 => by
    obtain ⟨h1, h2⟩ := prods_rat v f g m n
    simp only [prods, prl]
    split
    · rw [rsum_append, h2, lnum_append, lden_append]
      simp only [rsum]
      rw [Rat.add_zero]
      unfold RatV.val
      rw [Rat.divInt_mul_divInt]
      have e1 : ∀ (x : Int × Nat), lden [x] = x.2 := fun x => Nat.mul_one _
      have e2 : ∀ (x : Int × Nat), lnum [x] = x.1 := fun x => by show x.1 * ((1 : Nat) : Int) + 0 * _ = _; simp
      rw [e1, e2]
      have p1 := rd_pos (f n).Y
      have p2 := rd_pos (g (v n).toNat).Y
      have p3 := Nat.mul_pos p1 p2
      refine ⟨Nat.mul_pos h1 p3, ?_⟩
      rw [← Int.natCast_mul, Rat.divInt_add_divInt _ _ (by omega) (by omega)]
      simp only [Int.natCast_mul]
    · rw [List.append_nil, List.append_nil]
      exact ⟨h1, h2⟩
end Go.Proofs.YtkflbhkcofmaoaaGreat
