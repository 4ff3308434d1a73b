/-
  Layer 5: gaps in memory; narrows, shut.
-/
import Derived.Test.YtnifelfecildmaaGreatDoorNumP
import Derived.Test.YtnifelfecildmaaGreatDoorWQB
import Derived.Test.YtnifelfecildmaaGreatDoorThr3
namespace Go.Proofs.YtnifelfecildmaaGreatDoor
open Go.RowKit
set_option linter.unusedVariables false
set_option linter.unusedSimpArgs false

/-- a gap in memory -/
structure GapV where
  lo : DelV
  hi : DelV
def GapV.val (g : GapV) : Gp := (g.lo.val, g.hi.val)
def GapV.ok (w : World) (g : GapV) : Prop := g.lo.ok w ∧ g.hi.ok w
theorem GapV.ok.on {w w' : World} {d : GapV} (h : d.ok w) (hb : Below w.heap.size w w') : d.ok w' := ⟨h.1.on hb, h.2.on hb⟩
def DelV.tiny (d : DelV) : Prop := d.a.n ≤ 1048576 ∧ d.a.m ≤ 1048576 ∧ d.b.n ≤ 1048576 ∧ d.b.m ≤ 1048576
theorem DelV.tiny.short {d : DelV} (h : d.tiny) : d.short := ⟨Nat.le_trans h.1 (by omega), Nat.le_trans h.2.1 (by omega), Nat.le_trans h.2.2.1 (by omega), Nat.le_trans h.2.2.2 (by omega)⟩
def GapV.tiny (g : GapV) : Prop := g.lo.tiny ∧ g.hi.tiny
theorem low_invG {t : Rat} (h : t ≠ 0) : Low (t.den : Int) t.num (t⁻¹).num (t⁻¹).den := low_of (fun e => h (Rat.num_eq_zero.1 e)) (Rat.inv_def t)
theorem sz_divG {N M : Nat} {r t : Rat} (h : sz N r) (k : sz M t) (h0 : t ≠ 0) : sz (N + M) (r / t) := by
  rw [Rat.div_def]
  have hl := (low_invG h0).le
  exact sz_mulY h ⟨Nat.le_trans (ln_mono hl.1) k.2, Nat.le_trans (ln_mono hl.2) k.1⟩
theorem sz_subG {N M : Nat} {r t : Rat} (h : sz N r) (k : sz M t) : sz (2 * N + 2 * M + 3) (r - t) := by
  rw [Rat.sub_eq_add_neg]
  exact sz_addY h (sz_negY k)
theorem tiny_sz {w : World} {d : DelV} (h : d.ok w) (k : d.tiny) : sz 1048577 d.a.val ∧ sz 1048577 d.b.val := ⟨szV h.1 (by have := k.1; omega) (by have := k.2.1; omega), szV h.2 (by have := k.2.2.1; omega) (by have := k.2.2.2; omega)⟩
/-- how long the number is at which a gap shuts -/
theorem shut_sz {w : World} {g : GapV} (h : g.ok w) (k : g.tiny) (hn : nar g.val) : sz 8388622 (shutR g.val) := by
  obtain ⟨a1, a2⟩ := tiny_sz h.1 k.1
  obtain ⟨b1, b2⟩ := tiny_sz h.2 k.2
  have h0 : g.val.1.2 - g.val.2.2 ≠ 0 := by unfold nar at hn; grind
  exact (sz_divG (sz_subG b1 a1) (sz_subG a2 b2) h0).mono (by omega)
theorem step_sz {w : World} {g : GapV} {r : Rat} (h : g.ok w) (k : g.tiny) (hr : sz 8388622 r) : sz 8388622 (stepG r g.val) := by
  unfold stepG
  split
  · rename_i hn; exact shut_sz h k hn.1
  · exact hr
theorem one_sz : sz 8388622 (1 : Rat) := ⟨by show ln (am 1) ≤ _; rw [show am 1 = 1 from rfl, ln_one]; omega, by show ln 1 ≤ _; rw [ln_one]; omega⟩
theorem subDq (x y : DelV) (w : World) (hx : x.ok w) (hy : y.ok w) (hu : x.tiny) (hv : y.tiny) : Calls Tryz.prog 48 #[.agg #[.bool x.a.s, .slice x.a.a x.a.n x.a.c, .slice x.a.b x.a.m x.a.e, .bool x.b.s, .slice x.b.a x.b.n x.b.c, .slice x.b.b x.b.m x.b.e], .agg #[.bool y.a.s, .slice y.a.a y.a.n y.a.c, .slice y.a.b y.a.m y.a.e, .bool y.b.s, .slice y.b.a y.b.n y.b.c, .slice y.b.b y.b.m y.b.e]] w (DA w (x.a.val - y.a.val, x.b.val - y.b.val)) := by
  obtain ⟨a1, a2⟩ := tiny_sz hx hu
  obtain ⟨c1, c2⟩ := tiny_sz hy hv
  have s1 := sz_subG a1 c1
  have s2 := sz_subG a2 c2
  obtain ⟨u1, u2, u3, u4⟩ := hu
  obtain ⟨v1, v2, v3, v4⟩ := hv
  refine (dSub_is x.a.s x.a.a x.a.n x.a.c x.a.X x.a.b x.a.m x.a.e x.a.Y x.b.s x.b.a x.b.n x.b.c x.b.X x.b.b x.b.m x.b.e x.b.Y y.a.s y.a.a y.a.n y.a.c y.a.X y.a.b y.a.m y.a.e y.a.Y y.b.s y.b.a y.b.n y.b.c y.b.X y.b.b y.b.m y.b.e y.b.Y _ _ _ _ w hx.1.2.1 (by omega) hx.1.1 hx.1.2.2.2.2.1 (by omega) hx.1.2.2.2.1 hx.2.2.1 (by omega) hx.2.1 hx.2.2.2.2.2.1 (by omega) hx.2.2.2.2.1 hy.1.2.1 (by omega) hy.1.1 hy.1.2.2.2.2.1 (by omega) hy.1.2.2.2.1 hy.2.2.1 (by omega) hy.2.1 hy.2.2.2.2.2.1 (by omega) hy.2.2.2.2.1 (low_subY x.a y.a) (low_subY x.b y.b)).mono ?_
  rintro e w1 ⟨p, q, r, t, rfl, n1, n2, n3, n4⟩
  exact ⟨p, q, r, t, rfl, n1.below, ⟨n1.seg, Nat.le_refl _, Nat.le_trans s1.1 (by omega), n2.seg, Nat.le_refl _, Nat.le_trans s1.2 (by omega)⟩, ⟨n3.seg, Nat.le_refl _, Nat.le_trans s2.1 (by omega), n4.seg, Nat.le_refl _, Nat.le_trans s2.2 (by omega)⟩⟩
theorem negQ (A : RatV) (S : Rat) (w : World) (hA : A.ok w) (hn : A.n ≤ 100000000 ∧ A.m ≤ 100000000) (hS : -A.val = S) (hz : sz 100000000 S) : Calls Tryz.prog 50 #[.agg #[.bool A.s, .slice A.a A.n A.c, .slice A.b A.m A.e]] w (QA w S) := by
  subst hS
  have h1 := hA.2.2.1
  have h2 := hA.2.2.2.2.2
  refine (qNeg_is A.s A.a A.n A.c A.X A.b A.m A.e A.Y _ _ w hA.2.1 (by omega) hA.1 hA.2.2.2.2.1 (by omega) hA.2.2.2.1 (low_neg A)).mono ?_
  rintro e w1 ⟨p, q, rfl, n1, n2⟩
  exact ⟨p, q, rfl, n1.below, ok_nR hz n1 n2⟩
set_option maxHeartbeats 2000000 in
set_option maxRecDepth 100000 in
theorem narrows_is (g : GapV) (w : World) (hg : g.ok w) (hk : g.tiny) : Calls Tryz.prog 26 #[.agg #[.bool g.lo.a.s, .slice g.lo.a.a g.lo.a.n g.lo.a.c, .slice g.lo.a.b g.lo.a.m g.lo.a.e, .bool g.lo.b.s, .slice g.lo.b.a g.lo.b.n g.lo.b.c, .slice g.lo.b.b g.lo.b.m g.lo.b.e, .bool g.hi.a.s, .slice g.hi.a.a g.hi.a.n g.hi.a.c, .slice g.hi.a.b g.hi.a.m g.hi.a.e, .bool g.hi.b.s, .slice g.hi.b.a g.hi.b.n g.hi.b.c, .slice g.hi.b.b g.hi.b.m g.hi.b.e]] w fun e w1 => e = .returned (.bool (decide (nar g.val))) ∧ Below w.heap.size w w1 := by
  have G := hide' (fun w' (hb : Below w.heap.size w w') => cmpQ g.lo.b g.hi.b w' (hg.1.2.on hb) (hg.2.2.on hb) ⟨by have := hk.1.2.2.1; omega, by have := hk.1.2.2.2; omega, by have := hk.2.2.2.1; omega, by have := hk.2.2.2.2; omega⟩ _ rfl)
  have hd : decide (0 < sR (g.lo.b.val - g.hi.b.val)) = decide (nar g.val) := by
    apply decide_eq_decide.2
    show _ ↔ g.hi.b.val < g.lo.b.val
    rcases sR_cases (g.lo.b.val - g.hi.b.val) with ⟨h, e⟩ | ⟨h, e⟩ | ⟨h, e⟩ <;> rw [e]
    · exact ⟨fun k => absurd k (by omega), fun k => by grind⟩
    · exact ⟨fun k => absurd k (by omega), fun k => by grind⟩
    · exact ⟨fun _ => by grind, fun _ => by omega⟩
  obtain ⟨c, hc⟩ : ∃ c, sR (g.lo.b.val - g.hi.b.val) = c := ⟨_, rfl⟩
  rw [hc] at G hd
  obtain ⟨d, hd2⟩ : ∃ d, decide (nar g.val) = d := ⟨_, rfl⟩
  rw [hd2] at hd ⊢
  replace hd := hide' hd
  clear hg hk hc hd2
  go_enter Tryz.func26, Tryz.ntmps26
  go_wp2_with fail
  obtain ⟨wA, hwA⟩ : ∃ wA, w.alloc (.cells #[.bool g.lo.a.s, .slice g.lo.a.a g.lo.a.n g.lo.a.c, .slice g.lo.a.b g.lo.a.m g.lo.a.e, .bool g.lo.b.s, .slice g.lo.b.a g.lo.b.n g.lo.b.c, .slice g.lo.b.b g.lo.b.m g.lo.b.e, .bool g.hi.a.s, .slice g.hi.a.a g.hi.a.n g.hi.a.c, .slice g.hi.a.b g.hi.a.m g.hi.a.e, .bool g.hi.b.s, .slice g.hi.b.a g.hi.b.n g.hi.b.c, .slice g.hi.b.b g.hi.b.m g.hi.b.e] 42) = wA := ⟨_, rfl⟩
  have hB : Below w.heap.size w wA := by subst hwA; exact below_alloc _
  rw [hwA]
  clear hwA
  refine (G.out _ hB).mono ?_
  rintro e w1 ⟨rfl, b1⟩
  go_wp2
  go_ret
  exact ⟨by rw [← hd.out]; rfl, hB.trans (b1.mono hB.size)⟩
set_option maxHeartbeats 4000000 in
set_option maxRecDepth 100000 in
theorem shut_is (g : GapV) (w : World) (hg : g.ok w) (hk : g.tiny) (hn : nar g.val) : Calls Tryz.prog 27 #[.agg #[.bool g.lo.a.s, .slice g.lo.a.a g.lo.a.n g.lo.a.c, .slice g.lo.a.b g.lo.a.m g.lo.a.e, .bool g.lo.b.s, .slice g.lo.b.a g.lo.b.n g.lo.b.c, .slice g.lo.b.b g.lo.b.m g.lo.b.e, .bool g.hi.a.s, .slice g.hi.a.a g.hi.a.n g.hi.a.c, .slice g.hi.a.b g.hi.a.m g.hi.a.e, .bool g.hi.b.s, .slice g.hi.b.a g.hi.b.n g.hi.b.c, .slice g.hi.b.b g.hi.b.m g.hi.b.e]] w (QA w (shutR g.val)) := by
  have G1 := hide' (fun w' (hb : Below w.heap.size w w') => subDq g.hi g.lo w' (hg.2.on hb) (hg.1.on hb) hk.2 hk.1)
  obtain ⟨a1, a2⟩ := tiny_sz hg.1 hk.1
  obtain ⟨c1, c2⟩ := tiny_sz hg.2 hk.2
  have s1 : sz 8388622 (g.hi.a.val - g.lo.a.val) := (sz_subG c1 a1).mono (by omega)
  have s2 : sz 8388622 (g.hi.b.val - g.lo.b.val) := (sz_subG c2 a2).mono (by omega)
  have s3 := shut_sz hg hk hn
  have h0 : -(g.hi.b.val - g.lo.b.val) ≠ 0 := by unfold nar GapV.val DelV.val at hn; simp only at hn; grind
  have hE : (g.hi.a.val - g.lo.a.val) / -(g.hi.b.val - g.lo.b.val) = shutR g.val := by unfold shutR GapV.val DelV.val; simp only; rw [Rat.neg_sub]
  obtain ⟨S, hS⟩ : ∃ S, shutR g.val = S := ⟨_, rfl⟩
  rw [hS] at s3 hE ⊢
  clear hS
  obtain ⟨x, hx⟩ : ∃ x, g.hi.a.val - g.lo.a.val = x := ⟨_, rfl⟩
  obtain ⟨y, hy⟩ : ∃ y, g.hi.b.val - g.lo.b.val = y := ⟨_, rfl⟩
  rw [hx, hy] at G1
  rw [hx] at s1 hE
  rw [hy] at s2 h0 hE
  clear hx hy hg hk hn a1 a2 c1 c2
  have G2 := hide' (fun w' p q (k : (nR y p q).ok w') => negQ (nR y p q) (-y) w' k ⟨Nat.le_trans s2.1 (by omega), Nat.le_trans s2.2 (by omega)⟩ (by rw [nR_val]) ((sz_negY s2).mono (by omega)))
  have G3 := hide' (fun w' p q p1 q1 (k : (nR x p q).ok w') (k1 : (nR (-y) p1 q1).ok w') => divQ (nR x p q) (nR (-y) p1 q1) S w' k k1 ⟨Nat.le_trans s1.1 (by omega), Nat.le_trans s1.2 (by omega), Nat.le_trans (sz_negY s2).1 (by omega), Nat.le_trans (sz_negY s2).2 (by omega)⟩ (by rw [nR_val]; exact h0) (by rw [nR_val, nR_val]; exact hE) (s3.mono (by omega)))
  obtain ⟨z, hz⟩ : ∃ z, -y = z := ⟨_, rfl⟩
  rw [hz] at G2 G3
  clear s1 s2 s3 h0 hE hz
  go_enter Tryz.func27, Tryz.ntmps27
  go_wp2_with fail
  obtain ⟨wA, hwA⟩ : ∃ wA, (w.alloc (.cells #[.bool g.lo.a.s, .slice g.lo.a.a g.lo.a.n g.lo.a.c, .slice g.lo.a.b g.lo.a.m g.lo.a.e, .bool g.lo.b.s, .slice g.lo.b.a g.lo.b.n g.lo.b.c, .slice g.lo.b.b g.lo.b.m g.lo.b.e, .bool g.hi.a.s, .slice g.hi.a.a g.hi.a.n g.hi.a.c, .slice g.hi.a.b g.hi.a.m g.hi.a.e, .bool g.hi.b.s, .slice g.hi.b.a g.hi.b.n g.hi.b.c, .slice g.hi.b.b g.hi.b.m g.hi.b.e] 42)).alloc (.cells #[.bool false, .slice none 0 0, .slice none 0 0] 28) = wA := ⟨_, rfl⟩
  have hB : Below w.heap.size w wA := by subst hwA; exact (below_alloc _).trans ((below_alloc _).mono (below_alloc _).size)
  have rA : Thr wA (w.heap.size + 1) (.bool false) (.slice none 0 0) (.slice none 0 0) := by
    subst hwA
    refine ⟨⟨by go_simp, by go_simp, by go_simp⟩, ?_⟩
    have h := row_new (w.alloc (.cells #[.bool g.lo.a.s, .slice g.lo.a.a g.lo.a.n g.lo.a.c, .slice g.lo.a.b g.lo.a.m g.lo.a.e, .bool g.lo.b.s, .slice g.lo.b.a g.lo.b.n g.lo.b.c, .slice g.lo.b.b g.lo.b.m g.lo.b.e, .bool g.hi.a.s, .slice g.hi.a.a g.hi.a.n g.hi.a.c, .slice g.hi.a.b g.hi.a.m g.hi.a.e, .bool g.hi.b.s, .slice g.hi.b.a g.hi.b.n g.hi.b.c, .slice g.hi.b.b g.hi.b.m g.hi.b.e] 42)) #[.bool false, .slice none 0 0, .slice none 0 0] 28
    rw [World.size_alloc] at h
    exact h
  rw [hwA]
  clear hwA
  refine (G1.out _ hB).mono ?_
  rintro e w1 ⟨p1, q1, p2, q2, rfl, b1, k1⟩
  replace rA := rA.later b1
  replace hB := hB.trans (b1.mono hB.size)
  clear b1 G1
  have hX : (nR x p1 q1).ok w1 := k1.1
  have hY : (nR y p2 q2).ok w1 := k1.2
  clear k1
  obtain ⟨wC, hwC⟩ : ∃ wC, w1.alloc (.cells #[.bool (ng x.num), .slice p1 (ln (am x.num)) (ln (am x.num)), .slice q1 (ln x.den) (ln x.den), .bool (ng y.num), .slice p2 (ln (am y.num)) (ln (am y.num)), .slice q2 (ln y.den) (ln y.den)] 40) = wC := ⟨_, rfl⟩
  have bC : Below w1.heap.size w1 wC := by subst hwC; exact below_alloc _
  have y0 : wC.cell? ⟨w1.heap.size, 0, none⟩ = some (.bool (ng x.num)) := by subst hwC; go_simp
  have y1 : wC.cell? ⟨w1.heap.size, 1, none⟩ = some (.slice p1 (ln (am x.num)) (ln (am x.num))) := by subst hwC; go_simp
  have y2 : wC.cell? ⟨w1.heap.size, 2, none⟩ = some (.slice q1 (ln x.den) (ln x.den)) := by subst hwC; go_simp
  have y3 : wC.cell? ⟨w1.heap.size, 3, none⟩ = some (.bool (ng y.num)) := by subst hwC; go_simp
  have y4 : wC.cell? ⟨w1.heap.size, 4, none⟩ = some (.slice p2 (ln (am y.num)) (ln (am y.num))) := by subst hwC; go_simp
  have y5 : wC.cell? ⟨w1.heap.size, 5, none⟩ = some (.slice q2 (ln y.den) (ln y.den)) := by subst hwC; go_simp
  replace rA := rA.later bC
  replace hB := hB.trans (bC.mono hB.size)
  replace hX := hX.on bC
  replace hY := hY.on bC
  clear bC
  go_upto_region 2 with fail
  clear hwC
  obtain ⟨cS, hcS⟩ : ∃ c, w1.heap.size = c := ⟨_, rfl⟩
  rw [hcS] at y0 y1 y2 y3 y4 y5 ⊢
  clear hcS
  go_cut [4, 5] from 11 to 19 (fun s4 s5 wx => ∃ wh9 c p q, wh9 = wx ∧ s4 = .pointer (some ⟨c, 0, none⟩) ∧ s5 = .int .i64 0 ∧ Thr wx c (.bool (ng S.num)) (.slice p (ln (am S.num)) (ln (am S.num))) (.slice q (ln S.den) (ln S.den)) ∧ Below wC.heap.size wC wx ∧ (nR S p q).ok wx)
  case first =>
    have bT : Below wC.heap.size wC wC := Below.refl _ _
    have hhl : cS < wC.heap.size := World.block_lt_of_cell? wC ⟨cS, 0, none⟩ y0
    have bD : Below wC.heap.size wC wC.drew := (Below.refl _ _).drew
    have ky0 := below_cell bD y0
    have ky1 := below_cell bD y1
    have ky2 := below_cell bD y2
    have ky3 := below_cell bD y3
    have ky4 := below_cell bD y4
    have ky5 := below_cell bD y5
    replace bT := bT.trans (bD.mono bT.size)
    refine wp_region_held_drew (S := fun w' => w'.cell? ⟨cS, 0, none⟩ = some (.bool (ng x.num)) ∧ w'.cell? ⟨cS, 1, none⟩ = some (.slice p1 (ln (am x.num)) (ln (am x.num))) ∧ w'.cell? ⟨cS, 2, none⟩ = some (.slice q1 (ln x.den) (ln x.den)) ∧ w'.cell? ⟨cS, 3, none⟩ = some (.bool (ng y.num)) ∧ w'.cell? ⟨cS, 4, none⟩ = some (.slice p2 (ln (am y.num)) (ln (am y.num))) ∧ w'.cell? ⟨cS, 5, none⟩ = some (.slice q2 (ln y.den) (ln y.den))) (by kernel_rfl) ⟨ky0, ky1, ky2, ky3, ky4, ky5⟩ (fun hHeld => ?_)
    clear ky0 ky1 ky2 ky3 ky4 ky5
    generalize wC.drew = wF0 at bD bT hHeld ⊢
    replace hX := hX.on bD
    replace hY := hY.on bD
    clear bD y0 y1 y2 y3 y4 y5
    refine take' 0 (v := ?_) rfl (by kernel_rfl) (by kernel_rfl) (by kernel_rfl) (fun _ _ _ h => h) (Or.inl ⟨by rfl, ?_⟩) (by assumption) ?_
    rotate_left
    · intro w9 hSw
      go_simp
      first | done | with_reducible rfl
    simp only [Act.put, List.setIfInBounds_toArray, List.set_cons_zero, List.set_cons_succ]
    refine take' 1 (v := ?_) rfl (by kernel_rfl) (by kernel_rfl) (by kernel_rfl) (fun _ _ _ h => h) (Or.inl ⟨by rfl, ?_⟩) (by assumption) ?_
    rotate_left
    · intro w9 hSw
      go_simp
      first | done | with_reducible rfl
    simp only [Act.put, List.setIfInBounds_toArray, List.set_cons_zero, List.set_cons_succ]
    refine take' 2 (v := ?_) rfl (by kernel_rfl) (by kernel_rfl) (by kernel_rfl) (fun _ _ _ h => h) (Or.inl ⟨by rfl, ?_⟩) (by assumption) ?_
    rotate_left
    · intro w9 hSw
      go_simp
      first | done | with_reducible rfl
    simp only [Act.put, List.setIfInBounds_toArray, List.set_cons_zero, List.set_cons_succ]
    refine take' 3 (v := ?_) rfl (by kernel_rfl) (by kernel_rfl) (by kernel_rfl) (fun _ _ _ h => h) (Or.inl ⟨by rfl, ?_⟩) (by assumption) ?_
    rotate_left
    · intro w9 hSw
      go_simp
      first | done | with_reducible rfl
    simp only [Act.put, List.setIfInBounds_toArray, List.set_cons_zero, List.set_cons_succ]
    refine wpAnyH_ready (rs := [4, 9]) (by kernel_rfl) (by simp) ?_
    refine consT rfl (fun KK hKK => ?_) ?_
    · skip
      go_simp
      refine (G2.out _ p2 q2 hY).mono ?_
      rintro e wF1 ⟨p3, q3, rfl, bV, hZ⟩
      replace bT := bT.trans (bV.mono bT.size)
      replace hHeld := (⟨below_cell bV hHeld.1, below_cell bV hHeld.2.1, below_cell bV hHeld.2.2.1, below_cell bV hHeld.2.2.2.1, below_cell bV hHeld.2.2.2.2.1, below_cell bV hHeld.2.2.2.2.2⟩ : _ ∧ _ ∧ _ ∧ _ ∧ _ ∧ _)
      replace hX := hX.on bV
      replace hY := hY.on bV
      clear bV
      go_wp2_with fail
      refine hKK.out _ _ hHeld ?_
      clear hHeld
      intro hHeld
      clear hKK KK
      try simp only [Act.put, List.setIfInBounds_toArray, List.set_cons_zero, List.set_cons_succ]
      refine wpAnyH_ready (rs := [5, 9]) (by kernel_rfl) (by simp) ?_
      refine consT rfl (fun KK hKK => ?_) ?_
      · skip
        go_simp
        refine (G3.out _ p1 q1 p3 q3 hX hZ).mono ?_
        rintro e wF2 ⟨p, q, rfl, bV, hS⟩
        replace bT := bT.trans (bV.mono bT.size)
        replace hHeld := (⟨below_cell bV hHeld.1, below_cell bV hHeld.2.1, below_cell bV hHeld.2.2.1, below_cell bV hHeld.2.2.2.1, below_cell bV hHeld.2.2.2.2.1, below_cell bV hHeld.2.2.2.2.2⟩ : _ ∧ _ ∧ _ ∧ _ ∧ _ ∧ _)
        replace hX := hX.on bV
        replace hY := hY.on bV
        replace hZ := hZ.on bV
        clear bV
        go_wp2_with fail
        refine hKK.out _ _ hHeld ?_
        clear hHeld
        intro hHeld
        clear hKK KK
        try simp only [Act.put, List.setIfInBounds_toArray, List.set_cons_zero, List.set_cons_succ]
        refine take' 6 (v := ?_) rfl (by kernel_rfl) (by kernel_rfl) (by kernel_rfl) (fun _ _ _ h => h) (Or.inl ⟨by rfl, ?_⟩) (by assumption) ?_
        rotate_left
        · intro w9 hSw
          go_simp
          first | done | with_reducible rfl
        simp only [Act.put, List.setIfInBounds_toArray, List.set_cons_zero, List.set_cons_succ]
        refine take' 7 (v := ?_) rfl (by kernel_rfl) (by kernel_rfl) (by kernel_rfl) (fun _ _ _ h => h) (Or.inl ⟨by rfl, ?_⟩) (by assumption) ?_
        rotate_left
        · intro w9 hSw
          go_simp
          first | done | with_reducible rfl
        simp only [Act.put, List.setIfInBounds_toArray, List.set_cons_zero, List.set_cons_succ]
        refine take' 8 (v := ?_) rfl (by kernel_rfl) (by kernel_rfl) (by kernel_rfl) (fun _ _ _ h => h) (Or.inl ⟨by rfl, ?_⟩) (by assumption) ?_
        rotate_left
        · intro w9 hSw
          go_simp
          first | done | with_reducible rfl
        simp only [Act.put, List.setIfInBounds_toArray, List.set_cons_zero, List.set_cons_succ]
        refine wpAnyH_ready (rs := [9]) (by kernel_rfl) (by simp) ?_
        refine cons' rfl (fun KK hKK => ?_)
        go_simp
        have vN : Thr (wF2.alloc (.cells #[.bool false, .slice none 0 0, .slice none 0 0] 28)) wF2.heap.size (.bool false) (.slice none 0 0) (.slice none 0 0) := ⟨⟨by go_simp, by go_simp, by go_simp⟩, row_new wF2 _ 28⟩
        have bA := below_alloc (w := wF2) (.cells #[.bool false, .slice none 0 0, .slice none 0 0] 28)
        have hc9 : wC.heap.size ≤ wF2.heap.size := bT.size
        generalize wF2.alloc (.cells #[.bool false, .slice none 0 0, .slice none 0 0] 28) = wF3 at vN bA ⊢
        replace bT := bT.trans (bA.mono bT.size)
        replace hHeld := (⟨below_cell bA hHeld.1, below_cell bA hHeld.2.1, below_cell bA hHeld.2.2.1, below_cell bA hHeld.2.2.2.1, below_cell bA hHeld.2.2.2.2.1, below_cell bA hHeld.2.2.2.2.2⟩ : _ ∧ _ ∧ _ ∧ _ ∧ _ ∧ _)
        replace hX := hX.on bA
        replace hY := hY.on bA
        replace hZ := hZ.on bA
        replace hS := hS.on bA
        clear bA
        refine hKK.out _ _ hHeld ?_
        clear hHeld
        intro hHeld
        clear hKK KK
        try simp only [Act.put, List.setIfInBounds_toArray, List.set_cons_zero, List.set_cons_succ]
        obtain ⟨cc, hcc⟩ : ∃ cc, wF2.heap.size = cc := ⟨_, rfl⟩
        rw [hcc] at vN hc9
        try rw [hcc]
        clear hcc
        refine wpAnyH_ready (rs := [10]) (by kernel_rfl) (by simp) ?_
        refine cons' rfl (fun KK hKK => ?_)
        have fz := fun o => vN.2.frozen o
        have hS2 : (nR S p q).ok (set3 wF3 cc (.bool (ng S.num)) (.slice p (ln (am S.num)) (ln (am S.num))) (.slice q (ln S.den) (ln S.den))) := ⟨vN.seg (by simp) (by simp) (by simp) hS.1, hS.2.1, hS.2.2.1, vN.seg (by simp) (by simp) (by simp) hS.2.2.2.1, hS.2.2.2.2.1, hS.2.2.2.2.2⟩
        replace bT := below_set3 (u0 := .bool (ng S.num)) (u1 := .slice p (ln (am S.num)) (ln (am S.num))) (u2 := .slice q (ln S.den) (ln S.den)) bT hc9
        have hH2 := (⟨(set3_far (w := wF3) (c := cc) (b := cS) (o := 0) (u0 := .bool (ng S.num)) (u1 := .slice p (ln (am S.num)) (ln (am S.num))) (u2 := .slice q (ln S.den) (ln S.den)) (by omega)).trans hHeld.1, (set3_far (w := wF3) (c := cc) (b := cS) (o := 1) (u0 := .bool (ng S.num)) (u1 := .slice p (ln (am S.num)) (ln (am S.num))) (u2 := .slice q (ln S.den) (ln S.den)) (by omega)).trans hHeld.2.1, (set3_far (w := wF3) (c := cc) (b := cS) (o := 2) (u0 := .bool (ng S.num)) (u1 := .slice p (ln (am S.num)) (ln (am S.num))) (u2 := .slice q (ln S.den) (ln S.den)) (by omega)).trans hHeld.2.2.1, (set3_far (w := wF3) (c := cc) (b := cS) (o := 3) (u0 := .bool (ng S.num)) (u1 := .slice p (ln (am S.num)) (ln (am S.num))) (u2 := .slice q (ln S.den) (ln S.den)) (by omega)).trans hHeld.2.2.2.1, (set3_far (w := wF3) (c := cc) (b := cS) (o := 4) (u0 := .bool (ng S.num)) (u1 := .slice p (ln (am S.num)) (ln (am S.num))) (u2 := .slice q (ln S.den) (ln S.den)) (by omega)).trans hHeld.2.2.2.2.1, (set3_far (w := wF3) (c := cc) (b := cS) (o := 5) (u0 := .bool (ng S.num)) (u1 := .slice p (ln (am S.num)) (ln (am S.num))) (u2 := .slice q (ln S.den) (ln S.den)) (by omega)).trans hHeld.2.2.2.2.2⟩ : _ ∧ _ ∧ _ ∧ _ ∧ _ ∧ _)
        have vN2 := vN.put (u0 := .bool (ng S.num)) (u1 := .slice p (ln (am S.num)) (ln (am S.num))) (u2 := .slice q (ln S.den) (ln S.den))
        have z0 := vN.1.1
        have z1 := vN.1.2.1
        have z2 := vN.1.2.2
        go_simp
        clear z0 z1 z2 vN fz
        refine hKK.out _ _ hH2 ?_
        clear hHeld
        intro hHeld
        clear hKK KK
        try simp only [Act.put, List.setIfInBounds_toArray, List.set_cons_zero, List.set_cons_succ]
        clear hH2
        refine take' 11 (v := ?_) rfl (by kernel_rfl) (by kernel_rfl) (by kernel_rfl) (fun _ _ _ h => h) (Or.inl ⟨by rfl, ?_⟩) (by assumption) ?_
        rotate_left
        · intro w9 hSw
          go_simp
          first | done | with_reducible rfl
        simp only [Act.put, List.setIfInBounds_toArray, List.set_cons_zero, List.set_cons_succ]
        refine wpAnyH_done (by kernel_rfl) ?_ _
        go_wp2_with fail
        go_meet
        exact ⟨_, cc, p, q, rfl, rfl, rfl, vN2, bT, hS2⟩
      refine consT rfl (fun KK hKK => ?_) ?_
      · skip
        go_simp
        have vN : Thr (wF1.alloc (.cells #[.bool false, .slice none 0 0, .slice none 0 0] 28)) wF1.heap.size (.bool false) (.slice none 0 0) (.slice none 0 0) := ⟨⟨by go_simp, by go_simp, by go_simp⟩, row_new wF1 _ 28⟩
        have bA := below_alloc (w := wF1) (.cells #[.bool false, .slice none 0 0, .slice none 0 0] 28)
        have hc9 : wC.heap.size ≤ wF1.heap.size := bT.size
        generalize wF1.alloc (.cells #[.bool false, .slice none 0 0, .slice none 0 0] 28) = wF4 at vN bA ⊢
        replace bT := bT.trans (bA.mono bT.size)
        replace hHeld := (⟨below_cell bA hHeld.1, below_cell bA hHeld.2.1, below_cell bA hHeld.2.2.1, below_cell bA hHeld.2.2.2.1, below_cell bA hHeld.2.2.2.2.1, below_cell bA hHeld.2.2.2.2.2⟩ : _ ∧ _ ∧ _ ∧ _ ∧ _ ∧ _)
        replace hX := hX.on bA
        replace hY := hY.on bA
        replace hZ := hZ.on bA
        clear bA
        refine hKK.out _ _ hHeld ?_
        clear hHeld
        intro hHeld
        clear hKK KK
        try simp only [Act.put, List.setIfInBounds_toArray, List.set_cons_zero, List.set_cons_succ]
        obtain ⟨cc, hcc⟩ : ∃ cc, wF1.heap.size = cc := ⟨_, rfl⟩
        rw [hcc] at vN hc9
        try rw [hcc]
        clear hcc
        refine wpAnyH_ready (rs := [5]) (by kernel_rfl) (by simp) ?_
        refine cons' rfl (fun KK hKK => ?_)
        go_simp
        refine (G3.out _ p1 q1 p3 q3 hX hZ).mono ?_
        rintro e wF5 ⟨p, q, rfl, bV, hS⟩
        replace bT := bT.trans (bV.mono bT.size)
        replace vN := vN.later bV
        replace hHeld := (⟨below_cell bV hHeld.1, below_cell bV hHeld.2.1, below_cell bV hHeld.2.2.1, below_cell bV hHeld.2.2.2.1, below_cell bV hHeld.2.2.2.2.1, below_cell bV hHeld.2.2.2.2.2⟩ : _ ∧ _ ∧ _ ∧ _ ∧ _ ∧ _)
        replace hX := hX.on bV
        replace hY := hY.on bV
        replace hZ := hZ.on bV
        clear bV
        go_wp2_with fail
        refine hKK.out _ _ hHeld ?_
        clear hHeld
        intro hHeld
        clear hKK KK
        try simp only [Act.put, List.setIfInBounds_toArray, List.set_cons_zero, List.set_cons_succ]
        refine take' 6 (v := ?_) rfl (by kernel_rfl) (by kernel_rfl) (by kernel_rfl) (fun _ _ _ h => h) (Or.inl ⟨by rfl, ?_⟩) (by assumption) ?_
        rotate_left
        · intro w9 hSw
          go_simp
          first | done | with_reducible rfl
        simp only [Act.put, List.setIfInBounds_toArray, List.set_cons_zero, List.set_cons_succ]
        refine take' 7 (v := ?_) rfl (by kernel_rfl) (by kernel_rfl) (by kernel_rfl) (fun _ _ _ h => h) (Or.inl ⟨by rfl, ?_⟩) (by assumption) ?_
        rotate_left
        · intro w9 hSw
          go_simp
          first | done | with_reducible rfl
        simp only [Act.put, List.setIfInBounds_toArray, List.set_cons_zero, List.set_cons_succ]
        refine take' 8 (v := ?_) rfl (by kernel_rfl) (by kernel_rfl) (by kernel_rfl) (fun _ _ _ h => h) (Or.inl ⟨by rfl, ?_⟩) (by assumption) ?_
        rotate_left
        · intro w9 hSw
          go_simp
          first | done | with_reducible rfl
        simp only [Act.put, List.setIfInBounds_toArray, List.set_cons_zero, List.set_cons_succ]
        refine wpAnyH_ready (rs := [10]) (by kernel_rfl) (by simp) ?_
        refine cons' rfl (fun KK hKK => ?_)
        have fz := fun o => vN.2.frozen o
        have hS2 : (nR S p q).ok (set3 wF5 cc (.bool (ng S.num)) (.slice p (ln (am S.num)) (ln (am S.num))) (.slice q (ln S.den) (ln S.den))) := ⟨vN.seg (by simp) (by simp) (by simp) hS.1, hS.2.1, hS.2.2.1, vN.seg (by simp) (by simp) (by simp) hS.2.2.2.1, hS.2.2.2.2.1, hS.2.2.2.2.2⟩
        replace bT := below_set3 (u0 := .bool (ng S.num)) (u1 := .slice p (ln (am S.num)) (ln (am S.num))) (u2 := .slice q (ln S.den) (ln S.den)) bT hc9
        have hH2 := (⟨(set3_far (w := wF5) (c := cc) (b := cS) (o := 0) (u0 := .bool (ng S.num)) (u1 := .slice p (ln (am S.num)) (ln (am S.num))) (u2 := .slice q (ln S.den) (ln S.den)) (by omega)).trans hHeld.1, (set3_far (w := wF5) (c := cc) (b := cS) (o := 1) (u0 := .bool (ng S.num)) (u1 := .slice p (ln (am S.num)) (ln (am S.num))) (u2 := .slice q (ln S.den) (ln S.den)) (by omega)).trans hHeld.2.1, (set3_far (w := wF5) (c := cc) (b := cS) (o := 2) (u0 := .bool (ng S.num)) (u1 := .slice p (ln (am S.num)) (ln (am S.num))) (u2 := .slice q (ln S.den) (ln S.den)) (by omega)).trans hHeld.2.2.1, (set3_far (w := wF5) (c := cc) (b := cS) (o := 3) (u0 := .bool (ng S.num)) (u1 := .slice p (ln (am S.num)) (ln (am S.num))) (u2 := .slice q (ln S.den) (ln S.den)) (by omega)).trans hHeld.2.2.2.1, (set3_far (w := wF5) (c := cc) (b := cS) (o := 4) (u0 := .bool (ng S.num)) (u1 := .slice p (ln (am S.num)) (ln (am S.num))) (u2 := .slice q (ln S.den) (ln S.den)) (by omega)).trans hHeld.2.2.2.2.1, (set3_far (w := wF5) (c := cc) (b := cS) (o := 5) (u0 := .bool (ng S.num)) (u1 := .slice p (ln (am S.num)) (ln (am S.num))) (u2 := .slice q (ln S.den) (ln S.den)) (by omega)).trans hHeld.2.2.2.2.2⟩ : _ ∧ _ ∧ _ ∧ _ ∧ _ ∧ _)
        have vN2 := vN.put (u0 := .bool (ng S.num)) (u1 := .slice p (ln (am S.num)) (ln (am S.num))) (u2 := .slice q (ln S.den) (ln S.den))
        have z0 := vN.1.1
        have z1 := vN.1.2.1
        have z2 := vN.1.2.2
        go_simp
        clear z0 z1 z2 vN fz
        refine hKK.out _ _ hH2 ?_
        clear hHeld
        intro hHeld
        clear hKK KK
        try simp only [Act.put, List.setIfInBounds_toArray, List.set_cons_zero, List.set_cons_succ]
        clear hH2
        refine take' 11 (v := ?_) rfl (by kernel_rfl) (by kernel_rfl) (by kernel_rfl) (fun _ _ _ h => h) (Or.inl ⟨by rfl, ?_⟩) (by assumption) ?_
        rotate_left
        · intro w9 hSw
          go_simp
          first | done | with_reducible rfl
        simp only [Act.put, List.setIfInBounds_toArray, List.set_cons_zero, List.set_cons_succ]
        refine wpAnyH_done (by kernel_rfl) ?_ _
        go_wp2_with fail
        go_meet
        exact ⟨_, cc, p, q, rfl, rfl, rfl, vN2, bT, hS2⟩
      exact AllReadyH.nil
    refine consT rfl (fun KK hKK => ?_) ?_
    · skip
      go_simp
      have vN : Thr (wF0.alloc (.cells #[.bool false, .slice none 0 0, .slice none 0 0] 28)) wF0.heap.size (.bool false) (.slice none 0 0) (.slice none 0 0) := ⟨⟨by go_simp, by go_simp, by go_simp⟩, row_new wF0 _ 28⟩
      have bA := below_alloc (w := wF0) (.cells #[.bool false, .slice none 0 0, .slice none 0 0] 28)
      have hc9 : wC.heap.size ≤ wF0.heap.size := bT.size
      generalize wF0.alloc (.cells #[.bool false, .slice none 0 0, .slice none 0 0] 28) = wF6 at vN bA ⊢
      replace bT := bT.trans (bA.mono bT.size)
      replace hHeld := (⟨below_cell bA hHeld.1, below_cell bA hHeld.2.1, below_cell bA hHeld.2.2.1, below_cell bA hHeld.2.2.2.1, below_cell bA hHeld.2.2.2.2.1, below_cell bA hHeld.2.2.2.2.2⟩ : _ ∧ _ ∧ _ ∧ _ ∧ _ ∧ _)
      replace hX := hX.on bA
      replace hY := hY.on bA
      clear bA
      refine hKK.out _ _ hHeld ?_
      clear hHeld
      intro hHeld
      clear hKK KK
      try simp only [Act.put, List.setIfInBounds_toArray, List.set_cons_zero, List.set_cons_succ]
      obtain ⟨cc, hcc⟩ : ∃ cc, wF0.heap.size = cc := ⟨_, rfl⟩
      rw [hcc] at vN hc9
      try rw [hcc]
      clear hcc
      refine wpAnyH_ready (rs := [4]) (by kernel_rfl) (by simp) ?_
      refine cons' rfl (fun KK hKK => ?_)
      go_simp
      refine (G2.out _ p2 q2 hY).mono ?_
      rintro e wF7 ⟨p3, q3, rfl, bV, hZ⟩
      replace bT := bT.trans (bV.mono bT.size)
      replace vN := vN.later bV
      replace hHeld := (⟨below_cell bV hHeld.1, below_cell bV hHeld.2.1, below_cell bV hHeld.2.2.1, below_cell bV hHeld.2.2.2.1, below_cell bV hHeld.2.2.2.2.1, below_cell bV hHeld.2.2.2.2.2⟩ : _ ∧ _ ∧ _ ∧ _ ∧ _ ∧ _)
      replace hX := hX.on bV
      replace hY := hY.on bV
      clear bV
      go_wp2_with fail
      refine hKK.out _ _ hHeld ?_
      clear hHeld
      intro hHeld
      clear hKK KK
      try simp only [Act.put, List.setIfInBounds_toArray, List.set_cons_zero, List.set_cons_succ]
      refine wpAnyH_ready (rs := [5]) (by kernel_rfl) (by simp) ?_
      refine cons' rfl (fun KK hKK => ?_)
      go_simp
      refine (G3.out _ p1 q1 p3 q3 hX hZ).mono ?_
      rintro e wF8 ⟨p, q, rfl, bV, hS⟩
      replace bT := bT.trans (bV.mono bT.size)
      replace vN := vN.later bV
      replace hHeld := (⟨below_cell bV hHeld.1, below_cell bV hHeld.2.1, below_cell bV hHeld.2.2.1, below_cell bV hHeld.2.2.2.1, below_cell bV hHeld.2.2.2.2.1, below_cell bV hHeld.2.2.2.2.2⟩ : _ ∧ _ ∧ _ ∧ _ ∧ _ ∧ _)
      replace hX := hX.on bV
      replace hY := hY.on bV
      replace hZ := hZ.on bV
      clear bV
      go_wp2_with fail
      refine hKK.out _ _ hHeld ?_
      clear hHeld
      intro hHeld
      clear hKK KK
      try simp only [Act.put, List.setIfInBounds_toArray, List.set_cons_zero, List.set_cons_succ]
      refine take' 6 (v := ?_) rfl (by kernel_rfl) (by kernel_rfl) (by kernel_rfl) (fun _ _ _ h => h) (Or.inl ⟨by rfl, ?_⟩) (by assumption) ?_
      rotate_left
      · intro w9 hSw
        go_simp
        first | done | with_reducible rfl
      simp only [Act.put, List.setIfInBounds_toArray, List.set_cons_zero, List.set_cons_succ]
      refine take' 7 (v := ?_) rfl (by kernel_rfl) (by kernel_rfl) (by kernel_rfl) (fun _ _ _ h => h) (Or.inl ⟨by rfl, ?_⟩) (by assumption) ?_
      rotate_left
      · intro w9 hSw
        go_simp
        first | done | with_reducible rfl
      simp only [Act.put, List.setIfInBounds_toArray, List.set_cons_zero, List.set_cons_succ]
      refine take' 8 (v := ?_) rfl (by kernel_rfl) (by kernel_rfl) (by kernel_rfl) (fun _ _ _ h => h) (Or.inl ⟨by rfl, ?_⟩) (by assumption) ?_
      rotate_left
      · intro w9 hSw
        go_simp
        first | done | with_reducible rfl
      simp only [Act.put, List.setIfInBounds_toArray, List.set_cons_zero, List.set_cons_succ]
      refine wpAnyH_ready (rs := [10]) (by kernel_rfl) (by simp) ?_
      refine cons' rfl (fun KK hKK => ?_)
      have fz := fun o => vN.2.frozen o
      have hS2 : (nR S p q).ok (set3 wF8 cc (.bool (ng S.num)) (.slice p (ln (am S.num)) (ln (am S.num))) (.slice q (ln S.den) (ln S.den))) := ⟨vN.seg (by simp) (by simp) (by simp) hS.1, hS.2.1, hS.2.2.1, vN.seg (by simp) (by simp) (by simp) hS.2.2.2.1, hS.2.2.2.2.1, hS.2.2.2.2.2⟩
      replace bT := below_set3 (u0 := .bool (ng S.num)) (u1 := .slice p (ln (am S.num)) (ln (am S.num))) (u2 := .slice q (ln S.den) (ln S.den)) bT hc9
      have hH2 := (⟨(set3_far (w := wF8) (c := cc) (b := cS) (o := 0) (u0 := .bool (ng S.num)) (u1 := .slice p (ln (am S.num)) (ln (am S.num))) (u2 := .slice q (ln S.den) (ln S.den)) (by omega)).trans hHeld.1, (set3_far (w := wF8) (c := cc) (b := cS) (o := 1) (u0 := .bool (ng S.num)) (u1 := .slice p (ln (am S.num)) (ln (am S.num))) (u2 := .slice q (ln S.den) (ln S.den)) (by omega)).trans hHeld.2.1, (set3_far (w := wF8) (c := cc) (b := cS) (o := 2) (u0 := .bool (ng S.num)) (u1 := .slice p (ln (am S.num)) (ln (am S.num))) (u2 := .slice q (ln S.den) (ln S.den)) (by omega)).trans hHeld.2.2.1, (set3_far (w := wF8) (c := cc) (b := cS) (o := 3) (u0 := .bool (ng S.num)) (u1 := .slice p (ln (am S.num)) (ln (am S.num))) (u2 := .slice q (ln S.den) (ln S.den)) (by omega)).trans hHeld.2.2.2.1, (set3_far (w := wF8) (c := cc) (b := cS) (o := 4) (u0 := .bool (ng S.num)) (u1 := .slice p (ln (am S.num)) (ln (am S.num))) (u2 := .slice q (ln S.den) (ln S.den)) (by omega)).trans hHeld.2.2.2.2.1, (set3_far (w := wF8) (c := cc) (b := cS) (o := 5) (u0 := .bool (ng S.num)) (u1 := .slice p (ln (am S.num)) (ln (am S.num))) (u2 := .slice q (ln S.den) (ln S.den)) (by omega)).trans hHeld.2.2.2.2.2⟩ : _ ∧ _ ∧ _ ∧ _ ∧ _ ∧ _)
      have vN2 := vN.put (u0 := .bool (ng S.num)) (u1 := .slice p (ln (am S.num)) (ln (am S.num))) (u2 := .slice q (ln S.den) (ln S.den))
      have z0 := vN.1.1
      have z1 := vN.1.2.1
      have z2 := vN.1.2.2
      go_simp
      clear z0 z1 z2 vN fz
      refine hKK.out _ _ hH2 ?_
      clear hHeld
      intro hHeld
      clear hKK KK
      try simp only [Act.put, List.setIfInBounds_toArray, List.set_cons_zero, List.set_cons_succ]
      clear hH2
      refine take' 11 (v := ?_) rfl (by kernel_rfl) (by kernel_rfl) (by kernel_rfl) (fun _ _ _ h => h) (Or.inl ⟨by rfl, ?_⟩) (by assumption) ?_
      rotate_left
      · intro w9 hSw
        go_simp
        first | done | with_reducible rfl
      simp only [Act.put, List.setIfInBounds_toArray, List.set_cons_zero, List.set_cons_succ]
      refine wpAnyH_done (by kernel_rfl) ?_ _
      go_wp2_with fail
      go_meet
      exact ⟨_, cc, p, q, rfl, rfl, rfl, vN2, bT, hS2⟩
    exact AllReadyH.nil
  case rest =>
    obtain ⟨wv, c, p, q, hwv, rfl, rfl, v4, bT, hS⟩ := hcut
    subst hwv
    replace rA := rA.later bT
    replace hB := hB.trans (bT.mono hB.size)
    clear bT hX hY y0 y1 y2 y3 y4 y5
    have x0 := v4.1.1
    have x1 := v4.1.2.1
    have x2 := v4.1.2.2
    have fz := fun o => rA.2.frozen o
    have z0 := rA.1.1
    have z1 := rA.1.2.1
    have z2 := rA.1.2.2
    have hS2 : (nR S p q).ok (set3 wv (w.heap.size + 1) (.bool (ng S.num)) (.slice p (ln (am S.num)) (ln (am S.num))) (.slice q (ln S.den) (ln S.den))) := ⟨rA.seg (by simp) (by simp) (by simp) hS.1, hS.2.1, hS.2.2.1, rA.seg (by simp) (by simp) (by simp) hS.2.2.2.1, hS.2.2.2.2.1, hS.2.2.2.2.2⟩
    have hB2 := below_set3 (u0 := .bool (ng S.num)) (u1 := .slice p (ln (am S.num)) (ln (am S.num))) (u2 := .slice q (ln S.den) (ln S.den)) hB (show w.heap.size ≤ w.heap.size + 1 by omega)
    have rD := rA.put (u0 := .bool (ng S.num)) (u1 := .slice p (ln (am S.num)) (ln (am S.num))) (u2 := .slice q (ln S.den) (ln S.den))
    obtain ⟨⟨v0, v1, v2⟩, _⟩ := rD
    replace hB2 := hide' hB2
    replace hS2 := hide' hS2
    clear v4 rA hB hS
    go_wp2
    refine bodyPost_ret (v := Value.agg #[Value.bool (ng S.num), Value.slice p (ln (am S.num)) (ln (am S.num)), Value.slice q (ln S.den) (ln S.den)]) (by rw [results_cell rfl]; go_simp) rfl ?_
    exact ⟨p, q, rfl, hB2.out, hS2.out⟩
end Go.Proofs.YtnifelfecildmaaGreatDoor
