/-
  The reference's Expand.
-/
import Derived.Test.YtapjaceahifihaaWJ5
import Derived.Deep.CutRange
namespace Go.Proofs.Ytapjaceahifihaa
open Go.RowKit
set_option linter.unusedVariables false
set_option linter.unusedSimpArgs false

/-- a number that does not lie in block o -/
structure SegV (o : Option Nat) (W : World) (ao : Option Addr) (X n : Nat) : Prop where
  seg : Seg W ao X n
  clr : 0 < n → ∀ b off, ao = some ⟨b, off, none⟩ → o ≠ some b
theorem SegV.later {o : Option Nat} {W W' : World} {ao : Option Addr} {X n : Nat} (h : SegV o W ao X n) (hb : Below W.heap.size W W') : SegV o W' ao X n := ⟨h.seg.later hb, h.clr⟩
theorem SegV.grown {o : Option Nat} {W w1 : World} {ao : Option Addr} {X n g : Nat} (h : SegV o W ao X n) (hg : W.grownBy w1 o) (hgo : o = some g ∨ W.heap.size ≤ g) : SegV (some g) w1 ao X n := by
  refine ⟨⟨h.seg.1, fun hn => ?_⟩, fun hn b off e => ?_⟩
  · obtain ⟨b, off, rfl, hl, hc⟩ := h.seg.2 hn
    exact ⟨b, off, rfl, Nat.lt_of_lt_of_le hl hg.size, fun i hi => hg.cell (hc i hi) (Ne.symm (h.clr hn b off rfl))⟩
  · rcases hgo with k | k
    · rw [← k]
      exact h.clr hn b off e
    · obtain ⟨b', off', e', hl, _⟩ := h.seg.2 hn
      rw [e] at e'
      simp only [Option.some.injEq, Addr.mk.injEq, and_true] at e'
      intro h9
      have := Option.some.inj h9
      omega
theorem SegV.of_new {o : Option Nat} {W W' : World} {ao : Option Addr} {X n : Nat} (h : New W W' ao X n) (ho : ∀ k, o = some k → k < W.heap.size) : SegV o W' ao X n := by
  refine ⟨h.seg, fun hn b off e k => ?_⟩
  obtain ⟨b', off', e', hl, _⟩ := h.fresh hn
  rw [e] at e'
  simp only [Option.some.injEq, Addr.mk.injEq, and_true] at e'
  have := ho b k
  omega
/-- a list whose numbers lie apart from it -/
structure LI (base : Nat) (W : World) (v : Value) (s : List (Int × Option Addr)) : Prop where
  row : W.ownsRow base 25 2 v s.length (cellsI s)
  num : ∀ x ∈ s, SegV v.ownBlock W x.2 (am x.1) (ln (am x.1))
theorem LI.lt {base : Nat} {W : World} {v : Value} {s : List (Int × Option Addr)} (h : LI base W v s) : ∀ k, v.ownBlock = some k → k < W.heap.size := fun k hk => (h.row.lt k hk).2
theorem LI.later {base : Nat} {W W' : World} {v : Value} {s : List (Int × Option Addr)} (h : LI base W v s) (hb : Below W.heap.size W W') : LI base W' v s :=
  ⟨ownsRow_keep h.row fun k cur t fz hh => (hb.block k (Array.getElem?_eq_some_iff.1 hh).1).trans hh, fun x hx => (h.num x hx).later hb⟩
theorem LI.il {base : Nat} {W : World} {v : Value} {s : List (Int × Option Addr)} {l : List Int} (h : LI base W v s) (e : s.map Prod.fst = l) : IL base W v l := ⟨s, e, h.row, fun x hx => (h.num x hx).seg⟩
theorem LI.grown {base : Nat} {W w1 : World} {v : Value} {s : List (Int × Option Addr)} {x : Int × Option Addr} {g cap : Nat} (h : LI base W v s) (hx : SegV v.ownBlock W x.2 (am x.1) (ln (am x.1)))
    (hown : w1.ownsRow base 25 2 (.slice (some ⟨g, 0, none⟩) (s.length + 1) cap) (s.length + 1) (cellsI s ++ csI x)) (hg : W.grownBy w1 v.ownBlock) (hgo : v.ownBlock = some g ∨ W.heap.size ≤ g) :
    LI base w1 (.slice (some ⟨g, 0, none⟩) (s.length + 1) cap) (s ++ [x]) := by
  refine ⟨by rw [cellsI_snoc, List.length_append]; exact hown, fun y hy => ?_⟩
  rcases List.mem_append.1 hy with h1 | h1
  · exact (h.num y h1).grown hg hgo
  · obtain rfl := List.mem_singleton.1 h1
    exact hx.grown hg hgo
/-- a store into another variable -/
theorem LI.set3 {base : Nat} {W : World} {v : Value} {s : List (Int × Option Addr)} {c : Nat} {u0 u1 u2 z0 z1 z2 : Value} (h : LI base W v s) (hc : v.ownBlock ≠ some c) (ht : Thr W c z0 z1 z2) (k0 : ∀ i, z0 ≠ .int .u32 i) (k1 : ∀ i, z1 ≠ .int .u32 i) (k2 : ∀ i, z2 ≠ .int .u32 i) : LI base (set3 W c u0 u1 u2) v s := by
  refine ⟨⟨h.row.1, ?_⟩, fun x hx => ⟨ht.seg k0 k1 k2 (h.num x hx).seg, (h.num x hx).clr⟩⟩
  rcases h.row.2 with h0 | ⟨g, cap, cur, hv, hg, hh, rest⟩
  · exact Or.inl h0
  · refine Or.inr ⟨g, cap, cur, hv, hg, ?_, rest⟩
    have hne : g ≠ c := fun e => hc (by rw [hv]; simp [Value.ownBlock, e])
    rw [Below.heap_setCell _ _ _ _ hne, Below.heap_setCell _ _ _ _ hne, Below.heap_setCell _ _ _ _ hne]
    exact hh

theorem am_rnJ (s : Bool) (X Y : Nat) : am (rn s X Y) ≤ X := by
  unfold rn
  split
  · simp [am]
  · unfold sg am
    split <;> omega
theorem lnF {s : Bool} {X Y u : Nat} {D Zf G : Int} (hf : Fl (rn s X Y) D Zf G) (hD : 0 < D) (hX : X < BB ^ u) (hu : u ≤ 1048577) : ln (am Zf) ≤ 1048579 := by
  have h1 := Fl.am hf hD
  have h2 := am_rnJ s X Y
  have h3 : ln (am Zf) ≤ ln (X + 1) := ln_mono (by omega)
  have h4 : ln (X + 1) ≤ u + 1 := ln_le_of_lt (by
    have h5 : BB ^ u * 1 < BB ^ u * BB := Nat.mul_lt_mul_of_pos_left (by rw [BB_eq]; omega) (BBp u)
    rw [Nat.pow_succ]
    omega)
  omega
theorem lnD {V v : Nat} (hV : V < BB ^ v) (hv : v ≤ 1048577) : ln (rd V) ≤ 1048577 := by
  by_cases h0 : V = 0
  · subst h0
    have : ln (rd 0) ≤ 1 := ln_le_of_lt (by simp [rd, BB_eq])
    omega
  · rw [rd_of h0]
    have := ln_le_of_lt hV
    omega

set_option maxHeartbeats 8000000 in
set_option maxRecDepth 100000 in
theorem vExpand_is (N : Nat) (s : Bool) (ao : Option Addr) (n cap X : Nat) (ao2 : Option Addr) (m cap2 Y : Nat) (w : World) (hc : n ≤ cap) (hm : n ≤ 1048577) (hS : Seg w ao X n) (hc2 : m ≤ cap2) (hm2 : m ≤ 1048577) (hS2 : Seg w ao2 Y m) (hN : (cf (rn s X Y) (rd Y)).length ≤ N) (hN2 : N ≤ 4294967296) :
    Calls Try.prog 7 #[.agg #[.bool s, .slice ao n cap, .slice ao2 m cap2]] w fun e w' => ∃ v, e = .returned v ∧ IL w.heap.size w' v (cf (rn s X Y) (rd Y)) ∧ Below w.heap.size w w' := by
  obtain ⟨i0, hi, hz0, hz1, hz2⟩ := info_parts info_IntJ
  go_enter Try.func7, Try.ntmps7
  go_wp2_with fail
  go_loopw [3] (fun vo wr => ∃ s' sr p u cu U q v cv V, Thr wr w.heap.size (.bool sr) (.slice p u cu) (.slice q v cv) ∧ vo.ownBlock ≠ some w.heap.size ∧ LI w.heap.size wr vo s' ∧ SegV vo.ownBlock wr p U u ∧ SegV vo.ownBlock wr q V v ∧ u ≤ cu ∧ u ≤ 1048577 ∧ v ≤ cv ∧ v ≤ 1048577 ∧ s'.map Prod.fst ++ cf (rn sr U V) (rd V) = cf (rn s X Y) (rd Y) ∧ Below w.heap.size w wr) (fun _ wr => rd (numAt w.heap.size 2 wr))
  case atStart =>
    have bA := below_alloc (w := w) (.cells #[.bool s, .slice ao n cap, .slice ao2 m cap2] 27)
    have bB := below_alloc (w := w.alloc (.cells #[.bool s, .slice ao n cap, .slice ao2 m cap2] 27)) (.cells #[] 25)
    have hr := World.ownsRow_made (base := w.heap.size) (e := 25) (size := 2) (w.alloc (.cells #[.bool s, .slice ao n cap, .slice ao2 m cap2] 27)) #[] 0 (by simp) (by simp [maxLen]) (by simp)
    rw [World.size_alloc] at hr
    have off : ∀ {a9 : Option Addr} {X9 n9 : Nat}, Seg w a9 X9 n9 → SegV (Value.slice (some ⟨w.heap.size + 1, 0, none⟩) 0 0).ownBlock ((w.alloc (.cells #[.bool s, .slice ao n cap, .slice ao2 m cap2] 27)).alloc (.cells #[] 25)) a9 X9 n9 := fun h => ⟨(h.later bA).later bB, fun hn b9 off9 e => by
      obtain ⟨b8, off8, e8, hl, _⟩ := h.2 hn
      rw [e] at e8
      simp only [Option.some.injEq, Addr.mk.injEq, and_true] at e8
      simp only [Value.ownBlock, ne_eq, Option.some.injEq]
      omega⟩
    exact ⟨[], s, ao, n, cap, X, ao2, m, cap2, Y, ⟨⟨by go_simp, by go_simp, by go_simp⟩, below_row bB (row_new w _ 27)⟩, by simp [Value.ownBlock], ⟨hr, by simp⟩, off hS, off hS2, hc, hm, hc2, hm2, rfl, bA.trans (bB.mono bA.size)⟩
  case round =>
    obtain ⟨s', sr, p, u, cu, U, q, v, cv, V, hT, hne, hL, sp, sq, h1, h2, h3, h4, hcf, hB⟩ := hrel
    clear hS hS2 hc hm hc2 hm2
    obtain ⟨Zf, G, hf⟩ := fl_ex (rn sr U V) (D := ((rd V : Nat) : Int)) (by have := rd_pos V; omega)
    obtain ⟨Zs, Vs, hs⟩ := low_ex G (rd V : Nat) (rd_ne V)
    have hDn : rd V ≠ 0 := by have := rd_pos V; omega
    have lD : ln (rd V) ≤ 1048577 := lnD (sq.seg.1) h4
    have lF : ln (am Zf) ≤ 1048579 := lnF hf (by have := rd_pos V; omega) sp.seg.1 (by omega)
    have hsl := hs.le
    have lZs : ln (am Zs) ≤ 1048577 := Nat.le_trans (ln_mono (by have := hf.ge; have := hf.lt; simp only [am] at hsl ⊢; omega)) lD
    have lVs : ln Vs ≤ 1048577 := Nat.le_trans (ln_mono (by have := hsl.2; simp only [am] at this; omega)) lD
    have hlen : s'.length < 4294967296 := by
      have h9 : (cf (rn sr U V) (rd V)).length ≠ 0 := by
        by_cases h0 : rn sr U V % ((rd V : Nat) : Int) = 0
        · rw [cf_end hDn h0]; simp
        · rw [cf_on hDn h0]; simp
      have h8 := congrArg List.length hcf
      rw [List.length_append, List.length_map] at h8
      omega
    have GF := hide' (vqFloor_is sr p u cu U q v cv V Zf G wr h1 (by omega) sp.seg h3 (by omega) sq.seg hf)
    obtain ⟨x0, x1, x2⟩ := hT.1
    have hme := hide' (numAt_eq x2 sq.seg)
    have HCF := hide' hcf
    have HF := hide' hf
    have HS := hide' hs
    have HN := hide' hN
    clear hcf hf hs hN
    go_wp2_with (first | (go_at_call 19; refine GF.out.mono ?_; rintro e w1 ⟨pf, rfl, n1⟩; have b2 := ((Below.refl w1.heap.size w1).alloc (Nat.le_refl _) (.cells #[.bool (ng Zf), .slice pf (ln (am Zf)) (ln (am Zf))] 25)).alloc (by simp) (.cells #[.bool (ng Zf), .slice pf (ln (am Zf)) (ln (am Zf))] 25); have hL2 := (hL.later n1.below).later b2) | (at_builtin; refine wpList_append_lies _ (by rfl) _ _ _ (by rfl) w.heap.size 25 i0 _ 2 32 Try.underlying28 hi hz0 hz1 hz2 rfl (by decide) _ _ _ (by rfl) hL2.row ⟨w1.heap.size + 1, 0, none⟩ 1 1 (csI (Zf, pf)) (by rfl) (by rfl) (by have := World.news_of_block (World.alloc_heap_new (w1.alloc (.cells #[.bool (ng Zf), .slice pf (ln (am Zf)) (ln (am Zf))] 25)) (.cells #[.bool (ng Zf), .slice pf (ln (am Zf)) (ln (am Zf))] 25)); rwa [World.size_alloc] at this) (csI_one _) (by decide) (by simp [maxLen]; omega) (by omega) (by have := hB.size; have := n1.below.size; simp; omega) _ rfl ?_; intro g capg w2 hown hgrow hgo hglt))
    clear GF x0 x1 x2
    simp only [World.size_alloc] at hgo
    obtain ⟨c4, hc4⟩ : ∃ c4, w1.heap.size = c4 := ⟨_, rfl⟩
    have m4 : u3.ownBlock ≠ some c4 := fun e => by have := hL.lt c4 e; have := n1.below.size; omega
    have b1 := n1.below
    have bT := b1.trans (b2.mono b1.size)
    have q4 : ((w1.alloc (.cells #[.bool (ng Zf), .slice pf (ln (am Zf)) (ln (am Zf))] 25)).alloc (.cells #[.bool (ng Zf), .slice pf (ln (am Zf)) (ln (am Zf))] 25)).heap.size = c4 + 2 := by simp; omega
    have hg2 := hgo.imp id (fun h => (show ((w1.alloc (.cells #[.bool (ng Zf), .slice pf (ln (am Zf)) (ln (am Zf))] 25)).alloc (.cells #[.bool (ng Zf), .slice pf (ln (am Zf)) (ln (am Zf))] 25)).heap.size ≤ g by rw [q4]; omega))
    have sF := (SegV.of_new n1 (fun k hk => Nat.lt_of_lt_of_le (hL.lt k hk) (Nat.le_refl _))).later b2
    have sp2 := (sp.later bT).grown hgrow hg2
    have sq2 := (sq.later bT).grown hgrow hg2
    have sF2 := sF.grown hgrow hg2
    have hL3 := hL2.grown (x := (Zf, pf)) sF hown hgrow hg2
    have hT2 := hT.later bT
    have hneg : (Value.slice (some ⟨g, 0, none⟩) (s'.length + 1) capg).ownBlock ≠ some w.heap.size := by simp only [Value.ownBlock, ne_eq, Option.some.injEq]; intro e; rcases hgo with h | h; exact hne (by rw [h, e]); (have := hB.size; have := b1.size; omega)
    have y0 : w2.cell? ⟨c4, 0, none⟩ = some (.bool (ng Zf)) := hgrow.cell (by subst hc4; go_simp) (Ne.symm m4)
    have y1 : w2.cell? ⟨c4, 1, none⟩ = some (.slice pf (ln (am Zf)) (ln (am Zf))) := hgrow.cell (by subst hc4; go_simp) (Ne.symm m4)
    have x0 := hgrow.cell hT2.1.1 (Ne.symm hne)
    have x1 := hgrow.cell hT2.1.2.1 (Ne.symm hne)
    have x2 := hgrow.cell hT2.1.2.2 (Ne.symm hne)
    have xR : Row w2 w.heap.size := by obtain ⟨cur, t, h⟩ := hT2.2; exact ⟨cur, t, (hgrow.block _ hT2.2.lt (Ne.symm hne)).trans h⟩
    have hB2 : Below w.heap.size w w2 := (hB.trans (bT.mono hB.size)).grown hgrow (by have := hB.size; have := bT.size; omega) (fun k hk => (hL.row.lt k hk).1)
    have z1 : w.heap.size < w2.heap.size := xR.lt
    have z2 : c4 < w2.heap.size := World.block_lt_of_cell? w2 ⟨c4, 0, none⟩ y0
    clear hT hL sp sq hB n1 b2 hL2 hown hgrow hgo hg2 hglt m4 b1 bT q4 sF hT2 hne
    rw [hc4]
    clear hc4 w1
    obtain ⟨V1, hV1⟩ : ∃ V1 : Nat, V1 = 1 := ⟨_, rfl⟩
    have GI' : ∀ w', Seg w' pf (am Zf) (ln (am Zf)) → Calls Try.prog 21 #[.agg #[.bool (ng Zf), .slice pf (ln (am Zf)) (ln (am Zf))]] w' fun e w'' => ∃ pi qi, e = .returned (.agg #[.bool (ng Zf), .slice pi (ln (am Zf)) (ln (am Zf)), .slice qi (ln V1) (ln V1)]) ∧ Below w'.heap.size w' w'' ∧ Seg w'' pi (am Zf) (ln (am Zf)) ∧ Seg w'' qi V1 (ln V1) := fun w' k => by
      subst hV1
      refine (vqInt_is Zf pf w' (by omega) k).mono ?_
      rintro e w'' ⟨pi, qi, rfl, n1, n2⟩
      exact ⟨pi, qi, rfl, n1.below, n1.seg, n2.seg⟩
    have GS' : ∀ w' pi qi, Seg w' p U u → Seg w' q V v → Seg w' pi (am Zf) (ln (am Zf)) → Seg w' qi V1 (ln V1) → Calls Try.prog 20 #[.agg #[.bool sr, .slice p u cu, .slice q v cv], .agg #[.bool (ng Zf), .slice pi (ln (am Zf)) (ln (am Zf)), .slice qi (ln V1) (ln V1)]] w' fun e w'' => ∃ pz qz, e = .returned (.agg #[.bool (ng Zs), .slice pz (ln (am Zs)) (ln (am Zs)), .slice qz (ln Vs) (ln Vs)]) ∧ Below w'.heap.size w' w'' ∧ Seg w'' pz (am Zs) (ln (am Zs)) ∧ Seg w'' qz Vs (ln Vs) := fun w' pi qi k1 k2 k3 k4 => by
      subst hV1
      have hLo : Low (rn sr U V * (rd 1 : Nat) + -(rn (ng Zf) (am Zf) 1) * (rd V : Nat)) ((rd V : Nat) * (rd 1 : Nat)) Zs Vs := by
        have e1 : rn (ng Zf) (am Zf) 1 = Zf := rn_nf (by omega)
        have e2 : ((rd 1 : Nat) : Int) = 1 := rfl
        rw [e1, e2, Int.mul_one, Int.mul_one]
        have h9 := HF.out.eq
        have h8 : rn sr U V + -Zf * ((rd V : Nat) : Int) = G := by rw [← h9]; grind
        rw [h8]
        exact HS.out
      refine (vqSub_is sr p u cu U q v cv V (ng Zf) pi (ln (am Zf)) (ln (am Zf)) (am Zf) qi (ln 1) (ln 1) 1 Zs Vs w' h1 (by omega) k1 h3 (by omega) k2 (Nat.le_refl _) (by omega) k3 (Nat.le_refl _) (by rw [ln_one]; omega) k4 hLo).mono ?_
      rintro e w'' ⟨pz, qz, rfl, n1, n2⟩
      exact ⟨pz, qz, rfl, n1.below, n1.seg, n2.seg⟩
    have GI := hide' GI'
    have GS := hide' GS'
    clear GI' GS' hV1
    have kp := sp2.seg
    have kq := sq2.seg
    have kf := sF2.seg
    go_cut [5] from 7 to 25 (fun s5 wx => ∃ wh9 c pz qz, wh9 = wx ∧ s5 = .pointer (some ⟨c, 0, none⟩) ∧ Thr wx c (.bool (ng Zs)) (.slice pz (ln (am Zs)) (ln (am Zs))) (.slice qz (ln Vs) (ln Vs)) ∧ Below w2.heap.size w2 wx ∧ Seg wx pz (am Zs) (ln (am Zs)) ∧ Seg wx qz Vs (ln Vs))
    case first =>
      have bT : Below w2.heap.size w2 w2 := Below.refl _ _
      have bD : Below w2.heap.size w2 w2.drew := (Below.refl _ _).drew
      have kx0 := below_cell bD x0
      have kx1 := below_cell bD x1
      have kx2 := below_cell bD x2
      have ky0 := below_cell bD y0
      have ky1 := below_cell bD y1
      replace bT := bT.trans (bD.mono bT.size)
      replace kp := kp.later bD
      replace kq := kq.later bD
      replace kf := kf.later bD
      refine wp_region_held_drew (S := fun w' => w'.cell? ⟨w.heap.size, 0, none⟩ = some (.bool sr) ∧ w'.cell? ⟨w.heap.size, 1, none⟩ = some (.slice p u cu) ∧ w'.cell? ⟨w.heap.size, 2, none⟩ = some (.slice q v cv) ∧ w'.cell? ⟨c4, 0, none⟩ = some (.bool (ng Zf)) ∧ w'.cell? ⟨c4, 1, none⟩ = some (.slice pf (ln (am Zf)) (ln (am Zf)))) (by kernel_rfl) ⟨kx0, kx1, kx2, ky0, ky1⟩ (fun hHeld => ?_)
      clear kx0 kx1 kx2 ky0 ky1
      generalize w2.drew = wF0 at bD kp kq kf bT hHeld ⊢
      clear bD x0 x1 x2 y0 y1
      refine take' 0 (v := ?_) rfl (by kernel_rfl) (by kernel_rfl) (by kernel_rfl) (fun _ _ _ h => h) (Or.inl ⟨by rfl, ?_⟩) (by assumption) ?_
      rotate_left
      · intro w9 hSw
        go_simp
        first | done | with_reducible rfl
      simp only [Act.put, List.setIfInBounds_toArray, List.set_cons_zero, List.set_cons_succ]
      refine take' 1 (v := ?_) rfl (by kernel_rfl) (by kernel_rfl) (by kernel_rfl) (fun _ _ _ h => h) (Or.inl ⟨by rfl, ?_⟩) (by assumption) ?_
      rotate_left
      · intro w9 hSw
        go_simp
        first | done | with_reducible rfl
      simp only [Act.put, List.setIfInBounds_toArray, List.set_cons_zero, List.set_cons_succ]
      refine wpAnyH_ready (rs := [2, 4]) (by kernel_rfl) (by simp) ?_
      refine consT rfl (fun KK hKK => ?_) ?_
      · skip
        go_simp
        refine (GI.out _ kf).mono ?_
        rintro e wF1 ⟨pi, qi, rfl, bV, k1, k2⟩
        have bC := bV
        replace bT := bT.trans (bC.mono bT.size)
        replace kp := kp.later bC
        replace kq := kq.later bC
        replace kf := kf.later bC
        replace hHeld := (⟨below_cell bC hHeld.1, below_cell bC hHeld.2.1, below_cell bC hHeld.2.2.1, below_cell bC hHeld.2.2.2.1, below_cell bC hHeld.2.2.2.2⟩ : _ ∧ _ ∧ _ ∧ _ ∧ _)
        clear bC
        go_wp2_with fail
        clear bV
        refine hKK.out _ _ hHeld ?_
        clear hHeld
        intro hHeld
        clear hKK KK
        try simp only [Act.put, List.setIfInBounds_toArray, List.set_cons_zero, List.set_cons_succ]
        refine wpAnyH_ready (rs := [3, 4]) (by kernel_rfl) (by simp) ?_
        refine consT rfl (fun KK hKK => ?_) ?_
        · skip
          go_simp
          refine (GS.out _ pi qi kp kq k1 k2).mono ?_
          rintro e wF2 ⟨pz, qz, rfl, bV, k3, k4⟩
          have bC := bV
          replace bT := bT.trans (bC.mono bT.size)
          replace kp := kp.later bC
          replace kq := kq.later bC
          replace kf := kf.later bC
          replace k1 := k1.later bC
          replace k2 := k2.later bC
          replace hHeld := (⟨below_cell bC hHeld.1, below_cell bC hHeld.2.1, below_cell bC hHeld.2.2.1, below_cell bC hHeld.2.2.2.1, below_cell bC hHeld.2.2.2.2⟩ : _ ∧ _ ∧ _ ∧ _ ∧ _)
          clear bC
          go_wp2_with fail
          clear bV
          refine hKK.out _ _ hHeld ?_
          clear hHeld
          intro hHeld
          clear hKK KK
          try simp only [Act.put, List.setIfInBounds_toArray, List.set_cons_zero, List.set_cons_succ]
          refine wpAnyH_ready (rs := [4]) (by kernel_rfl) (by simp) ?_
          refine cons' rfl (fun KK hKK => ?_)
          go_simp
          have vN : Thr (wF2.alloc (.cells #[.bool false, .slice none 0 0, .slice none 0 0] 27)) wF2.heap.size (.bool false) (.slice none 0 0) (.slice none 0 0) := ⟨⟨by go_simp, by go_simp, by go_simp⟩, row_new wF2 _ 27⟩
          have bA := below_alloc (w := wF2) (.cells #[.bool false, .slice none 0 0, .slice none 0 0] 27)
          have hc9 : w2.heap.size ≤ wF2.heap.size := bT.size
          generalize wF2.alloc (.cells #[.bool false, .slice none 0 0, .slice none 0 0] 27) = wF3 at vN bA ⊢
          replace bT := bT.trans (bA.mono bT.size)
          replace kp := kp.later bA
          replace kq := kq.later bA
          replace kf := kf.later bA
          replace k1 := k1.later bA
          replace k2 := k2.later bA
          replace k3 := k3.later bA
          replace k4 := k4.later bA
          replace hHeld := (⟨below_cell bA hHeld.1, below_cell bA hHeld.2.1, below_cell bA hHeld.2.2.1, below_cell bA hHeld.2.2.2.1, below_cell bA hHeld.2.2.2.2⟩ : _ ∧ _ ∧ _ ∧ _ ∧ _)
          clear bA
          refine hKK.out _ _ hHeld ?_
          clear hHeld
          intro hHeld
          clear hKK KK
          try simp only [Act.put, List.setIfInBounds_toArray, List.set_cons_zero, List.set_cons_succ]
          obtain ⟨cc, hcc⟩ : ∃ cc, wF2.heap.size = cc := ⟨_, rfl⟩
          rw [hcc] at vN hc9
          try rw [hcc]
          clear hcc
          refine wpAnyH_ready (rs := [5]) (by kernel_rfl) (by simp) ?_
          refine cons' rfl (fun KK hKK => ?_)
          have fz := fun o => vN.2.frozen o
          replace k3 := vN.seg (u0 := .bool (ng Zs)) (u1 := .slice pz (ln (am Zs)) (ln (am Zs))) (u2 := .slice qz (ln Vs) (ln Vs)) (by simp) (by simp) (by simp) k3
          replace k4 := vN.seg (u0 := .bool (ng Zs)) (u1 := .slice pz (ln (am Zs)) (ln (am Zs))) (u2 := .slice qz (ln Vs) (ln Vs)) (by simp) (by simp) (by simp) k4
          replace bT := below_set3 (u0 := .bool (ng Zs)) (u1 := .slice pz (ln (am Zs)) (ln (am Zs))) (u2 := .slice qz (ln Vs) (ln Vs)) bT hc9
          have hH2 := (⟨(set3_far (w := wF3) (c := cc) (b := w.heap.size) (o := 0) (u0 := .bool (ng Zs)) (u1 := .slice pz (ln (am Zs)) (ln (am Zs))) (u2 := .slice qz (ln Vs) (ln Vs)) (by omega)).trans hHeld.1, (set3_far (w := wF3) (c := cc) (b := w.heap.size) (o := 1) (u0 := .bool (ng Zs)) (u1 := .slice pz (ln (am Zs)) (ln (am Zs))) (u2 := .slice qz (ln Vs) (ln Vs)) (by omega)).trans hHeld.2.1, (set3_far (w := wF3) (c := cc) (b := w.heap.size) (o := 2) (u0 := .bool (ng Zs)) (u1 := .slice pz (ln (am Zs)) (ln (am Zs))) (u2 := .slice qz (ln Vs) (ln Vs)) (by omega)).trans hHeld.2.2.1, (set3_far (w := wF3) (c := cc) (b := c4) (o := 0) (u0 := .bool (ng Zs)) (u1 := .slice pz (ln (am Zs)) (ln (am Zs))) (u2 := .slice qz (ln Vs) (ln Vs)) (by omega)).trans hHeld.2.2.2.1, (set3_far (w := wF3) (c := cc) (b := c4) (o := 1) (u0 := .bool (ng Zs)) (u1 := .slice pz (ln (am Zs)) (ln (am Zs))) (u2 := .slice qz (ln Vs) (ln Vs)) (by omega)).trans hHeld.2.2.2.2⟩ : _ ∧ _ ∧ _ ∧ _ ∧ _)
          have vN2 := vN.put (u0 := .bool (ng Zs)) (u1 := .slice pz (ln (am Zs)) (ln (am Zs))) (u2 := .slice qz (ln Vs) (ln Vs))
          have z0_ := vN.1.1
          have z1_ := vN.1.2.1
          have z2_ := vN.1.2.2
          go_simp
          clear z0_ z1_ z2_ vN fz
          refine hKK.out _ _ hH2 ?_
          clear hHeld
          intro hHeld
          clear hKK KK
          try simp only [Act.put, List.setIfInBounds_toArray, List.set_cons_zero, List.set_cons_succ]
          clear hH2
          refine wpAnyH_done (by kernel_rfl) ?_ _
          go_wp2_with fail
          go_meet
          exact ⟨_, cc, pz, qz, rfl, rfl, vN2, bT, k3, k4⟩
        refine consT rfl (fun KK hKK => ?_) ?_
        · skip
          go_simp
          have vN : Thr (wF1.alloc (.cells #[.bool false, .slice none 0 0, .slice none 0 0] 27)) wF1.heap.size (.bool false) (.slice none 0 0) (.slice none 0 0) := ⟨⟨by go_simp, by go_simp, by go_simp⟩, row_new wF1 _ 27⟩
          have bA := below_alloc (w := wF1) (.cells #[.bool false, .slice none 0 0, .slice none 0 0] 27)
          have hc9 : w2.heap.size ≤ wF1.heap.size := bT.size
          generalize wF1.alloc (.cells #[.bool false, .slice none 0 0, .slice none 0 0] 27) = wF4 at vN bA ⊢
          replace bT := bT.trans (bA.mono bT.size)
          replace kp := kp.later bA
          replace kq := kq.later bA
          replace kf := kf.later bA
          replace k1 := k1.later bA
          replace k2 := k2.later bA
          replace hHeld := (⟨below_cell bA hHeld.1, below_cell bA hHeld.2.1, below_cell bA hHeld.2.2.1, below_cell bA hHeld.2.2.2.1, below_cell bA hHeld.2.2.2.2⟩ : _ ∧ _ ∧ _ ∧ _ ∧ _)
          clear bA
          refine hKK.out _ _ hHeld ?_
          clear hHeld
          intro hHeld
          clear hKK KK
          try simp only [Act.put, List.setIfInBounds_toArray, List.set_cons_zero, List.set_cons_succ]
          obtain ⟨cc, hcc⟩ : ∃ cc, wF1.heap.size = cc := ⟨_, rfl⟩
          rw [hcc] at vN hc9
          try rw [hcc]
          clear hcc
          refine wpAnyH_ready (rs := [3]) (by kernel_rfl) (by simp) ?_
          refine cons' rfl (fun KK hKK => ?_)
          go_simp
          refine (GS.out _ pi qi kp kq k1 k2).mono ?_
          rintro e wF5 ⟨pz, qz, rfl, bV, k3, k4⟩
          have bC := bV
          replace bT := bT.trans (bC.mono bT.size)
          replace kp := kp.later bC
          replace kq := kq.later bC
          replace kf := kf.later bC
          replace k1 := k1.later bC
          replace k2 := k2.later bC
          replace vN := vN.later bC
          replace hHeld := (⟨below_cell bC hHeld.1, below_cell bC hHeld.2.1, below_cell bC hHeld.2.2.1, below_cell bC hHeld.2.2.2.1, below_cell bC hHeld.2.2.2.2⟩ : _ ∧ _ ∧ _ ∧ _ ∧ _)
          clear bC
          go_wp2_with fail
          clear bV
          refine hKK.out _ _ hHeld ?_
          clear hHeld
          intro hHeld
          clear hKK KK
          try simp only [Act.put, List.setIfInBounds_toArray, List.set_cons_zero, List.set_cons_succ]
          refine wpAnyH_ready (rs := [5]) (by kernel_rfl) (by simp) ?_
          refine cons' rfl (fun KK hKK => ?_)
          have fz := fun o => vN.2.frozen o
          replace k3 := vN.seg (u0 := .bool (ng Zs)) (u1 := .slice pz (ln (am Zs)) (ln (am Zs))) (u2 := .slice qz (ln Vs) (ln Vs)) (by simp) (by simp) (by simp) k3
          replace k4 := vN.seg (u0 := .bool (ng Zs)) (u1 := .slice pz (ln (am Zs)) (ln (am Zs))) (u2 := .slice qz (ln Vs) (ln Vs)) (by simp) (by simp) (by simp) k4
          replace bT := below_set3 (u0 := .bool (ng Zs)) (u1 := .slice pz (ln (am Zs)) (ln (am Zs))) (u2 := .slice qz (ln Vs) (ln Vs)) bT hc9
          have hH2 := (⟨(set3_far (w := wF5) (c := cc) (b := w.heap.size) (o := 0) (u0 := .bool (ng Zs)) (u1 := .slice pz (ln (am Zs)) (ln (am Zs))) (u2 := .slice qz (ln Vs) (ln Vs)) (by omega)).trans hHeld.1, (set3_far (w := wF5) (c := cc) (b := w.heap.size) (o := 1) (u0 := .bool (ng Zs)) (u1 := .slice pz (ln (am Zs)) (ln (am Zs))) (u2 := .slice qz (ln Vs) (ln Vs)) (by omega)).trans hHeld.2.1, (set3_far (w := wF5) (c := cc) (b := w.heap.size) (o := 2) (u0 := .bool (ng Zs)) (u1 := .slice pz (ln (am Zs)) (ln (am Zs))) (u2 := .slice qz (ln Vs) (ln Vs)) (by omega)).trans hHeld.2.2.1, (set3_far (w := wF5) (c := cc) (b := c4) (o := 0) (u0 := .bool (ng Zs)) (u1 := .slice pz (ln (am Zs)) (ln (am Zs))) (u2 := .slice qz (ln Vs) (ln Vs)) (by omega)).trans hHeld.2.2.2.1, (set3_far (w := wF5) (c := cc) (b := c4) (o := 1) (u0 := .bool (ng Zs)) (u1 := .slice pz (ln (am Zs)) (ln (am Zs))) (u2 := .slice qz (ln Vs) (ln Vs)) (by omega)).trans hHeld.2.2.2.2⟩ : _ ∧ _ ∧ _ ∧ _ ∧ _)
          have vN2 := vN.put (u0 := .bool (ng Zs)) (u1 := .slice pz (ln (am Zs)) (ln (am Zs))) (u2 := .slice qz (ln Vs) (ln Vs))
          have z0_ := vN.1.1
          have z1_ := vN.1.2.1
          have z2_ := vN.1.2.2
          go_simp
          clear z0_ z1_ z2_ vN fz
          refine hKK.out _ _ hH2 ?_
          clear hHeld
          intro hHeld
          clear hKK KK
          try simp only [Act.put, List.setIfInBounds_toArray, List.set_cons_zero, List.set_cons_succ]
          clear hH2
          refine wpAnyH_done (by kernel_rfl) ?_ _
          go_wp2_with fail
          go_meet
          exact ⟨_, cc, pz, qz, rfl, rfl, vN2, bT, k3, k4⟩
        exact AllReadyH.nil
      refine consT rfl (fun KK hKK => ?_) ?_
      · skip
        go_simp
        have vN : Thr (wF0.alloc (.cells #[.bool false, .slice none 0 0, .slice none 0 0] 27)) wF0.heap.size (.bool false) (.slice none 0 0) (.slice none 0 0) := ⟨⟨by go_simp, by go_simp, by go_simp⟩, row_new wF0 _ 27⟩
        have bA := below_alloc (w := wF0) (.cells #[.bool false, .slice none 0 0, .slice none 0 0] 27)
        have hc9 : w2.heap.size ≤ wF0.heap.size := bT.size
        generalize wF0.alloc (.cells #[.bool false, .slice none 0 0, .slice none 0 0] 27) = wF6 at vN bA ⊢
        replace bT := bT.trans (bA.mono bT.size)
        replace kp := kp.later bA
        replace kq := kq.later bA
        replace kf := kf.later bA
        replace hHeld := (⟨below_cell bA hHeld.1, below_cell bA hHeld.2.1, below_cell bA hHeld.2.2.1, below_cell bA hHeld.2.2.2.1, below_cell bA hHeld.2.2.2.2⟩ : _ ∧ _ ∧ _ ∧ _ ∧ _)
        clear bA
        refine hKK.out _ _ hHeld ?_
        clear hHeld
        intro hHeld
        clear hKK KK
        try simp only [Act.put, List.setIfInBounds_toArray, List.set_cons_zero, List.set_cons_succ]
        obtain ⟨cc, hcc⟩ : ∃ cc, wF0.heap.size = cc := ⟨_, rfl⟩
        rw [hcc] at vN hc9
        try rw [hcc]
        clear hcc
        refine wpAnyH_ready (rs := [2]) (by kernel_rfl) (by simp) ?_
        refine cons' rfl (fun KK hKK => ?_)
        go_simp
        refine (GI.out _ kf).mono ?_
        rintro e wF7 ⟨pi, qi, rfl, bV, k1, k2⟩
        have bC := bV
        replace bT := bT.trans (bC.mono bT.size)
        replace kp := kp.later bC
        replace kq := kq.later bC
        replace kf := kf.later bC
        replace vN := vN.later bC
        replace hHeld := (⟨below_cell bC hHeld.1, below_cell bC hHeld.2.1, below_cell bC hHeld.2.2.1, below_cell bC hHeld.2.2.2.1, below_cell bC hHeld.2.2.2.2⟩ : _ ∧ _ ∧ _ ∧ _ ∧ _)
        clear bC
        go_wp2_with fail
        clear bV
        refine hKK.out _ _ hHeld ?_
        clear hHeld
        intro hHeld
        clear hKK KK
        try simp only [Act.put, List.setIfInBounds_toArray, List.set_cons_zero, List.set_cons_succ]
        refine wpAnyH_ready (rs := [3]) (by kernel_rfl) (by simp) ?_
        refine cons' rfl (fun KK hKK => ?_)
        go_simp
        refine (GS.out _ pi qi kp kq k1 k2).mono ?_
        rintro e wF8 ⟨pz, qz, rfl, bV, k3, k4⟩
        have bC := bV
        replace bT := bT.trans (bC.mono bT.size)
        replace kp := kp.later bC
        replace kq := kq.later bC
        replace kf := kf.later bC
        replace vN := vN.later bC
        replace k1 := k1.later bC
        replace k2 := k2.later bC
        replace hHeld := (⟨below_cell bC hHeld.1, below_cell bC hHeld.2.1, below_cell bC hHeld.2.2.1, below_cell bC hHeld.2.2.2.1, below_cell bC hHeld.2.2.2.2⟩ : _ ∧ _ ∧ _ ∧ _ ∧ _)
        clear bC
        go_wp2_with fail
        clear bV
        refine hKK.out _ _ hHeld ?_
        clear hHeld
        intro hHeld
        clear hKK KK
        try simp only [Act.put, List.setIfInBounds_toArray, List.set_cons_zero, List.set_cons_succ]
        refine wpAnyH_ready (rs := [5]) (by kernel_rfl) (by simp) ?_
        refine cons' rfl (fun KK hKK => ?_)
        have fz := fun o => vN.2.frozen o
        replace k3 := vN.seg (u0 := .bool (ng Zs)) (u1 := .slice pz (ln (am Zs)) (ln (am Zs))) (u2 := .slice qz (ln Vs) (ln Vs)) (by simp) (by simp) (by simp) k3
        replace k4 := vN.seg (u0 := .bool (ng Zs)) (u1 := .slice pz (ln (am Zs)) (ln (am Zs))) (u2 := .slice qz (ln Vs) (ln Vs)) (by simp) (by simp) (by simp) k4
        replace bT := below_set3 (u0 := .bool (ng Zs)) (u1 := .slice pz (ln (am Zs)) (ln (am Zs))) (u2 := .slice qz (ln Vs) (ln Vs)) bT hc9
        have hH2 := (⟨(set3_far (w := wF8) (c := cc) (b := w.heap.size) (o := 0) (u0 := .bool (ng Zs)) (u1 := .slice pz (ln (am Zs)) (ln (am Zs))) (u2 := .slice qz (ln Vs) (ln Vs)) (by omega)).trans hHeld.1, (set3_far (w := wF8) (c := cc) (b := w.heap.size) (o := 1) (u0 := .bool (ng Zs)) (u1 := .slice pz (ln (am Zs)) (ln (am Zs))) (u2 := .slice qz (ln Vs) (ln Vs)) (by omega)).trans hHeld.2.1, (set3_far (w := wF8) (c := cc) (b := w.heap.size) (o := 2) (u0 := .bool (ng Zs)) (u1 := .slice pz (ln (am Zs)) (ln (am Zs))) (u2 := .slice qz (ln Vs) (ln Vs)) (by omega)).trans hHeld.2.2.1, (set3_far (w := wF8) (c := cc) (b := c4) (o := 0) (u0 := .bool (ng Zs)) (u1 := .slice pz (ln (am Zs)) (ln (am Zs))) (u2 := .slice qz (ln Vs) (ln Vs)) (by omega)).trans hHeld.2.2.2.1, (set3_far (w := wF8) (c := cc) (b := c4) (o := 1) (u0 := .bool (ng Zs)) (u1 := .slice pz (ln (am Zs)) (ln (am Zs))) (u2 := .slice qz (ln Vs) (ln Vs)) (by omega)).trans hHeld.2.2.2.2⟩ : _ ∧ _ ∧ _ ∧ _ ∧ _)
        have vN2 := vN.put (u0 := .bool (ng Zs)) (u1 := .slice pz (ln (am Zs)) (ln (am Zs))) (u2 := .slice qz (ln Vs) (ln Vs))
        have z0_ := vN.1.1
        have z1_ := vN.1.2.1
        have z2_ := vN.1.2.2
        go_simp
        clear z0_ z1_ z2_ vN fz
        refine hKK.out _ _ hH2 ?_
        clear hHeld
        intro hHeld
        clear hKK KK
        try simp only [Act.put, List.setIfInBounds_toArray, List.set_cons_zero, List.set_cons_succ]
        clear hH2
        refine wpAnyH_done (by kernel_rfl) ?_ _
        go_wp2_with fail
        go_meet
        exact ⟨_, cc, pz, qz, rfl, rfl, vN2, bT, k3, k4⟩
      exact AllReadyH.nil
    case rest =>
      clear GI GS kp kq kf y0 y1 z2
      obtain ⟨w3, c5, pz, qz, hw3, rfl, hT5, bT, g1, g2⟩ := hcut
      subst hw3
      replace sp2 := sp2.later bT
      replace sq2 := sq2.later bT
      replace hL3 := hL3.later bT
      replace hB2 := hB2.trans (bT.mono hB2.size)
      have hT1 : Thr w3 w.heap.size (.bool sr) (.slice p u cu) (.slice q v cv) := Thr.later ⟨⟨x0, x1, x2⟩, xR⟩ bT
      clear x0 x1 x2 xR sF2 bT
      obtain ⟨l0, l1, l2⟩ := hT5.1
      have GG := hide' (vqSign_is (ng Zs) pz (ln (am Zs)) (ln (am Zs)) (am Zs) qz (ln Vs) (ln Vs) Vs (sgn Zs) w3 (Nat.le_refl _) (by omega) g1 (Nat.le_refl _) (by omega) g2 (by rw [rn_nf HS.out.pos]))
      by_cases h0 : Zs = 0
      · have hs0 := hide' (show sgn Zs = 0 by rw [h0]; rfl)
        have H0 := hide' h0
        clear h0
        go_wp2_with (go_at_call 22; refine GG.out.mono ?_; rintro e w4 ⟨rfl, b4⟩; rw [hs0.out])
        go_ret
        refine ⟨_, rfl, (hL3.later b4).il ?_, hB2.trans (b4.mono hB2.size)⟩
        have hE := (exp_step (Zi := 0) (Vi := 0) hDn HF.out HS.out).2.1 H0.out
        rw [← HCF.out, hE, List.map_append]
        rfl
      · obtain ⟨Zi, Vi, hI⟩ := low_ex (Vs : Int) Zs h0
        have hGp : 0 < G := by have h9 := HF.out.ge; have h8 : G ≠ 0 := fun e => h0 ((exp_step (Zi := 0) (Vi := 0) hDn HF.out HS.out).1.2 e); omega
        have hs1 := hide' (show sgn Zs = 1 by rw [HS.out.sgn (by have := rd_pos V; omega)]; simp [sgn]; omega)
        obtain ⟨e1, e2, e3, e4⟩ := (exp_step hDn HF.out HS.out).2.2 hI
        have GV := hide' (fun w' k1 k2 => vqInv_is (ng Zs) pz (ln (am Zs)) (ln (am Zs)) (am Zs) qz (ln Vs) (ln Vs) Vs Zi Vi w' (Nat.le_refl _) (by omega) k1 (Nat.le_refl _) (by omega) k2 (by rw [rn_nf HS.out.pos, rd_nf HS.out.pos]; exact hI))
        have HI := hide' (And.intro h0 (And.intro hI hGp))
        have HE := hide' (And.intro e1 (And.intro e2 (And.intro e3 e4)))
        clear h0 hI hGp e1 e2 e3 e4
        go_wp2_with (first | (go_at_call 22; refine GG.out.mono ?_; rintro e w4 ⟨rfl, b4⟩; rw [hs1.out]; replace l0 := below_cell b4 l0; replace l1 := below_cell b4 l1; replace l2 := below_cell b4 l2) | (go_at_call 23; refine (GV.out _ (g1.later b4) (g2.later b4)).mono ?_; rintro e w5 ⟨pv, qv, rfl, n1, n2⟩; have hT6 := (hT1.later b4).later n1.below; have f0 := hT6.1.1; have f1 := hT6.1.2.1; have f2 := hT6.1.2.2; have fz := fun o => hT6.2.frozen o))
        clear GG GV l0 l1 l2 f0 f1 f2 fz
        have b5 := n1.below
        obtain ⟨e1, e2, e3, e4⟩ := HE.out
        have hv7 := hT6.put (u0 := .bool (ng Zi)) (u1 := .slice pv (ln (am Zi)) (ln (am Zi))) (u2 := .slice qv (ln Vi) (ln Vi))
        have lv := hL3.lt
        have m1 := (SegV.of_new n1 (o := some g) (fun k hk => Nat.lt_of_lt_of_le (hL3.lt k hk) b4.size))
        have m2 := (SegV.of_new n2 (o := some g) (fun k hk => Nat.lt_of_lt_of_le (hL3.lt k hk) b4.size))
        have t1 : SegV (some g) _ _ _ _ := ⟨hT6.seg (u0 := .bool (ng Zi)) (u1 := .slice pv (ln (am Zi)) (ln (am Zi))) (u2 := .slice qv (ln Vi) (ln Vi)) (by simp) (by simp) (by simp) m1.seg, m1.clr⟩
        have t2 : SegV (some g) _ _ _ _ := ⟨hT6.seg (u0 := .bool (ng Zi)) (u1 := .slice pv (ln (am Zi)) (ln (am Zi))) (u2 := .slice qv (ln Vi) (ln Vi)) (by simp) (by simp) (by simp) m2.seg, m2.clr⟩
        have hL7 := ((hL3.later b4).later b5).set3 (u0 := .bool (ng Zi)) (u1 := .slice pv (ln (am Zi)) (ln (am Zi))) (u2 := .slice qv (ln Vi) (ln Vi)) hneg hT6 (by simp) (by simp) (by simp)
        have hB7 := below_set3 (c := w.heap.size) (u0 := .bool (ng Zi)) (u1 := .slice pv (ln (am Zi)) (ln (am Zi))) (u2 := .slice qv (ln Vi) (ln Vi)) (hB2.trans ((b4.trans (b5.mono b4.size)).mono hB2.size)) (Nat.le_refl _)
        unfold set3 at hv7 t1 t2 hL7 hB7
        have hVi : 0 < Vi := by omega
        go_roundw
        case rel =>
          refine ⟨s' ++ [(Zf, pf)], ng Zi, pv, ln (am Zi), ln (am Zi), am Zi, qv, ln Vi, ln Vi, Vi, hv7, hneg, ?_, t1, t2, Nat.le_refl _, Nat.le_trans (ln_mono e1) lD, Nat.le_refl _, Nat.le_trans (ln_mono (by omega)) lD, ?_, hB7⟩
          · exact hL7
          · rw [rn_nf hVi, rd_nf hVi, ← HCF.out, e4, List.map_append]
            simp
        case measure =>
          have h9 := hv7.1.2.2
          rw [hme.out, numAt_eq h9 t2.seg, rd_nf hVi]
          omega
end Go.Proofs.Ytapjaceahifihaa
