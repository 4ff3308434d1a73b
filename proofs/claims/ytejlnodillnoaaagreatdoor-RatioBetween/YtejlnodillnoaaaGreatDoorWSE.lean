import Derived.Test.YtejlnodillnoaaaGreatDoorWSD
set_option linter.unusedSimpArgs false
namespace Go.Proofs.YtejlnodillnoaaaGreatDoor
open Go.RowKit Go.Shelf
set_option linter.unusedVariables false
def NV.neg (x : NV) : NV := ⟨!x.s, x.a, x.n, x.c, x.X⟩
theorem NV.neg_val (x : NV) : x.neg.val = -x.val := sg_not x.s x.X
def SimA (w : World) (A0 D0 A1 D1 : Int) (e : Ending) (w' : World) : Prop :=
  (A1 * D0 ≤ A0 * D1 ∧ e = .returned (.tuple #[.agg #[.bool false, .slice none 0 0, .slice none 0 0], .int .i64 30]) ∧ Below w.heap.size w w') ∨
  (A0 * D1 < A1 * D0 ∧ ∃ (P : Int) (Q : Nat) (pa pb : Option Addr), Si A0 D0 A1 D1 P Q ∧ Nat.gcd (am P) Q = 1 ∧ ln (am P) ≤ 35184372087809 ∧ ln Q ≤ 35184372087809 ∧ e = .returned (.tuple #[.agg #[.bool (ng P), .slice pa (ln (am P)) (ln (am P)), .slice pb (ln Q) (ln Q)], .int .i64 0]) ∧ Below w.heap.size w w' ∧ Seg w' pa (am P) (ln (am P)) ∧ Seg w' pb Q (ln Q))
theorem bd2 {A C X Y N : Nat} (h : A ≤ X + Y) (hX : X < BB ^ N) (hY : Y < BB ^ N) : ln A ≤ N + 1 := ln_le_of_lt (by
  rw [Nat.pow_succ]
  have h2 : BB ^ N * 2 ≤ BB ^ N * BB := Nat.mul_le_mul_left _ (by rw [BB_eq]; omega)
  have := BBp N
  omega)
theorem nv_bd {x y : NV} {W : World} (hx : x.ok W) (hy : y.ok W) (h1 : x.n ≤ 35184372087808) (h2 : y.n ≤ 35184372087808) {A : Nat} (h : A ≤ x.X + y.X) : ln A ≤ 35184372087809 := by
  obtain ⟨N, hN⟩ : ∃ N, N = 35184372087808 := ⟨_, rfl⟩
  have := bd2 (C := 0) h (Nat.lt_of_lt_of_le hx.1.1 (pow_mono (show x.n ≤ N by omega))) (Nat.lt_of_lt_of_le hy.1.1 (pow_mono (show y.n ≤ N by omega)))
  omega
set_option maxHeartbeats 8000000 in
set_option maxRecDepth 100000 in
theorem Simplest_is (s0 : Bool) (a0 : Option Addr) (n0 c0 X0 : Nat) (b0 : Option Addr) (m0 d0 Y0 : Nat) (s1 : Bool) (a1 : Option Addr) (n1 c1 X1 : Nat) (b1 : Option Addr) (m1 d1 Y1 : Nat) (w : World) (hc0 : n0 ≤ c0) (hm0 : n0 ≤ 35184372087808) (hS0 : Seg w a0 X0 n0) (hd0 : m0 ≤ d0) (hk0 : m0 ≤ 35184372087808) (hT0 : Seg w b0 Y0 m0) (hc1 : n1 ≤ c1) (hm1 : n1 ≤ 35184372087808) (hS1 : Seg w a1 X1 n1) (hd1 : m1 ≤ d1) (hk1 : m1 ≤ 35184372087808) (hT1 : Seg w b1 Y1 m1) :
    Calls Tryz.prog 7 #[Value.agg #[Value.bool s0, Value.slice a0 n0 c0, Value.slice b0 m0 d0], Value.agg #[Value.bool s1, Value.slice a1 n1 c1, Value.slice b1 m1 d1]] w (SimA w (rn s0 X0 Y0) (rd Y0 : Nat) (rn s1 X1 Y1) (rd Y1 : Nat)) := by
  have HR0 := hide' (fun w' k1 k2 => read_is s0 a0 n0 c0 X0 b0 m0 d0 Y0 35184372087808 w' hc0 (by omega) k1 hd0 (by omega) k2 (by omega) (by omega))
  have HR1 := hide' (fun w' k1 k2 => read_is s1 a1 n1 c1 X1 b1 m1 d1 Y1 35184372087808 w' hc1 (by omega) k1 hd1 (by omega) k2 (by omega) (by omega))
  have hr0 := rd_pos Y0
  have hr1 := rd_pos Y1
  have bel : Below w.heap.size w w := Below.refl _ _
  have bb := below_alloc (w := w) (.cells #[.bool s0, .slice a0 n0 c0, .slice b0 m0 d0] 27)
  replace hS0 := hS0.later bb
  replace hT0 := hT0.later bb
  replace hS1 := hS1.later bb
  replace hT1 := hT1.later bb
  replace bel := bel.trans (bb.mono bel.size)
  clear bb
  have qa := Blk.new w #[.bool s0, .slice a0 n0 c0, .slice b0 m0 d0] 27
  have bb := below_alloc (w := (w.alloc (.cells #[.bool s0, .slice a0 n0 c0, .slice b0 m0 d0] 27))) (.cells #[.bool s1, .slice a1 n1 c1, .slice b1 m1 d1] 27)
  replace hS0 := hS0.later bb
  replace hT0 := hT0.later bb
  replace hS1 := hS1.later bb
  replace hT1 := hT1.later bb
  replace qa := qa.later bb
  replace bel := bel.trans (bb.mono bel.size)
  clear bb
  have qb := Blk.new (w.alloc (.cells #[.bool s0, .slice a0 n0 c0, .slice b0 m0 d0] 27)) #[.bool s1, .slice a1 n1 c1, .slice b1 m1 d1] 27
  simp only [World.size_alloc] at qb
  have bb := below_alloc (w := ((w.alloc (.cells #[.bool s0, .slice a0 n0 c0, .slice b0 m0 d0] 27)).alloc (.cells #[.bool s1, .slice a1 n1 c1, .slice b1 m1 d1] 27))) (.cells #[.bool false, .slice none 0 0, .slice none 0 0] 27)
  replace hS0 := hS0.later bb
  replace hT0 := hT0.later bb
  replace hS1 := hS1.later bb
  replace hT1 := hT1.later bb
  replace qa := qa.later bb
  replace qb := qb.later bb
  replace bel := bel.trans (bb.mono bel.size)
  clear bb
  have qr := Blk.new ((w.alloc (.cells #[.bool s0, .slice a0 n0 c0, .slice b0 m0 d0] 27)).alloc (.cells #[.bool s1, .slice a1 n1 c1, .slice b1 m1 d1] 27)) #[.bool false, .slice none 0 0, .slice none 0 0] 27
  simp only [World.size_alloc] at qr
  go_enter Tryz.func7, Tryz.ntmps7
  go_wp2_with fail
  obtain ⟨W0, hW⟩ : ∃ W, (((w.alloc (.cells #[.bool s0, .slice a0 n0 c0, .slice b0 m0 d0] 27)).alloc (.cells #[.bool s1, .slice a1 n1 c1, .slice b1 m1 d1] 27)).alloc (.cells #[.bool false, .slice none 0 0, .slice none 0 0] 27)) = W := ⟨_, rfl⟩
  rw [hW] at bel hS0 hT0 hS1 hT1 qa qb qr ⊢
  clear hW
  have lqr := qr.lt
  have hbs := bel.size
  have bT : Below W0.heap.size W0 W0 := Below.refl _ _
  go_cut [6, 7] from 8 to 11 (fun s6_ s7_ wx => ∃ (wh9 : World) (c6 c7 : Nat) (a b c d : NV), wh9 = wx ∧ s6_ = .pointer (some ⟨c6, 0, none⟩) ∧ s7_ = .pointer (some ⟨c7, 0, none⟩) ∧ Blk wx c6 #[.bool a.s, .slice a.a a.n a.c, .bool false, .slice b.a b.n b.c] 43 ∧ Blk wx c7 #[.bool c.s, .slice c.a c.n c.c, .bool false, .slice d.a d.n d.c] 43 ∧ W0.heap.size ≤ c6 ∧ W0.heap.size ≤ c7 ∧ (a.ok wx ∧ b.ok wx ∧ a.n ≤ 35184372087808 ∧ b.n ≤ 35184372087808 ∧ a.val = rn s0 X0 Y0 ∧ b.X = rd Y0) ∧ (c.ok wx ∧ d.ok wx ∧ c.n ≤ 35184372087808 ∧ d.n ≤ 35184372087808 ∧ c.val = rn s1 X1 Y1 ∧ d.X = rd Y1) ∧ Below W0.heap.size W0 wx)
  case first =>
    have qa_0 := qa.cell 0
    have qa_1 := qa.cell 1
    have qa_2 := qa.cell 2
    have qb_0 := qb.cell 0
    have qb_1 := qb.cell 1
    have qb_2 := qb.cell 2
    simp only [List.getElem?_toArray, List.getElem?_cons_zero, List.getElem?_cons_succ] at qa_0 qa_1 qa_2 qb_0 qb_1 qb_2
    have bD : Below W0.heap.size W0 W0.drew := (Below.refl _ _).drew
    have kqa_0 := below_cell bD qa_0
    have kqa_1 := below_cell bD qa_1
    have kqa_2 := below_cell bD qa_2
    have kqb_0 := below_cell bD qb_0
    have kqb_1 := below_cell bD qb_1
    have kqb_2 := below_cell bD qb_2
    replace bT := bT.trans (bD.mono bT.size)
    replace hS0 := hS0.later bD
    replace hT0 := hT0.later bD
    replace hS1 := hS1.later bD
    replace hT1 := hT1.later bD
    replace qa := qa.later bD
    replace qb := qb.later bD
    replace qr := qr.later bD
    refine wp_region_held_drew (S := fun w' => w'.cell? ⟨w.heap.size, 0, none⟩ = some (.bool s0) ∧ w'.cell? ⟨w.heap.size, 1, none⟩ = some (.slice a0 n0 c0) ∧ w'.cell? ⟨w.heap.size, 2, none⟩ = some (.slice b0 m0 d0) ∧ w'.cell? ⟨w.heap.size + 1, 0, none⟩ = some (.bool s1) ∧ w'.cell? ⟨w.heap.size + 1, 1, none⟩ = some (.slice a1 n1 c1) ∧ w'.cell? ⟨w.heap.size + 1, 2, none⟩ = some (.slice b1 m1 d1)) (by kernel_rfl) ⟨kqa_0, kqa_1, kqa_2, kqb_0, kqb_1, kqb_2⟩ (fun hHeld => ?_)
    clear kqa_0 kqa_1 kqa_2 kqb_0 kqb_1 kqb_2
    generalize W0.drew = w0F at bD hS0 hT0 hS1 hT1 qa qb qr bT hHeld ⊢
    clear bD qa_0 qa_1 qa_2 qb_0 qb_1 qb_2
    refine tk 0 (v := ?_) rfl (Or.inl ⟨by rfl, ?_⟩) ?_
    rotate_left
    · intro w9 hSw
      go_simp
      first | done | with_reducible rfl
    simp only [pP, pN, pS, pZ, pC]
    refine tk 2 (v := ?_) rfl (Or.inl ⟨by rfl, ?_⟩) ?_
    rotate_left
    · intro w9 hSw
      go_simp
      first | done | with_reducible rfl
    simp only [pP, pN, pS, pZ, pC]
    obtain ⟨va0, hva0⟩ : ∃ v, Value.agg #[.bool s0, .slice a0 n0 c0, .slice b0 m0 d0] = v := ⟨_, rfl⟩
    rw [hva0] at HR0 ⊢
    obtain ⟨P0, hP0⟩ : ∃ P : World → Value → Prop, P = fun wx v => ∃ a b : NV, v = .agg #[.bool a.s, .slice a.a a.n a.c, .bool false, .slice b.a b.n b.c] ∧ a.ok wx ∧ b.ok wx ∧ a.n ≤ 35184372087808 ∧ b.n ≤ 35184372087808 ∧ a.val = rn s0 X0 Y0 ∧ b.X = rd Y0 := ⟨_, rfl⟩
    have P0_b : ∀ {W W' : World} {v : Value}, Below W.heap.size W W' → P0 W v → P0 W' v := fun {W W' v} hb h => by
      rw [hP0] at h ⊢
      obtain ⟨x, y, e, k1, k2, k3⟩ := h
      exact ⟨x, y, e, k1.later hb, k2.later hb, k3⟩
    have GC0 : ∀ W' : World, Below w0F.heap.size w0F W' → Calls Tryz.prog 22 #[va0] W' fun e w' => ∃ v, e = .returned v ∧ Below W'.heap.size W' w' ∧ P0 w' v := fun W' hb => by
      refine (HR0.out _ (hS0.later hb) (hT0.later hb)).mono ?_
      rintro e W2 ⟨zs, zp, zn, zc, zX, zq, zm, zd, rfl, ga, gb, gc, gd, kS, kT, ge, bb⟩
      exact ⟨_, rfl, bb, by rw [hP0]; exact ⟨⟨zs, zp, zn, zc, zX⟩, ⟨false, zq, zm, zd, rd Y0⟩, rfl, ⟨kS, ga, by show zn ≤ _; omega⟩, ⟨kT, gc, by show zm ≤ _; omega⟩, gb, gd, ge, rfl⟩⟩
    obtain ⟨va1, hva1⟩ : ∃ v, Value.agg #[.bool s1, .slice a1 n1 c1, .slice b1 m1 d1] = v := ⟨_, rfl⟩
    rw [hva1] at HR1 ⊢
    obtain ⟨P1, hP1⟩ : ∃ P : World → Value → Prop, P = fun wx v => ∃ c d : NV, v = .agg #[.bool c.s, .slice c.a c.n c.c, .bool false, .slice d.a d.n d.c] ∧ c.ok wx ∧ d.ok wx ∧ c.n ≤ 35184372087808 ∧ d.n ≤ 35184372087808 ∧ c.val = rn s1 X1 Y1 ∧ d.X = rd Y1 := ⟨_, rfl⟩
    have P1_b : ∀ {W W' : World} {v : Value}, Below W.heap.size W W' → P1 W v → P1 W' v := fun {W W' v} hb h => by
      rw [hP1] at h ⊢
      obtain ⟨x, y, e, k1, k2, k3⟩ := h
      exact ⟨x, y, e, k1.later hb, k2.later hb, k3⟩
    have GC1 : ∀ W' : World, Below w0F.heap.size w0F W' → Calls Tryz.prog 22 #[va1] W' fun e w' => ∃ v, e = .returned v ∧ Below W'.heap.size W' w' ∧ P1 w' v := fun W' hb => by
      refine (HR1.out _ (hS1.later hb) (hT1.later hb)).mono ?_
      rintro e W2 ⟨zs, zp, zn, zc, zX, zq, zm, zd, rfl, ga, gb, gc, gd, kS, kT, ge, bb⟩
      exact ⟨_, rfl, bb, by rw [hP1]; exact ⟨⟨zs, zp, zn, zc, zX⟩, ⟨false, zq, zm, zd, rd Y1⟩, rfl, ⟨kS, ga, by show zn ≤ _; omega⟩, ⟨kT, gc, by show zm ≤ _; omega⟩, gb, gd, ge, rfl⟩⟩
    have hs0 := bT.size
    have lqa := qa.lt
    have lqb := qb.lt
    have bZ : Below w0F.heap.size w0F w0F := Below.refl _ _
    have bS := bT
    clear bT qa qb qr
    refine nameH w0F.heap.size (fun W1 W2 hb h => (⟨below_cell hb h.1, below_cell hb h.2.1, below_cell hb h.2.2.1, below_cell hb h.2.2.2.1, below_cell hb h.2.2.2.2.1, below_cell hb h.2.2.2.2.2⟩ : _ ∧ _ ∧ _ ∧ _ ∧ _ ∧ _)) (fun W1 W2 c hg hk h => (⟨cellsT hk (by omega) h.1, cellsT hk (by omega) h.2.1, cellsT hk (by omega) h.2.2.1, cellsT hk (by omega) h.2.2.2.1, cellsT hk (by omega) h.2.2.2.2.1, cellsT hk (by omega) h.2.2.2.2.2⟩ : _ ∧ _ ∧ _ ∧ _ ∧ _ ∧ _)) ?_
    intro G SS F hG hS0 hSB hSC hF
    replace hHeld := hS0 _ hHeld
    clear hS0
    obtain ⟨z0V, hz0V⟩ : ∃ z : Array Value, #[.bool false, .slice none 0 0, .bool false, .slice none 0 0] = z := ⟨_, rfl⟩
    have b0V : ∀ W : World, Below W.heap.size W (W.alloc (.cells z0V 43)) := fun W => below_alloc _
    have st2lh : ∀ (W : World) (v0 v1 : Value) (cl ch : Nat), P0 W v0 → P1 W v1 → Vb w0F.heap.size z0V 43 W cl → Vb w0F.heap.size z0V 43 W ch → cl ≠ ch → Below w0F.heap.size w0F W → SS W → G 2 #[true, true, true, true, true, true, false, false] (F [(9, v0), (11, v1), (6, .pointer (some ⟨cl, 0, none⟩)), (7, .pointer (some ⟨ch, 0, none⟩))]) W := by
      intro W v0 v1 cl ch k0 k1 ql qh nlh bT hH
      rw [hF]
      simp only [List.foldl_cons, List.foldl_nil, List.setIfInBounds_toArray, List.set_cons_zero, List.set_cons_succ]
      refine (hG _ _ _ _).2 ?_
      rw [hP0] at k0
      obtain ⟨a, b, rfl, ha, hb, k0⟩ := k0
      rw [hP1] at k1
      obtain ⟨c, d, rfl, hc, hd, k1⟩ := k1
      obtain ⟨ql, gl⟩ := ql
      obtain ⟨qh, gh⟩ := qh
      subst hva0 hva1 hz0V
      refine wpAnyH_ready (rs := [6]) (by kernel_rfl) (by simp) ?_
      refine cons' rfl (fun KK hKK => ?_)
      have z0 := ql.cell 0
      have z1 := ql.cell 1
      have z2 := ql.cell 2
      have z3 := ql.cell 3
      simp only [List.getElem?_toArray, List.getElem?_cons_zero, List.getElem?_cons_succ] at z0 z1 z2 z3
      have fz := fun o => ql.frozen o
      obtain ⟨c9, q9⟩ := ql.set4 (.bool a.s) (.slice a.a a.n a.c) (.bool false) (.slice b.a b.n b.c)
      have hno := ql.no (by simp)
      replace ha := ha.ch c9 hno
      replace hb := hb.ch c9 hno
      replace hc := hc.ch c9 hno
      replace hd := hd.ch c9 hno
      replace qh := qh.ch c9 (by omega)
      replace bT := bT.trans (c9.below gl)
      replace hH := hSC _ _ _ gl c9 hH
      go_simp
      clear z0 z1 z2 z3 fz hno c9
      replace ql := q9
      refine hKK.out _ _ hH ?_
      intro _
      clear hKK KK
      try simp only [pP, pN, pS, pZ, pC]
      generalize ((((W.setCell ⟨cl, 0, none⟩ (.bool a.s)).setCell ⟨cl, 1, none⟩ (.slice a.a a.n a.c)).setCell ⟨cl, 2, none⟩ (.bool false)).setCell ⟨cl, 3, none⟩ (.slice b.a b.n b.c)) = wLql at ha hb hc hd ql qh bT hH ⊢
      refine wpAnyH_ready (rs := [7]) (by kernel_rfl) (by simp) ?_
      refine cons' rfl (fun KK hKK => ?_)
      have z0 := qh.cell 0
      have z1 := qh.cell 1
      have z2 := qh.cell 2
      have z3 := qh.cell 3
      simp only [List.getElem?_toArray, List.getElem?_cons_zero, List.getElem?_cons_succ] at z0 z1 z2 z3
      have fz := fun o => qh.frozen o
      obtain ⟨c9, q9⟩ := qh.set4 (.bool c.s) (.slice c.a c.n c.c) (.bool false) (.slice d.a d.n d.c)
      have hno := qh.no (by simp)
      replace ha := ha.ch c9 hno
      replace hb := hb.ch c9 hno
      replace hc := hc.ch c9 hno
      replace hd := hd.ch c9 hno
      replace ql := ql.ch c9 (by omega)
      replace bT := bT.trans (c9.below gh)
      replace hH := hSC _ _ _ gh c9 hH
      go_simp
      clear z0 z1 z2 z3 fz hno c9
      replace qh := q9
      refine hKK.out _ _ hH ?_
      intro _
      clear hKK KK
      try simp only [pP, pN, pS, pZ, pC]
      generalize ((((wLql.setCell ⟨ch, 0, none⟩ (.bool c.s)).setCell ⟨ch, 1, none⟩ (.slice c.a c.n c.c)).setCell ⟨ch, 2, none⟩ (.bool false)).setCell ⟨ch, 3, none⟩ (.slice d.a d.n d.c)) = wLqh at ha hb hc hd ql qh bT hH ⊢
      refine wpAnyH_done (by kernel_rfl) ?_ _
      go_wp2_with fail
      go_meet
      exact ⟨_, cl, ch, a, b, c, d, rfl, rfl, rfl, ql, qh, Nat.le_trans hs0 gl, Nat.le_trans hs0 gh, ⟨ha, hb, k0⟩, ⟨hc, hd, k1⟩, bS.trans (bT.mono bS.size)⟩
    have st2l : ∀ (W : World) (v0 v1 : Value) (cl : Nat), P0 W v0 → P1 W v1 → Vb w0F.heap.size z0V 43 W cl → Below w0F.heap.size w0F W → SS W → G 3 #[true, true, true, true, true, false, false, false] (F [(9, v0), (11, v1), (6, .pointer (some ⟨cl, 0, none⟩))]) W := by
      intro W v0 v1 cl k0 k1 ql bT hH
      rw [hF]
      simp only [List.foldl_cons, List.foldl_nil, List.setIfInBounds_toArray, List.set_cons_zero, List.set_cons_succ]
      refine (hG _ _ _ _).2 ?_
      refine wpAnyH_ready (rs := [5]) (by kernel_rfl) (by simp) ?_
      refine consT rfl (fun KK hKK => ?_) ?_
      · go_simp
        try rw [hz0V]
        refine hKK.out _ _ (hSB _ _ (b0V W) hH) ?_
        intro _
        try simp only [pP, pN, pS, pZ, pC]
        exact (hG _ _ _ _).1 (Geq (by kernel_rfl) (by kernel_rfl) (by rw [hF]; kernel_rfl) (st2lh _ v0 v1 cl W.heap.size (P0_b (b0V W) k0) (P1_b (b0V W) k1) (ql.later (b0V W)) (Vb.new _ _ bT (Nat.le_refl _)) (Nat.ne_of_lt ql.1.lt) (blw bT (b0V W)) (hSB _ _ (b0V W) hH)))
      exact AllReadyH.nil
    have st2h : ∀ (W : World) (v0 v1 : Value) (ch : Nat), P0 W v0 → P1 W v1 → Vb w0F.heap.size z0V 43 W ch → Below w0F.heap.size w0F W → SS W → G 3 #[true, true, true, true, false, true, false, false] (F [(9, v0), (11, v1), (7, .pointer (some ⟨ch, 0, none⟩))]) W := by
      intro W v0 v1 ch k0 k1 qh bT hH
      rw [hF]
      simp only [List.foldl_cons, List.foldl_nil, List.setIfInBounds_toArray, List.set_cons_zero, List.set_cons_succ]
      refine (hG _ _ _ _).2 ?_
      refine wpAnyH_ready (rs := [4]) (by kernel_rfl) (by simp) ?_
      refine consT rfl (fun KK hKK => ?_) ?_
      · go_simp
        try rw [hz0V]
        refine hKK.out _ _ (hSB _ _ (b0V W) hH) ?_
        intro _
        try simp only [pP, pN, pS, pZ, pC]
        exact (hG _ _ _ _).1 (Geq (by kernel_rfl) (by kernel_rfl) (by rw [hF]; kernel_rfl) (st2lh _ v0 v1 W.heap.size ch (P0_b (b0V W) k0) (P1_b (b0V W) k1) (Vb.new _ _ bT (Nat.le_refl _)) (qh.later (b0V W)) (Nat.ne_of_gt qh.1.lt) (blw bT (b0V W)) (hSB _ _ (b0V W) hH)))
      exact AllReadyH.nil
    have st2 : ∀ (W : World) (v0 v1 : Value), P0 W v0 → P1 W v1 → Below w0F.heap.size w0F W → SS W → G 4 #[true, true, true, true, false, false, false, false] (F [(9, v0), (11, v1)]) W := by
      intro W v0 v1 k0 k1 bT hH
      rw [hF]
      simp only [List.foldl_cons, List.foldl_nil, List.setIfInBounds_toArray, List.set_cons_zero, List.set_cons_succ]
      refine (hG _ _ _ _).2 ?_
      refine wpAnyH_ready (rs := [4, 5]) (by kernel_rfl) (by simp) ?_
      refine consT rfl (fun KK hKK => ?_) ?_
      · go_simp
        try rw [hz0V]
        refine hKK.out _ _ (hSB _ _ (b0V W) hH) ?_
        intro _
        try simp only [pP, pN, pS, pZ, pC]
        exact (hG _ _ _ _).1 (Geq (by kernel_rfl) (by kernel_rfl) (by rw [hF]; kernel_rfl) (st2l _ v0 v1 W.heap.size (P0_b (b0V W) k0) (P1_b (b0V W) k1) (Vb.new _ _ bT (Nat.le_refl _)) (blw bT (b0V W)) (hSB _ _ (b0V W) hH)))
      refine consT rfl (fun KK hKK => ?_) ?_
      · go_simp
        try rw [hz0V]
        refine hKK.out _ _ (hSB _ _ (b0V W) hH) ?_
        intro _
        try simp only [pP, pN, pS, pZ, pC]
        exact (hG _ _ _ _).1 (Geq (by kernel_rfl) (by kernel_rfl) (by rw [hF]; kernel_rfl) (st2h _ v0 v1 W.heap.size (P0_b (b0V W) k0) (P1_b (b0V W) k1) (Vb.new _ _ bT (Nat.le_refl _)) (blw bT (b0V W)) (hSB _ _ (b0V W) hH)))
      exact AllReadyH.nil
    have st1lh : ∀ (W : World) (v0 : Value) (cl ch : Nat), P0 W v0 → Vb w0F.heap.size z0V 43 W cl → Vb w0F.heap.size z0V 43 W ch → cl ≠ ch → Below w0F.heap.size w0F W → SS W → G 3 #[true, true, true, false, true, true, false, false] (F [(9, v0), (6, .pointer (some ⟨cl, 0, none⟩)), (7, .pointer (some ⟨ch, 0, none⟩))]) W := by
      intro W v0 cl ch k0 ql qh nlh bT hH
      rw [hF]
      simp only [List.foldl_cons, List.foldl_nil, List.setIfInBounds_toArray, List.set_cons_zero, List.set_cons_succ]
      refine (hG _ _ _ _).2 ?_
      refine wpAnyH_ready (rs := [3]) (by kernel_rfl) (by simp) ?_
      refine consT rfl (fun KK hKK => ?_) ?_
      · go_simp
        refine (GC1 _ bT).mono ?_
        rintro e W2 ⟨v1, rfl, bC, k1⟩
        go_wp2_with fail
        refine hKK.out _ _ (hSB _ _ bC hH) ?_
        intro _
        try simp only [pP, pN, pS, pZ, pC]
        exact (hG _ _ _ _).1 (Geq (by kernel_rfl) (by kernel_rfl) (by rw [hF]; kernel_rfl) (st2lh W2 v0 v1 cl ch (P0_b bC k0) k1 (ql.later bC) (qh.later bC) nlh (blw bT bC) (hSB _ _ bC hH)))
      exact AllReadyH.nil
    have st1l : ∀ (W : World) (v0 : Value) (cl : Nat), P0 W v0 → Vb w0F.heap.size z0V 43 W cl → Below w0F.heap.size w0F W → SS W → G 4 #[true, true, true, false, true, false, false, false] (F [(9, v0), (6, .pointer (some ⟨cl, 0, none⟩))]) W := by
      intro W v0 cl k0 ql bT hH
      rw [hF]
      simp only [List.foldl_cons, List.foldl_nil, List.setIfInBounds_toArray, List.set_cons_zero, List.set_cons_succ]
      refine (hG _ _ _ _).2 ?_
      refine wpAnyH_ready (rs := [3, 5]) (by kernel_rfl) (by simp) ?_
      refine consT rfl (fun KK hKK => ?_) ?_
      · go_simp
        refine (GC1 _ bT).mono ?_
        rintro e W2 ⟨v1, rfl, bC, k1⟩
        go_wp2_with fail
        refine hKK.out _ _ (hSB _ _ bC hH) ?_
        intro _
        try simp only [pP, pN, pS, pZ, pC]
        exact (hG _ _ _ _).1 (Geq (by kernel_rfl) (by kernel_rfl) (by rw [hF]; kernel_rfl) (st2l W2 v0 v1 cl (P0_b bC k0) k1 (ql.later bC) (blw bT bC) (hSB _ _ bC hH)))
      refine consT rfl (fun KK hKK => ?_) ?_
      · go_simp
        try rw [hz0V]
        refine hKK.out _ _ (hSB _ _ (b0V W) hH) ?_
        intro _
        try simp only [pP, pN, pS, pZ, pC]
        exact (hG _ _ _ _).1 (Geq (by kernel_rfl) (by kernel_rfl) (by rw [hF]; kernel_rfl) (st1lh _ v0 cl W.heap.size (P0_b (b0V W) k0) (ql.later (b0V W)) (Vb.new _ _ bT (Nat.le_refl _)) (Nat.ne_of_lt ql.1.lt) (blw bT (b0V W)) (hSB _ _ (b0V W) hH)))
      exact AllReadyH.nil
    have st1h : ∀ (W : World) (v0 : Value) (ch : Nat), P0 W v0 → Vb w0F.heap.size z0V 43 W ch → Below w0F.heap.size w0F W → SS W → G 4 #[true, true, true, false, false, true, false, false] (F [(9, v0), (7, .pointer (some ⟨ch, 0, none⟩))]) W := by
      intro W v0 ch k0 qh bT hH
      rw [hF]
      simp only [List.foldl_cons, List.foldl_nil, List.setIfInBounds_toArray, List.set_cons_zero, List.set_cons_succ]
      refine (hG _ _ _ _).2 ?_
      refine wpAnyH_ready (rs := [3, 4]) (by kernel_rfl) (by simp) ?_
      refine consT rfl (fun KK hKK => ?_) ?_
      · go_simp
        refine (GC1 _ bT).mono ?_
        rintro e W2 ⟨v1, rfl, bC, k1⟩
        go_wp2_with fail
        refine hKK.out _ _ (hSB _ _ bC hH) ?_
        intro _
        try simp only [pP, pN, pS, pZ, pC]
        exact (hG _ _ _ _).1 (Geq (by kernel_rfl) (by kernel_rfl) (by rw [hF]; kernel_rfl) (st2h W2 v0 v1 ch (P0_b bC k0) k1 (qh.later bC) (blw bT bC) (hSB _ _ bC hH)))
      refine consT rfl (fun KK hKK => ?_) ?_
      · go_simp
        try rw [hz0V]
        refine hKK.out _ _ (hSB _ _ (b0V W) hH) ?_
        intro _
        try simp only [pP, pN, pS, pZ, pC]
        exact (hG _ _ _ _).1 (Geq (by kernel_rfl) (by kernel_rfl) (by rw [hF]; kernel_rfl) (st1lh _ v0 W.heap.size ch (P0_b (b0V W) k0) (Vb.new _ _ bT (Nat.le_refl _)) (qh.later (b0V W)) (Nat.ne_of_gt qh.1.lt) (blw bT (b0V W)) (hSB _ _ (b0V W) hH)))
      exact AllReadyH.nil
    have st1 : ∀ (W : World) (v0 : Value), P0 W v0 → Below w0F.heap.size w0F W → SS W → G 5 #[true, true, true, false, false, false, false, false] (F [(9, v0)]) W := by
      intro W v0 k0 bT hH
      rw [hF]
      simp only [List.foldl_cons, List.foldl_nil, List.setIfInBounds_toArray, List.set_cons_zero, List.set_cons_succ]
      refine (hG _ _ _ _).2 ?_
      refine wpAnyH_ready (rs := [3, 4, 5]) (by kernel_rfl) (by simp) ?_
      refine consT rfl (fun KK hKK => ?_) ?_
      · go_simp
        refine (GC1 _ bT).mono ?_
        rintro e W2 ⟨v1, rfl, bC, k1⟩
        go_wp2_with fail
        refine hKK.out _ _ (hSB _ _ bC hH) ?_
        intro _
        try simp only [pP, pN, pS, pZ, pC]
        exact (hG _ _ _ _).1 (Geq (by kernel_rfl) (by kernel_rfl) (by rw [hF]; kernel_rfl) (st2 W2 v0 v1 (P0_b bC k0) k1 (blw bT bC) (hSB _ _ bC hH)))
      refine consT rfl (fun KK hKK => ?_) ?_
      · go_simp
        try rw [hz0V]
        refine hKK.out _ _ (hSB _ _ (b0V W) hH) ?_
        intro _
        try simp only [pP, pN, pS, pZ, pC]
        exact (hG _ _ _ _).1 (Geq (by kernel_rfl) (by kernel_rfl) (by rw [hF]; kernel_rfl) (st1l _ v0 W.heap.size (P0_b (b0V W) k0) (Vb.new _ _ bT (Nat.le_refl _)) (blw bT (b0V W)) (hSB _ _ (b0V W) hH)))
      refine consT rfl (fun KK hKK => ?_) ?_
      · go_simp
        try rw [hz0V]
        refine hKK.out _ _ (hSB _ _ (b0V W) hH) ?_
        intro _
        try simp only [pP, pN, pS, pZ, pC]
        exact (hG _ _ _ _).1 (Geq (by kernel_rfl) (by kernel_rfl) (by rw [hF]; kernel_rfl) (st1h _ v0 W.heap.size (P0_b (b0V W) k0) (Vb.new _ _ bT (Nat.le_refl _)) (blw bT (b0V W)) (hSB _ _ (b0V W) hH)))
      exact AllReadyH.nil
    have st0lh : ∀ (W : World) (cl ch : Nat), Vb w0F.heap.size z0V 43 W cl → Vb w0F.heap.size z0V 43 W ch → cl ≠ ch → Below w0F.heap.size w0F W → SS W → G 4 #[true, false, true, false, true, true, false, false] (F [(6, .pointer (some ⟨cl, 0, none⟩)), (7, .pointer (some ⟨ch, 0, none⟩))]) W := by
      intro W cl ch ql qh nlh bT hH
      rw [hF]
      simp only [List.foldl_cons, List.foldl_nil, List.setIfInBounds_toArray, List.set_cons_zero, List.set_cons_succ]
      refine (hG _ _ _ _).2 ?_
      refine wpAnyH_ready (rs := [1]) (by kernel_rfl) (by simp) ?_
      refine consT rfl (fun KK hKK => ?_) ?_
      · go_simp
        refine (GC0 _ bT).mono ?_
        rintro e W2 ⟨v0, rfl, bC, k0⟩
        go_wp2_with fail
        refine hKK.out _ _ (hSB _ _ bC hH) ?_
        intro _
        try simp only [pP, pN, pS, pZ, pC]
        exact (hG _ _ _ _).1 (Geq (by kernel_rfl) (by kernel_rfl) (by rw [hF]; kernel_rfl) (st1lh W2 v0 cl ch k0 (ql.later bC) (qh.later bC) nlh (blw bT bC) (hSB _ _ bC hH)))
      exact AllReadyH.nil
    have st0l : ∀ (W : World) (cl : Nat), Vb w0F.heap.size z0V 43 W cl → Below w0F.heap.size w0F W → SS W → G 5 #[true, false, true, false, true, false, false, false] (F [(6, .pointer (some ⟨cl, 0, none⟩))]) W := by
      intro W cl ql bT hH
      rw [hF]
      simp only [List.foldl_cons, List.foldl_nil, List.setIfInBounds_toArray, List.set_cons_zero, List.set_cons_succ]
      refine (hG _ _ _ _).2 ?_
      refine wpAnyH_ready (rs := [1, 5]) (by kernel_rfl) (by simp) ?_
      refine consT rfl (fun KK hKK => ?_) ?_
      · go_simp
        refine (GC0 _ bT).mono ?_
        rintro e W2 ⟨v0, rfl, bC, k0⟩
        go_wp2_with fail
        refine hKK.out _ _ (hSB _ _ bC hH) ?_
        intro _
        try simp only [pP, pN, pS, pZ, pC]
        exact (hG _ _ _ _).1 (Geq (by kernel_rfl) (by kernel_rfl) (by rw [hF]; kernel_rfl) (st1l W2 v0 cl k0 (ql.later bC) (blw bT bC) (hSB _ _ bC hH)))
      refine consT rfl (fun KK hKK => ?_) ?_
      · go_simp
        try rw [hz0V]
        refine hKK.out _ _ (hSB _ _ (b0V W) hH) ?_
        intro _
        try simp only [pP, pN, pS, pZ, pC]
        exact (hG _ _ _ _).1 (Geq (by kernel_rfl) (by kernel_rfl) (by rw [hF]; kernel_rfl) (st0lh _ cl W.heap.size (ql.later (b0V W)) (Vb.new _ _ bT (Nat.le_refl _)) (Nat.ne_of_lt ql.1.lt) (blw bT (b0V W)) (hSB _ _ (b0V W) hH)))
      exact AllReadyH.nil
    have st0h : ∀ (W : World) (ch : Nat), Vb w0F.heap.size z0V 43 W ch → Below w0F.heap.size w0F W → SS W → G 5 #[true, false, true, false, false, true, false, false] (F [(7, .pointer (some ⟨ch, 0, none⟩))]) W := by
      intro W ch qh bT hH
      rw [hF]
      simp only [List.foldl_cons, List.foldl_nil, List.setIfInBounds_toArray, List.set_cons_zero, List.set_cons_succ]
      refine (hG _ _ _ _).2 ?_
      refine wpAnyH_ready (rs := [1, 4]) (by kernel_rfl) (by simp) ?_
      refine consT rfl (fun KK hKK => ?_) ?_
      · go_simp
        refine (GC0 _ bT).mono ?_
        rintro e W2 ⟨v0, rfl, bC, k0⟩
        go_wp2_with fail
        refine hKK.out _ _ (hSB _ _ bC hH) ?_
        intro _
        try simp only [pP, pN, pS, pZ, pC]
        exact (hG _ _ _ _).1 (Geq (by kernel_rfl) (by kernel_rfl) (by rw [hF]; kernel_rfl) (st1h W2 v0 ch k0 (qh.later bC) (blw bT bC) (hSB _ _ bC hH)))
      refine consT rfl (fun KK hKK => ?_) ?_
      · go_simp
        try rw [hz0V]
        refine hKK.out _ _ (hSB _ _ (b0V W) hH) ?_
        intro _
        try simp only [pP, pN, pS, pZ, pC]
        exact (hG _ _ _ _).1 (Geq (by kernel_rfl) (by kernel_rfl) (by rw [hF]; kernel_rfl) (st0lh _ W.heap.size ch (Vb.new _ _ bT (Nat.le_refl _)) (qh.later (b0V W)) (Nat.ne_of_gt qh.1.lt) (blw bT (b0V W)) (hSB _ _ (b0V W) hH)))
      exact AllReadyH.nil
    have st0 : ∀ (W : World), Below w0F.heap.size w0F W → SS W → G 6 #[true, false, true, false, false, false, false, false] (F []) W := by
      intro W bT hH
      rw [hF]
      simp only [List.foldl_cons, List.foldl_nil, List.setIfInBounds_toArray, List.set_cons_zero, List.set_cons_succ]
      refine (hG _ _ _ _).2 ?_
      refine wpAnyH_ready (rs := [1, 4, 5]) (by kernel_rfl) (by simp) ?_
      refine consT rfl (fun KK hKK => ?_) ?_
      · go_simp
        refine (GC0 _ bT).mono ?_
        rintro e W2 ⟨v0, rfl, bC, k0⟩
        go_wp2_with fail
        refine hKK.out _ _ (hSB _ _ bC hH) ?_
        intro _
        try simp only [pP, pN, pS, pZ, pC]
        exact (hG _ _ _ _).1 (Geq (by kernel_rfl) (by kernel_rfl) (by rw [hF]; kernel_rfl) (st1 W2 v0 k0 (blw bT bC) (hSB _ _ bC hH)))
      refine consT rfl (fun KK hKK => ?_) ?_
      · go_simp
        try rw [hz0V]
        refine hKK.out _ _ (hSB _ _ (b0V W) hH) ?_
        intro _
        try simp only [pP, pN, pS, pZ, pC]
        exact (hG _ _ _ _).1 (Geq (by kernel_rfl) (by kernel_rfl) (by rw [hF]; kernel_rfl) (st0l _ W.heap.size (Vb.new _ _ bT (Nat.le_refl _)) (blw bT (b0V W)) (hSB _ _ (b0V W) hH)))
      refine consT rfl (fun KK hKK => ?_) ?_
      · go_simp
        try rw [hz0V]
        refine hKK.out _ _ (hSB _ _ (b0V W) hH) ?_
        intro _
        try simp only [pP, pN, pS, pZ, pC]
        exact (hG _ _ _ _).1 (Geq (by kernel_rfl) (by kernel_rfl) (by rw [hF]; kernel_rfl) (st0h _ W.heap.size (Vb.new _ _ bT (Nat.le_refl _)) (blw bT (b0V W)) (hSB _ _ (b0V W) hH)))
      exact AllReadyH.nil
    exact Geq (by kernel_rfl) (by kernel_rfl) (by rw [hF]; kernel_rfl) (st0 _ bZ hHeld)
  case rest =>
    obtain ⟨wc1, c6, c7, a, b, c, d, hwv, rfl, rfl, q6, q7, g6, g7, ⟨ha, hb, za, zb, va, vb⟩, ⟨hc, hd, zc, zd, vc, vd⟩, bT⟩ := hcut
    subst hwv
    replace hS0 := hS0.later bT
    replace hT0 := hT0.later bT
    replace hS1 := hS1.later bT
    replace hT1 := hT1.later bT
    replace qa := qa.later bT
    replace qb := qb.later bT
    replace qr := qr.later bT
    replace bel := bel.trans (bT.mono bel.size)
    clear bT
    clear HR0 HR1 hbs
    clear hS0 hT0 hS1 hT1 qa qb
    have HV := hide' (And.intro va (And.intro vb (And.intro vc vd)))
    have hbX : 0 < b.X := by omega
    have hdX : 0 < d.X := by omega
    clear va vb vc vd hr0 hr1
    obtain ⟨C, hC⟩ : ∃ C, sgn (a.val * (d.X : Int) - c.val * (b.X : Int)) = C := ⟨_, rfl⟩
    obtain ⟨SA, hSA⟩ : ∃ C, sgn a.val = C := ⟨_, rfl⟩
    obtain ⟨SC, hSC⟩ : ∃ C, sgn c.val = C := ⟨_, rfl⟩
    have GO := hide' (fun w' k1 k2 k3 k4 => order_is a.s a.a a.n a.c a.X b.a b.n b.c b.X c.s c.a c.n c.c c.X d.a d.n d.c d.X a.val c.val C w' ha.2.1 (by omega) k1 hb.2.1 (by omega) k2 hc.2.1 (by omega) k3 hd.2.1 (by omega) k4 rfl rfl hC)
    have GS0 := hide' (fun w' k1 => wSign_is a.s a.a a.n a.c a.X a.val w' ha.2.1 (by omega) k1 rfl)
    rw [hSA] at GS0
    have GS1 := hide' (fun w' k1 => wSign_is c.s c.a c.n c.c c.X c.val w' hc.2.1 (by omega) k1 rfl)
    rw [hSC] at GS1
    have HC := hide' (And.intro hC (And.intro hSA hSC))
    clear hC hSA hSC
    have q6_0 := q6.cell 0
    have q6_1 := q6.cell 1
    have q6_2 := q6.cell 2
    have q6_3 := q6.cell 3
    have q7_0 := q7.cell 0
    have q7_1 := q7.cell 1
    have q7_2 := q7.cell 2
    have q7_3 := q7.cell 3
    simp only [List.getElem?_toArray, List.getElem?_cons_zero, List.getElem?_cons_succ] at q6_0 q6_1 q6_2 q6_3 q7_0 q7_1 q7_2 q7_3
    go_wp2_with fail
    clear q6_0 q6_1 q6_2 q6_3 q7_0 q7_1 q7_2 q7_3
    refine (GO.out _ ha.1 hb.1 hc.1 hd.1).mono ?_
    rintro e w2 ⟨rfl, b1⟩
    have bb := b1
    replace qr := qr.later bb
    replace ha := ha.later bb
    replace hb := hb.later bb
    replace hc := hc.later bb
    replace hd := hd.later bb
    replace q6 := q6.later bb
    replace q7 := q7.later bb
    replace bel := bel.trans (bb.mono bel.size)
    clear bb
    clear b1
    clear GO
    by_cases hC0 : 0 ≤ C
    · skip
      have HC0 := hide' hC0
      have qr_0 := qr.cell 0
      have qr_1 := qr.cell 1
      have qr_2 := qr.cell 2
      simp only [List.getElem?_toArray, List.getElem?_cons_zero, List.getElem?_cons_succ] at qr_0 qr_1 qr_2
      have fz := fun o => qr.frozen o
      go_wp2
      obtain ⟨c9, q9⟩ := qr.set3 (.bool false) (.slice none 0 0) (.slice none 0 0)
      have hno := qr.no (by simp)
      replace ha := ha.ch c9 hno
      replace hb := hb.ch c9 hno
      replace hc := hc.ch c9 hno
      replace hd := hd.ch c9 hno
      replace q6 := q6.ch c9 (by omega)
      replace q7 := q7.ch c9 (by omega)
      replace bel := bel.trans (c9.below (by omega))
      clear qr_0 qr_1 qr_2
      clear fz hno
      replace qr := q9
      have qr_0 := qr.cell 0
      have qr_1 := qr.cell 1
      have qr_2 := qr.cell 2
      simp only [List.getElem?_toArray, List.getElem?_cons_zero, List.getElem?_cons_succ] at qr_0 qr_1 qr_2
      refine bodyPost_ret (v := .tuple #[.agg #[.bool false, .slice none 0 0, .slice none 0 0], .int .i64 30]) (by rw [results_ct rfl]; go_simp) rfl ?_
      obtain ⟨va, vb, vc, vd⟩ := HV.out
      rw [← va, ← vc, ← vb, ← vd]
      obtain ⟨hC, _⟩ := HC.out
      refine Or.inl ⟨?_, rfl, bel⟩
      have h0 := HC0.out
      rw [← hC] at h0
      have h1 : ¬ (a.val * (d.X : Int) - c.val * (b.X : Int) < 0) := fun h => by
        have h8 : sgn (a.val * (d.X : Int) - c.val * (b.X : Int)) = -1 := by unfold sgn; rw [if_pos h]
        omega
      omega
    · skip
      obtain ⟨hC, hSA, hSC⟩ := HC.out
      have hlt : a.val * (d.X : Int) < c.val * (b.X : Int) := by
        rw [← hC] at hC0
        have h9 : a.val * (d.X : Int) - c.val * (b.X : Int) < 0 := by
          unfold sgn at hC0
          split at hC0
          · assumption
          · split at hC0 <;> omega
        omega
      have HL := hide' hlt
      clear hlt hC hSA hSC
      go_upto_region 4 with fail
      have q6_0 := q6.cell 0
      have q6_1 := q6.cell 1
      have q6_2 := q6.cell 2
      have q6_3 := q6.cell 3
      simp only [List.getElem?_toArray, List.getElem?_cons_zero, List.getElem?_cons_succ] at q6_0 q6_1 q6_2 q6_3
      go_wp2_with fail
      clear q6_0 q6_1 q6_2 q6_3
      refine (GS0.out _ ha.1).mono ?_
      rintro e w3 ⟨rfl, b1⟩
      have bb := b1
      replace qr := qr.later bb
      replace ha := ha.later bb
      replace hb := hb.later bb
      replace hc := hc.later bb
      replace hd := hd.later bb
      replace q6 := q6.later bb
      replace q7 := q7.later bb
      replace bel := bel.trans (bb.mono bel.size)
      clear bb
      clear b1
      clear GS0
      by_cases hA0 : 0 ≤ SA
      · skip
        have HA0 := hide' (show 0 ≤ a.val by
          obtain ⟨_, hSA, _⟩ := HC.out
          rw [← hSA] at hA0
          rcases Int.lt_or_le a.val 0 with h | h
          · have h8 : sgn a.val = -1 := by unfold sgn; rw [if_pos h]
            omega
          · exact h)
        go_upto_region 5 with fail
        have q6_0 := q6.cell 0
        have q6_1 := q6.cell 1
        have q6_2 := q6.cell 2
        have q6_3 := q6.cell 3
        have q7_0 := q7.cell 0
        have q7_1 := q7.cell 1
        have q7_2 := q7.cell 2
        have q7_3 := q7.cell 3
        simp only [List.getElem?_toArray, List.getElem?_cons_zero, List.getElem?_cons_succ] at q6_0 q6_1 q6_2 q6_3 q7_0 q7_1 q7_2 q7_3
        go_wp2_with fail
        clear q6_0 q6_1 q6_2 q6_3 q7_0 q7_1 q7_2 q7_3
        refine (between_is a b c d _).mono ?_
        rintro e w4 ⟨cL, cH, rfl, qL, qH, b1⟩
        have bb := b1
        replace qr := qr.later bb
        replace ha := ha.later bb
        replace hb := hb.later bb
        replace hc := hc.later bb
        replace hd := hd.later bb
        replace q6 := q6.later bb
        replace q7 := q7.later bb
        replace bel := bel.trans (bb.mono bel.size)
        clear bb
        clear b1
        have hSb := hide' (show Sb a.val b.X c.val d.X from ⟨HA0.out, by omega, by
          have h1 := HL.out
          have h2 := Int.mul_nonneg HA0.out (show (0 : Int) ≤ d.X by omega)
          by_cases h3 : 0 < c.val
          · exact h3
          · have h4 : c.val * (b.X : Int) ≤ 0 * (b.X : Int) := Int.mul_le_mul_of_nonneg_right (by omega) (by omega)
            omega, by omega, HL.out⟩)
        go_wp2_with fail
        refine (svalue _ cL cH a b c d qL qH ha hb hc hd hSb.out ⟨za, zb, zc, zd⟩).mono ?_
        rintro e w5 ⟨P, Q, pa, pb, hSt, hg, hPb, hQb, rfl, b1, kP, kQ⟩
        have bb := b1
        replace qr := qr.later bb
        replace ha := ha.later bb
        replace hb := hb.later bb
        replace hc := hc.later bb
        replace hd := hd.later bb
        replace q6 := q6.later bb
        replace q7 := q7.later bb
        replace qL := qL.later bb
        replace qH := qH.later bb
        replace bel := bel.trans (bb.mono bel.size)
        clear bb
        clear b1
        clear qL qH
        have HF := hide' (And.intro hSt (And.intro hg (And.intro (nv_bd ha hc za zc hPb) (nv_bd hb hd zb zd hQb))))
        clear hSt hg hPb hQb
        have qr_0 := qr.cell 0
        have qr_1 := qr.cell 1
        have qr_2 := qr.cell 2
        simp only [List.getElem?_toArray, List.getElem?_cons_zero, List.getElem?_cons_succ] at qr_0 qr_1 qr_2
        have fz := fun o => qr.frozen o
        go_wp2
        obtain ⟨c9, q9⟩ := qr.set3 (.bool (ng P)) (.slice pa (ln (am P)) (ln (am P))) (.slice pb (ln Q) (ln Q))
        have hno := qr.no (by simp)
        replace ha := ha.ch c9 hno
        replace hb := hb.ch c9 hno
        replace hc := hc.ch c9 hno
        replace hd := hd.ch c9 hno
        replace q6 := q6.ch c9 (by omega)
        replace q7 := q7.ch c9 (by omega)
        replace kP := kP.ch c9 hno
        replace kQ := kQ.ch c9 hno
        replace bel := bel.trans (c9.below (by omega))
        clear qr_0 qr_1 qr_2
        clear fz hno
        replace qr := q9
        have qr_0 := qr.cell 0
        have qr_1 := qr.cell 1
        have qr_2 := qr.cell 2
        simp only [List.getElem?_toArray, List.getElem?_cons_zero, List.getElem?_cons_succ] at qr_0 qr_1 qr_2
        refine bodyPost_ret (v := .tuple #[.agg #[.bool (ng P), .slice pa (ln (am P)) (ln (am P)), .slice pb (ln Q) (ln Q)], .int .i64 0]) (by rw [results_ct rfl]; go_simp) rfl ?_
        obtain ⟨va, vb, vc, vd⟩ := HV.out
        rw [← va, ← vc, ← vb, ← vd]
        obtain ⟨hSt, hg, h1, h2⟩ := HF.out
        exact Or.inr ⟨HL.out, P, Q, pa, pb, hSt.si HA0.out (by omega), hg, h1, h2, rfl, bel, kP, kQ⟩
      · skip
        have HA1 := hide' (show a.val < 0 by
          obtain ⟨_, hSA, _⟩ := HC.out
          rw [← hSA] at hA0
          rcases Int.lt_or_le a.val 0 with h | h
          · exact h
          · exfalso
            apply hA0
            unfold sgn
            rw [if_neg (by omega)]
            split <;> omega)
        go_upto_region 6 with fail
        have q7_0 := q7.cell 0
        have q7_1 := q7.cell 1
        have q7_2 := q7.cell 2
        have q7_3 := q7.cell 3
        simp only [List.getElem?_toArray, List.getElem?_cons_zero, List.getElem?_cons_succ] at q7_0 q7_1 q7_2 q7_3
        go_wp2_with fail
        clear q7_0 q7_1 q7_2 q7_3
        refine (GS1.out _ hc.1).mono ?_
        rintro e w6 ⟨rfl, b1⟩
        have bb := b1
        replace qr := qr.later bb
        replace ha := ha.later bb
        replace hb := hb.later bb
        replace hc := hc.later bb
        replace hd := hd.later bb
        replace q6 := q6.later bb
        replace q7 := q7.later bb
        replace bel := bel.trans (bb.mono bel.size)
        clear bb
        clear b1
        clear GS1
        by_cases hC1 : 0 < SC
        · skip
          have HC1 := hide' (show 0 < c.val by
            obtain ⟨_, _, hSC⟩ := HC.out
            rw [← hSC] at hC1
            unfold sgn at hC1
            split at hC1
            · omega
            · split at hC1 <;> omega)
          go_upto_region 7 with fail
          go_wp2_with fail
          obtain ⟨O, hO⟩ : ∃ O : Int, O = 0 := ⟨_, rfl⟩
          have GW : Hid (∀ w', Calls Tryz.prog 27 #[.int .i64 0] w' fun e w'' => ∃ p q, e = .returned (.agg #[.bool (ng O), .slice p (ln (am O)) (ln (am O)), .slice q (ln 1) (ln 1)]) ∧ New w' w'' p (am O) (ln (am O)) ∧ New w' w'' q 1 (ln 1)) := fun w' => by rw [hO]; exact qWhole_is 0 w' (by omega) (by omega)
          replace hO := hide' hO
          refine (GW.out _).mono ?_
          rintro e w7 ⟨pa, pb, rfl, n1, n2⟩
          have bb := n1.below
          replace qr := qr.later bb
          replace ha := ha.later bb
          replace hb := hb.later bb
          replace hc := hc.later bb
          replace hd := hd.later bb
          replace q6 := q6.later bb
          replace q7 := q7.later bb
          replace bel := bel.trans (bb.mono bel.size)
          clear bb
          have kP := n1.seg
          have kQ := n2.seg
          clear n1 n2
          have qr_0 := qr.cell 0
          have qr_1 := qr.cell 1
          have qr_2 := qr.cell 2
          simp only [List.getElem?_toArray, List.getElem?_cons_zero, List.getElem?_cons_succ] at qr_0 qr_1 qr_2
          have fz := fun o => qr.frozen o
          go_wp2
          obtain ⟨c9, q9⟩ := qr.set3 (.bool (ng O)) (.slice pa (ln (am O)) (ln (am O))) (.slice pb (ln 1) (ln 1))
          have hno := qr.no (by simp)
          replace ha := ha.ch c9 hno
          replace hb := hb.ch c9 hno
          replace hc := hc.ch c9 hno
          replace hd := hd.ch c9 hno
          replace q6 := q6.ch c9 (by omega)
          replace q7 := q7.ch c9 (by omega)
          replace kP := kP.ch c9 hno
          replace kQ := kQ.ch c9 hno
          replace bel := bel.trans (c9.below (by omega))
          clear qr_0 qr_1 qr_2
          clear fz hno
          replace qr := q9
          have qr_0 := qr.cell 0
          have qr_1 := qr.cell 1
          have qr_2 := qr.cell 2
          simp only [List.getElem?_toArray, List.getElem?_cons_zero, List.getElem?_cons_succ] at qr_0 qr_1 qr_2
          refine bodyPost_ret (v := .tuple #[.agg #[.bool (ng O), .slice pa (ln (am O)) (ln (am O)), .slice pb (ln 1) (ln 1)], .int .i64 0]) (by rw [results_ct rfl]; go_simp) rfl ?_
          obtain ⟨va, vb, vc, vd⟩ := HV.out
          rw [← va, ← vc, ← vb, ← vd]
          have h0 := hO.out
          refine Or.inr ⟨HL.out, O, 1, pa, pb, ?_, ?_, ?_, ?_, rfl, bel, kP, kQ⟩
          · rw [h0]; exact Si.zero HA1.out HC1.out
          · rw [h0]; rfl
          · rw [h0, show am 0 = 0 from rfl, ln_zero]; omega
          · rw [ln_one]; omega
        · skip
          have HC1 := hide' (show c.val ≤ 0 by
            obtain ⟨_, _, hSC⟩ := HC.out
            rw [← hSC] at hC1
            rcases Int.lt_or_le 0 c.val with h | h
            · exfalso
              apply hC1
              unfold sgn
              rw [if_neg (by omega), if_neg (by omega)]
              omega
            · exact h)
          have hSb := hide' (show Sb c.neg.val d.X a.neg.val b.X from by
            have h1 := HL.out
            have h2 := HC1.out
            have h3 := HA1.out
            rw [NV.neg_val, NV.neg_val]
            refine ⟨by omega, by omega, by omega, by omega, ?_⟩
            rw [Int.neg_mul, Int.neg_mul]
            omega)
          have hnc : c.neg.n ≤ 35184372087808 := zc
          have hna : a.neg.n ≤ 35184372087808 := za
          go_upto_region 8 with fail
          have hcn : ∀ W, c.ok W → c.neg.ok W := fun W h => h
          have han : ∀ W, a.ok W → a.neg.ok W := fun W h => h
          replace hcn := hide' hcn
          replace han := hide' han
          have q6_0 := q6.cell 0
          have q6_1 := q6.cell 1
          have q6_2 := q6.cell 2
          have q6_3 := q6.cell 3
          have q7_0 := q7.cell 0
          have q7_1 := q7.cell 1
          have q7_2 := q7.cell 2
          have q7_3 := q7.cell 3
          simp only [List.getElem?_toArray, List.getElem?_cons_zero, List.getElem?_cons_succ] at q6_0 q6_1 q6_2 q6_3 q7_0 q7_1 q7_2 q7_3
          have bD : Below w6.heap.size w6 w6.drew := (Below.refl _ _).drew
          have kq6_0 := below_cell bD q6_0
          have kq6_1 := below_cell bD q6_1
          have kq6_2 := below_cell bD q6_2
          have kq6_3 := below_cell bD q6_3
          have kq7_0 := below_cell bD q7_0
          have kq7_1 := below_cell bD q7_1
          have kq7_2 := below_cell bD q7_2
          have kq7_3 := below_cell bD q7_3
          replace bel := bel.trans (bD.mono bel.size)
          replace qr := qr.later bD
          replace ha := ha.later bD
          replace hb := hb.later bD
          replace hc := hc.later bD
          replace hd := hd.later bD
          replace q6 := q6.later bD
          replace q7 := q7.later bD
          refine wp_region_held_drew (S := fun w' => w'.cell? ⟨c6, 0, none⟩ = some (.bool a.s) ∧ w'.cell? ⟨c6, 1, none⟩ = some (.slice a.a a.n a.c) ∧ w'.cell? ⟨c6, 2, none⟩ = some (.bool false) ∧ w'.cell? ⟨c6, 3, none⟩ = some (.slice b.a b.n b.c) ∧ w'.cell? ⟨c7, 0, none⟩ = some (.bool c.s) ∧ w'.cell? ⟨c7, 1, none⟩ = some (.slice c.a c.n c.c) ∧ w'.cell? ⟨c7, 2, none⟩ = some (.bool false) ∧ w'.cell? ⟨c7, 3, none⟩ = some (.slice d.a d.n d.c)) (by kernel_rfl) ⟨kq6_0, kq6_1, kq6_2, kq6_3, kq7_0, kq7_1, kq7_2, kq7_3⟩ (fun hHeld => ?_)
          clear kq6_0 kq6_1 kq6_2 kq6_3 kq7_0 kq7_1 kq7_2 kq7_3
          generalize w6.drew = w0M at bD qr ha hb hc hd q6 q7 bel hHeld ⊢
          clear bD q6_0 q6_1 q6_2 q6_3 q7_0 q7_1 q7_2 q7_3
          refine tk 0 (v := ?_) rfl (Or.inl ⟨by rfl, ?_⟩) ?_
          rotate_left
          · intro w9 hSw
            go_simp
            first | done | with_reducible rfl
          simp only [pP, pN, pS, pZ, pC]
          refine tk 2 (v := ?_) rfl (Or.inl ⟨by rfl, ?_⟩) ?_
          rotate_left
          · intro w9 hSw
            go_simp
            first | done | with_reducible rfl
          simp only [pP, pN, pS, pZ, pC]
          refine wpAnyH_ready (rs := [1]) (by kernel_rfl) (by simp) ?_
          refine cons' rfl (fun KK hKK => ?_)
          go_simp
          refine (opposite_is c.s c.a c.n c.c false d.a d.n d.c _).mono ?_
          rintro e w8 ⟨rfl, b1⟩
          have bC := b1
          replace bel := bel.trans (bC.mono bel.size)
          replace qr := qr.later bC
          replace ha := ha.later bC
          replace hb := hb.later bC
          replace hc := hc.later bC
          replace hd := hd.later bC
          replace q6 := q6.later bC
          replace q7 := q7.later bC
          replace hHeld := (⟨below_cell bC hHeld.1, below_cell bC hHeld.2.1, below_cell bC hHeld.2.2.1, below_cell bC hHeld.2.2.2.1, below_cell bC hHeld.2.2.2.2.1, below_cell bC hHeld.2.2.2.2.2.1, below_cell bC hHeld.2.2.2.2.2.2.1, below_cell bC hHeld.2.2.2.2.2.2.2⟩ : _ ∧ _ ∧ _ ∧ _ ∧ _ ∧ _ ∧ _ ∧ _)
          clear bC
          go_wp2_with fail
          clear b1
          refine hKK.out _ _ hHeld ?_
          clear hHeld
          intro hHeld
          clear hKK KK
          try simp only [pP, pN, pS, pZ, pC]
          refine wpAnyH_ready (rs := [3]) (by kernel_rfl) (by simp) ?_
          refine cons' rfl (fun KK hKK => ?_)
          go_simp
          refine (opposite_is a.s a.a a.n a.c false b.a b.n b.c _).mono ?_
          rintro e w9 ⟨rfl, b1⟩
          have bC := b1
          replace bel := bel.trans (bC.mono bel.size)
          replace qr := qr.later bC
          replace ha := ha.later bC
          replace hb := hb.later bC
          replace hc := hc.later bC
          replace hd := hd.later bC
          replace q6 := q6.later bC
          replace q7 := q7.later bC
          replace hHeld := (⟨below_cell bC hHeld.1, below_cell bC hHeld.2.1, below_cell bC hHeld.2.2.1, below_cell bC hHeld.2.2.2.1, below_cell bC hHeld.2.2.2.2.1, below_cell bC hHeld.2.2.2.2.2.1, below_cell bC hHeld.2.2.2.2.2.2.1, below_cell bC hHeld.2.2.2.2.2.2.2⟩ : _ ∧ _ ∧ _ ∧ _ ∧ _ ∧ _ ∧ _ ∧ _)
          clear bC
          go_wp2_with fail
          clear b1
          refine hKK.out _ _ hHeld ?_
          clear hHeld
          intro hHeld
          clear hKK KK
          try simp only [pP, pN, pS, pZ, pC]
          refine wpAnyH_ready (rs := [4]) (by kernel_rfl) (by simp) ?_
          refine cons' rfl (fun KK hKK => ?_)
          go_simp
          refine (between_is c.neg d a.neg b _).mono ?_
          rintro e w10 ⟨cL, cH, rfl, qL, qH, b1⟩
          have bC := b1
          replace bel := bel.trans (bC.mono bel.size)
          replace qr := qr.later bC
          replace ha := ha.later bC
          replace hb := hb.later bC
          replace hc := hc.later bC
          replace hd := hd.later bC
          replace q6 := q6.later bC
          replace q7 := q7.later bC
          replace hHeld := (⟨below_cell bC hHeld.1, below_cell bC hHeld.2.1, below_cell bC hHeld.2.2.1, below_cell bC hHeld.2.2.2.1, below_cell bC hHeld.2.2.2.2.1, below_cell bC hHeld.2.2.2.2.2.1, below_cell bC hHeld.2.2.2.2.2.2.1, below_cell bC hHeld.2.2.2.2.2.2.2⟩ : _ ∧ _ ∧ _ ∧ _ ∧ _ ∧ _ ∧ _ ∧ _)
          clear bC
          go_wp2_with fail
          clear b1
          refine hKK.out _ _ hHeld ?_
          clear hHeld
          intro hHeld
          clear hKK KK
          try simp only [pP, pN, pS, pZ, pC]
          refine wpAnyH_ready (rs := [5]) (by kernel_rfl) (by simp) ?_
          refine cons' rfl (fun KK hKK => ?_)
          go_simp
          refine (svalue _ cL cH c.neg d a.neg b qL qH (hcn.out _ hc) hd (han.out _ ha) hb hSb.out ⟨hnc, zd, hna, zb⟩).mono ?_
          rintro e w11 ⟨P, Q, pa, pb, hSt, hg, hPb, hQb, rfl, b1, kP, kQ⟩
          have bC := b1
          replace bel := bel.trans (bC.mono bel.size)
          replace qr := qr.later bC
          replace ha := ha.later bC
          replace hb := hb.later bC
          replace hc := hc.later bC
          replace hd := hd.later bC
          replace q6 := q6.later bC
          replace q7 := q7.later bC
          replace qL := qL.later bC
          replace qH := qH.later bC
          replace hHeld := (⟨below_cell bC hHeld.1, below_cell bC hHeld.2.1, below_cell bC hHeld.2.2.1, below_cell bC hHeld.2.2.2.1, below_cell bC hHeld.2.2.2.2.1, below_cell bC hHeld.2.2.2.2.2.1, below_cell bC hHeld.2.2.2.2.2.2.1, below_cell bC hHeld.2.2.2.2.2.2.2⟩ : _ ∧ _ ∧ _ ∧ _ ∧ _ ∧ _ ∧ _ ∧ _)
          clear bC
          go_wp2_with fail
          clear b1
          refine hKK.out _ _ hHeld ?_
          clear hHeld
          intro hHeld
          clear hKK KK
          try simp only [pP, pN, pS, pZ, pC]
          obtain ⟨M, hM⟩ : ∃ M, -P = M := ⟨_, rfl⟩
          have hQ0 : 0 < Q := by have := hSt.q0; omega
          have lP : ln (am P) ≤ 35184372087809 := nv_bd (x := c.neg) (y := a.neg) (hcn.out _ hc) (han.out _ ha) hnc hna hPb
          have lQ : ln Q ≤ 35184372087809 := nv_bd hd hb zd zb hQb
          have HF := hide' (And.intro hSt (And.intro hg hM))
          have GN := hide' (fun w' k1 k2 => qNeg_is (ng P) pa (ln (am P)) (ln (am P)) (am P) pb (ln Q) (ln Q) Q M Q w' (Nat.le_refl _) (by omega) k1 (Nat.le_refl _) (by omega) k2 (by rw [rn_nf hQ0, rd_nf hQ0, hM]; exact ⟨by omega, hQ0, rfl, by rw [← hM, am_neg]; exact hg⟩))
          clear hSt hg hPb hQb hM
          refine wpAnyH_ready (rs := [6]) (by kernel_rfl) (by simp) ?_
          refine cons' rfl (fun KK hKK => ?_)
          go_simp
          refine (GN.out _ kP kQ).mono ?_
          rintro e w12 ⟨pc, pd, rfl, n1, n2⟩
          have bC := n1.below
          replace bel := bel.trans (bC.mono bel.size)
          replace qr := qr.later bC
          replace ha := ha.later bC
          replace hb := hb.later bC
          replace hc := hc.later bC
          replace hd := hd.later bC
          replace q6 := q6.later bC
          replace q7 := q7.later bC
          replace qL := qL.later bC
          replace qH := qH.later bC
          replace kP := kP.later bC
          replace kQ := kQ.later bC
          replace hHeld := (⟨below_cell bC hHeld.1, below_cell bC hHeld.2.1, below_cell bC hHeld.2.2.1, below_cell bC hHeld.2.2.2.1, below_cell bC hHeld.2.2.2.2.1, below_cell bC hHeld.2.2.2.2.2.1, below_cell bC hHeld.2.2.2.2.2.2.1, below_cell bC hHeld.2.2.2.2.2.2.2⟩ : _ ∧ _ ∧ _ ∧ _ ∧ _ ∧ _ ∧ _ ∧ _)
          clear bC
          go_wp2_with fail
          have kM := n1.seg
          have kN := n2.seg
          clear n1 n2
          refine hKK.out _ _ hHeld ?_
          clear hHeld
          intro hHeld
          clear hKK KK
          try simp only [pP, pN, pS, pZ, pC]
          clear qL qH kP kQ GN
          refine wpAnyH_ready (rs := [7]) (by kernel_rfl) (by simp) ?_
          refine cons' rfl (fun KK hKK => ?_)
          have z0 := qr.cell 0
          have z1 := qr.cell 1
          have z2 := qr.cell 2
          simp only [List.getElem?_toArray, List.getElem?_cons_zero, List.getElem?_cons_succ] at z0 z1 z2
          have fz := fun o => qr.frozen o
          obtain ⟨c9, q9⟩ := qr.set3 (.bool (ng M)) (.slice pc (ln (am M)) (ln (am M))) (.slice pd (ln Q) (ln Q))
          have hno := qr.no (by simp)
          replace ha := ha.ch c9 hno
          replace hb := hb.ch c9 hno
          replace hc := hc.ch c9 hno
          replace hd := hd.ch c9 hno
          replace q6 := q6.ch c9 (by omega)
          replace q7 := q7.ch c9 (by omega)
          replace kM := kM.ch c9 hno
          replace kN := kN.ch c9 hno
          replace bel := bel.trans (c9.below (by omega))
          have hH2 := (⟨(World.cell?_of_block (w := w12) (a := ⟨c6, 0, none⟩) (c9.other (c6) (by omega))).trans hHeld.1, (World.cell?_of_block (w := w12) (a := ⟨c6, 1, none⟩) (c9.other (c6) (by omega))).trans hHeld.2.1, (World.cell?_of_block (w := w12) (a := ⟨c6, 2, none⟩) (c9.other (c6) (by omega))).trans hHeld.2.2.1, (World.cell?_of_block (w := w12) (a := ⟨c6, 3, none⟩) (c9.other (c6) (by omega))).trans hHeld.2.2.2.1, (World.cell?_of_block (w := w12) (a := ⟨c7, 0, none⟩) (c9.other (c7) (by omega))).trans hHeld.2.2.2.2.1, (World.cell?_of_block (w := w12) (a := ⟨c7, 1, none⟩) (c9.other (c7) (by omega))).trans hHeld.2.2.2.2.2.1, (World.cell?_of_block (w := w12) (a := ⟨c7, 2, none⟩) (c9.other (c7) (by omega))).trans hHeld.2.2.2.2.2.2.1, (World.cell?_of_block (w := w12) (a := ⟨c7, 3, none⟩) (c9.other (c7) (by omega))).trans hHeld.2.2.2.2.2.2.2⟩ : _ ∧ _ ∧ _ ∧ _ ∧ _ ∧ _ ∧ _ ∧ _)
          go_simp
          clear z0 z1 z2 fz hno c9
          replace qr := q9
          refine hKK.out _ _ hH2 ?_
          clear hHeld
          intro hHeld
          clear hKK KK
          try simp only [pP, pN, pS, pZ, pC]
          clear hH2
          generalize (((w12.setCell ⟨w.heap.size + 1 + 1, 0, none⟩ (.bool (ng M))).setCell ⟨w.heap.size + 1 + 1, 1, none⟩ (.slice pc (ln (am M)) (ln (am M)))).setCell ⟨w.heap.size + 1 + 1, 2, none⟩ (.slice pd (ln Q) (ln Q))) = w13 at bel qr ha hb hc hd q6 q7 kM kN hHeld ⊢
          refine tk 8 (v := ?_) rfl (Or.inl ⟨by rfl, ?_⟩) ?_
          rotate_left
          · intro w9 hSw
            go_simp
            first | done | with_reducible rfl
          simp only [pP, pN, pS, pZ, pC]
          refine wpAnyH_done (by kernel_rfl) ?_ _
          go_wp2
          have qr_0 := qr.cell 0
          have qr_1 := qr.cell 1
          have qr_2 := qr.cell 2
          simp only [List.getElem?_toArray, List.getElem?_cons_zero, List.getElem?_cons_succ] at qr_0 qr_1 qr_2
          refine bodyPost_ret (v := .tuple #[.agg #[.bool (ng M), .slice pc (ln (am M)) (ln (am M)), .slice pd (ln Q) (ln Q)], .int .i64 0]) (by rw [results_ct rfl]; go_simp) rfl ?_
          obtain ⟨va, vb, vc, vd⟩ := HV.out
          rw [← va, ← vc, ← vb, ← vd]
          obtain ⟨hSt, hg, hM⟩ := HF.out
          rw [NV.neg_val, NV.neg_val] at hSt
          have h2 := HC1.out
          refine Or.inr ⟨HL.out, M, Q, pc, pd, ?_, by rw [← hM, am_neg]; exact hg, by rw [← hM, am_neg]; exact lP, lQ, rfl, bel, kM, kN⟩
          rw [← hM]
          exact (hSt.si (by omega) (by omega)).neg
end Go.Proofs.YtejlnodillnoaaaGreatDoor
