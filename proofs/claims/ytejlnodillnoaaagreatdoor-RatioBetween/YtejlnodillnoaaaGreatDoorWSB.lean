import Derived.Test.YtejlnodillnoaaaGreatDoorWJ7
import Derived.Test.YtejlnodillnoaaaGreatDoorWIA
import Derived.Test.YtejlnodillnoaaaGreatDoorWQ2
import Derived.Test.YtejlnodillnoaaaGreatDoorRegS
import Derived.Test.YtejlnodillnoaaaGreatDoorNumN2
set_option linter.unusedSimpArgs false
namespace Go.Proofs.YtejlnodillnoaaaGreatDoor
open Go.RowKit Go.Shelf
set_option linter.unusedVariables false
attribute [local go_sem] Oper.semAt_some
structure NV where
  s : Bool
  a : Option Addr
  n : Nat
  c : Nat
  X : Nat
def NV.val (x : NV) : Int := sg x.s x.X
def NV.ok (x : NV) (W : World) : Prop := Seg W x.a x.X x.n ∧ x.n ≤ x.c ∧ x.n ≤ 35184372088000
theorem NV.ok.later {x : NV} {W W' : World} (h : x.ok W) (hb : Below W.heap.size W W') : x.ok W' := ⟨h.1.later hb, h.2⟩
theorem NV.ok.ch {x : NV} {c : Nat} {W W' : World} (h : x.ok W) (k : Ch c W W') (hno : ∀ o i, W.cell? ⟨c, o, none⟩ ≠ some (.int .u32 i)) : x.ok W' := ⟨h.1.ch k hno, h.2⟩
structure KpB (base : Nat) (W W' : World) : Prop where
  blk : ∀ c cur t, base ≤ c → Blk W c cur t → Blk W' c cur t
  seg : ∀ a X n, Seg W a X n → Seg W' a X n
  size : W.heap.size ≤ W'.heap.size
theorem KpB.trans {base : Nat} {A B C : World} (h : KpB base A B) (k : KpB base B C) : KpB base A C := ⟨fun c cur t hc hb => k.blk c cur t hc (h.blk c cur t hc hb), fun a X n hs => k.seg a X n (h.seg a X n hs), Nat.le_trans h.size k.size⟩
theorem KpB.ok {base : Nat} {W W' : World} {x : NV} (h : KpB base W W') (k : x.ok W) : x.ok W' := ⟨h.seg _ _ _ k.1, k.2⟩
theorem Blk.set2s {c : Nat} {W : World} {u0 u1 : Value} {t : TypeId} (h : Blk W c #[u0, u1] t) (v0 v1 : Value) :
    Ch c W ((W.setCell ⟨c, 0, none⟩ v0).setCell ⟨c, 1, none⟩ v1) ∧ Blk ((W.setCell ⟨c, 0, none⟩ v0).setCell ⟨c, 1, none⟩ v1) c #[v0, v1] t := by
  refine ⟨(Ch.set v0).trans (Ch.set v1), ?_⟩
  simp [Blk, World.setCell, Array.getElem?_modify, show W.heap[c]? = _ from h]
theorem lnp {Z : Int} {X n : Nat} (h : am Z ≤ X + 1) (hX : X < BB ^ n) : ln (am Z) ≤ n + 1 := by
  refine ln_le_of_lt ?_
  rw [Nat.pow_succ]
  have h2 : BB ^ n * 2 ≤ BB ^ n * BB := Nat.mul_le_mul_left _ (by rw [BB_eq]; omega)
  have := BBp n
  omega
theorem fr_rest {V : Nat} {Zg : Int} (hV : V ≠ 0) (h : sgn Zg = 0 ∨ sgn Zg = sgn (sg false V)) (hlt : am Zg < V) : 0 ≤ Zg ∧ Zg < (V : Int) := by
  have h1 : sgn (sg false V) = 1 := by simp [sg, sgn, hV]
  have h2 : ¬ Zg < 0 := fun hn => by
    have h3 : sgn Zg = -1 := by simp [sgn, hn]
    rw [h1, h3] at h
    omega
  unfold am at hlt
  omega
theorem fr_step {A Zf Zg : Int} {Y : Nat} (hY : Y ≠ 0) (e : Zf * (Y : Int) + Zg = A) (h0 : 0 ≤ Zg) (h1 : Zg < Y) : A / (Y : Int) = Zf ∧ A % (Y : Int) = Zg := by
  have hd : (Y : Int) ≠ 0 := by omega
  subst e
  constructor
  · rw [Int.add_comm, Int.add_mul_ediv_right _ _ hd, Int.ediv_eq_zero_of_lt h0 h1, Int.zero_add]
  · rw [Int.add_comm, Int.add_mul_emod_self_right, Int.emod_eq_of_lt h0 h1]
theorem one_of (w : World) : Calls Tryz.prog 62 #[.int .i64 1] w fun e w' => ∃ p, e = .returned (.agg #[.bool false, .slice p 1 1]) ∧ New w w' p 1 1 := by
  have h := wOf_is 1 w (by omega) (by omega)
  rw [show ng 1 = false from rfl, show am 1 = 1 from rfl, ln_one] at h
  exact h
set_option maxRecDepth 100000 in
set_option maxHeartbeats 8000000 in
theorem between1_is (D : Nat) (r : Loop) (w : World) (cL cH : Nat) (a b c d : NV) (J : List NV → World → Prop) (L : List Int) (m : Nat)
    (hJb : ∀ s W W', J s W → Below W.heap.size W W' → J s W') (hJc : ∀ s (W W' : World) e, J s W → w.heap.size ≤ e → Ch e W W' → (∀ o i, W.cell? ⟨e, o, none⟩ ≠ some (.int .u32 i)) → J s W')
    (hqL : Blk w cL #[.bool a.s, .slice a.a a.n a.c, .bool false, .slice b.a b.n b.c] 43) (hqH : Blk w cH #[.bool c.s, .slice c.a c.n c.c, .bool false, .slice d.a d.n d.c] 43) (ha : a.ok w) (hb : b.ok w) (hc : c.ok w) (hd : d.ok w) (hSb : Sb a.val b.X c.val d.X) (hm : sbm a.val b.X c.val d.X < m) (hL : sbl m a.val b.X c.val d.X = L) (hJ0 : J [] w) (hk : Bk D r w) (hsz : a.n ≤ 35184372087808 ∧ b.n ≤ 35184372087808 ∧ c.n ≤ 35184372087808 ∧ d.n ≤ 35184372087808)
    (hY : ∀ s x W, Bk D r W → J s W → x.ok W → (∃ rest, s.map NV.val ++ x.val :: rest = L) → YieldAt Fence.wide 1 Tryz.prog (D + 1) #[.agg #[.bool x.s, .slice x.a x.n x.c]] W fun e W' => e = .returned (.bool true) ∧ Bk D r W' ∧ J (s ++ [x]) W' ∧ KpB w.heap.size W W') :
    CallsIn Fence.wide 2 Tryz.prog 65 #[.func (.yield (D + 1)) #[] #[], .pointer (some ⟨cL, 0, none⟩), .pointer (some ⟨cH, 0, none⟩)] w fun e W' => (∃ v, e = .returned v) ∧ Bk D r W' ∧ ∃ s, s.map NV.val = L ∧ J s W' := by
  have HY := hide' hY
  have HJB := hide' hJb
  have HJC := hide' hJc
  have HS := hide' (And.intro hSb (And.intro hm (And.intro hsz hL)))
  clear hY hJb hJc hSb hm hL hsz
  refine callsIn_wide.2 ?_
  go_enter Tryz.func65, Tryz.ntmps65
  go_upto_region 0 with fail
  have lL := hqL.lt
  have lH := hqH.lt
  have bel : Below w.heap.size w w := Below.refl _ _
  have hbs := bel.size
  have bT : Below w.heap.size w w := Below.refl _ _
  go_cut [4, 5] from 11 to 12 (fun s4_ s5_ wx => ∃ wh9 b4 b5, wh9 = wx ∧ s4_ = .pointer (some ⟨b4, 0, none⟩) ∧ s5_ = .pointer (some ⟨b5, 0, none⟩) ∧ w.heap.size ≤ b4 ∧ w.heap.size ≤ b5 ∧ b4 ≠ b5 ∧ Blk wx b4 #[.bool a.s, .slice a.a a.n a.c, .bool false, .slice b.a b.n b.c] 43 ∧ Blk wx b5 #[.bool c.s, .slice c.a c.n c.c, .bool false, .slice d.a d.n d.c] 43 ∧ a.ok wx ∧ b.ok wx ∧ c.ok wx ∧ d.ok wx ∧ J [] wx ∧ Bk D r wx ∧ Below w.heap.size w wx)
  case first =>
    have hqL_0 := hqL.cell 0
    have hqL_1 := hqL.cell 1
    have hqL_2 := hqL.cell 2
    have hqL_3 := hqL.cell 3
    have hqH_0 := hqH.cell 0
    have hqH_1 := hqH.cell 1
    have hqH_2 := hqH.cell 2
    have hqH_3 := hqH.cell 3
    simp only [List.getElem?_toArray, List.getElem?_cons_zero, List.getElem?_cons_succ] at hqL_0 hqL_1 hqL_2 hqL_3 hqH_0 hqH_1 hqH_2 hqH_3
    have bD : Below w.heap.size w w.drew := (Below.refl _ _).drew
    have khqL_0 := below_cell bD hqL_0
    have khqL_1 := below_cell bD hqL_1
    have khqL_2 := below_cell bD hqL_2
    have khqL_3 := below_cell bD hqL_3
    have khqH_0 := below_cell bD hqH_0
    have khqH_1 := below_cell bD hqH_1
    have khqH_2 := below_cell bD hqH_2
    have khqH_3 := below_cell bD hqH_3
    replace bT := bT.trans (bD.mono bT.size)
    replace hqL := hqL.later bD
    replace hqH := hqH.later bD
    replace ha := ha.later bD
    replace hb := hb.later bD
    replace hc := hc.later bD
    replace hd := hd.later bD
    refine wp_region_held_drew (S := fun w' => w'.cell? ⟨cL, 0, none⟩ = some (.bool a.s) ∧ w'.cell? ⟨cL, 1, none⟩ = some (.slice a.a a.n a.c) ∧ w'.cell? ⟨cL, 2, none⟩ = some (.bool false) ∧ w'.cell? ⟨cL, 3, none⟩ = some (.slice b.a b.n b.c) ∧ w'.cell? ⟨cH, 0, none⟩ = some (.bool c.s) ∧ w'.cell? ⟨cH, 1, none⟩ = some (.slice c.a c.n c.c) ∧ w'.cell? ⟨cH, 2, none⟩ = some (.bool false) ∧ w'.cell? ⟨cH, 3, none⟩ = some (.slice d.a d.n d.c)) (by kernel_rfl) ⟨khqL_0, khqL_1, khqL_2, khqL_3, khqH_0, khqH_1, khqH_2, khqH_3⟩ (fun hHeld => ?_)
    clear khqL_0 khqL_1 khqL_2 khqL_3 khqH_0 khqH_1 khqH_2 khqH_3
    generalize w.drew = w0F at bD hqL hqH ha hb hc hd bT hHeld ⊢
    clear bD hqL_0 hqL_1 hqL_2 hqL_3 hqH_0 hqH_1 hqH_2 hqH_3
    refine tk 0 (v := ?_) rfl (Or.inl ⟨by rfl, ?_⟩) ?_
    rotate_left
    · intro w9 hSw
      go_simp
      first | done | with_reducible rfl
    simp only [pP, pN, pS, pZ, pC]
    refine tk 1 (v := ?_) rfl (Or.inl ⟨by rfl, ?_⟩) ?_
    rotate_left
    · intro w9 hSw
      go_simp
      first | done | with_reducible rfl
    simp only [pP, pN, pS, pZ, pC]
    have hs0 := bT.size
    have bZ : Below w0F.heap.size w0F w0F := Below.refl _ _
    have bS := bT
    clear bT hqL hqH
    refine nameH w0F.heap.size (fun W1 W2 hb h => (⟨below_cell hb h.1, below_cell hb h.2.1, below_cell hb h.2.2.1, below_cell hb h.2.2.2.1, below_cell hb h.2.2.2.2.1, below_cell hb h.2.2.2.2.2.1, below_cell hb h.2.2.2.2.2.2.1, below_cell hb h.2.2.2.2.2.2.2⟩ : _ ∧ _ ∧ _ ∧ _ ∧ _ ∧ _ ∧ _ ∧ _)) (fun W1 W2 c hg hk h => (⟨cellsT hk (by omega) h.1, cellsT hk (by omega) h.2.1, cellsT hk (by omega) h.2.2.1, cellsT hk (by omega) h.2.2.2.1, cellsT hk (by omega) h.2.2.2.2.1, cellsT hk (by omega) h.2.2.2.2.2.1, cellsT hk (by omega) h.2.2.2.2.2.2.1, cellsT hk (by omega) h.2.2.2.2.2.2.2⟩ : _ ∧ _ ∧ _ ∧ _ ∧ _ ∧ _ ∧ _ ∧ _)) ?_
    intro G SS F hG hS0 hSB hSC hF
    replace hHeld := hS0 _ hHeld
    clear hS0
    obtain ⟨z0V, hz0V⟩ : ∃ z : Array Value, #[.bool false, .slice none 0 0, .bool false, .slice none 0 0] = z := ⟨_, rfl⟩
    have b0V : ∀ W : World, Below W.heap.size W (W.alloc (.cells z0V 43)) := fun W => below_alloc _
    have st0lh : ∀ (W : World) (cl ch : Nat), Vb w0F.heap.size z0V 43 W cl → Vb w0F.heap.size z0V 43 W ch → cl ≠ ch → Below w0F.heap.size w0F W → SS W → G 2 #[true, true, true, true, false, false] (F [(4, .pointer (some ⟨cl, 0, none⟩)), (5, .pointer (some ⟨ch, 0, none⟩))]) W := by
      intro W cl ch ql qh nlh bT hH
      rw [hF]
      simp only [List.foldl_cons, List.foldl_nil, List.setIfInBounds_toArray, List.set_cons_zero, List.set_cons_succ]
      refine (hG _ _ _ _).2 ?_
      obtain ⟨ql, gl⟩ := ql
      obtain ⟨qh, gh⟩ := qh
      subst hz0V
      replace ha := ha.later bT
      replace hb := hb.later bT
      replace hc := hc.later bT
      replace hd := hd.later bT
      have hJ := HJB.out _ _ _ hJ0 (bS.trans (bT.mono bS.size))
      have hK := hk.below (bS.trans (bT.mono bS.size))
      have hno1 := ql.no (by simp)
      have hno2 := qh.no (by simp)
      refine wpAnyH_ready (rs := [4]) (by kernel_rfl) (by simp) ?_
      refine cons' rfl (fun KK hKK => ?_)
      have z0 := ql.cell 0
      have z1 := ql.cell 1
      have z2 := ql.cell 2
      have z3 := ql.cell 3
      simp only [List.getElem?_toArray, List.getElem?_cons_zero, List.getElem?_cons_succ] at z0 z1 z2 z3
      have fz := fun o => ql.frozen o
      obtain ⟨c9, q9⟩ := ql.set4 (.bool a.s) (.slice a.a a.n a.c) (.bool false) (.slice b.a b.n b.c)
      have hno := ql.no (by simp)
      replace ha := ha.ch c9 hno
      replace hb := hb.ch c9 hno
      replace hc := hc.ch c9 hno
      replace hd := hd.ch c9 hno
      replace hJ := HJC.out _ _ _ _ hJ (Nat.le_trans hs0 gl) c9 hno
      replace hK := hK.ch c9 ql
      replace qh := qh.ch c9 (by omega)
      replace bT := bT.trans (c9.below gl)
      replace hH := hSC _ _ _ gl c9 hH
      go_simp
      clear z0 z1 z2 z3 fz hno c9 hno1 hno2
      replace ql := q9
      refine hKK.out _ _ hH ?_
      intro _
      clear hKK KK
      try simp only [pP, pN, pS, pZ, pC]
      generalize ((((W.setCell ⟨cl, 0, none⟩ (.bool a.s)).setCell ⟨cl, 1, none⟩ (.slice a.a a.n a.c)).setCell ⟨cl, 2, none⟩ (.bool false)).setCell ⟨cl, 3, none⟩ (.slice b.a b.n b.c)) = wLql at ha hb hc hd hJ hK ql qh bT hH ⊢
      refine wpAnyH_ready (rs := [5]) (by kernel_rfl) (by simp) ?_
      refine cons' rfl (fun KK hKK => ?_)
      have z0 := qh.cell 0
      have z1 := qh.cell 1
      have z2 := qh.cell 2
      have z3 := qh.cell 3
      simp only [List.getElem?_toArray, List.getElem?_cons_zero, List.getElem?_cons_succ] at z0 z1 z2 z3
      have fz := fun o => qh.frozen o
      obtain ⟨c9, q9⟩ := qh.set4 (.bool c.s) (.slice c.a c.n c.c) (.bool false) (.slice d.a d.n d.c)
      have hno := qh.no (by simp)
      replace ha := ha.ch c9 hno
      replace hb := hb.ch c9 hno
      replace hc := hc.ch c9 hno
      replace hd := hd.ch c9 hno
      replace hJ := HJC.out _ _ _ _ hJ (Nat.le_trans hs0 gh) c9 hno
      replace hK := hK.ch c9 qh
      replace ql := ql.ch c9 (by omega)
      replace bT := bT.trans (c9.below gh)
      replace hH := hSC _ _ _ gh c9 hH
      go_simp
      clear z0 z1 z2 z3 fz hno c9
      replace qh := q9
      refine hKK.out _ _ hH ?_
      intro _
      clear hKK KK
      try simp only [pP, pN, pS, pZ, pC]
      generalize ((((wLql.setCell ⟨ch, 0, none⟩ (.bool c.s)).setCell ⟨ch, 1, none⟩ (.slice c.a c.n c.c)).setCell ⟨ch, 2, none⟩ (.bool false)).setCell ⟨ch, 3, none⟩ (.slice d.a d.n d.c)) = wLqh at ha hb hc hd hJ hK ql qh bT hH ⊢
      refine wpAnyH_done (by kernel_rfl) ?_ _
      go_wp2_with fail
      go_meet
      exact ⟨_, cl, ch, rfl, rfl, rfl, Nat.le_trans hs0 gl, Nat.le_trans hs0 gh, nlh, ql, qh, ha, hb, hc, hd, hJ, hK, bS.trans (bT.mono bS.size)⟩
    have st0l : ∀ (W : World) (cl : Nat), Vb w0F.heap.size z0V 43 W cl → Below w0F.heap.size w0F W → SS W → G 3 #[true, true, true, false, false, false] (F [(4, .pointer (some ⟨cl, 0, none⟩))]) W := by
      intro W cl ql bT hH
      rw [hF]
      simp only [List.foldl_cons, List.foldl_nil, List.setIfInBounds_toArray, List.set_cons_zero, List.set_cons_succ]
      refine (hG _ _ _ _).2 ?_
      refine wpAnyH_ready (rs := [3]) (by kernel_rfl) (by simp) ?_
      refine consT rfl (fun KK hKK => ?_) ?_
      · go_simp
        try rw [hz0V]
        refine hKK.out _ _ (hSB _ _ (b0V W) hH) ?_
        intro _
        try simp only [pP, pN, pS, pZ, pC]
        exact (hG _ _ _ _).1 (Geq (by kernel_rfl) (by kernel_rfl) (by rw [hF]; kernel_rfl) (st0lh _ cl W.heap.size (ql.later (b0V W)) (Vb.new _ _ bT (Nat.le_refl _)) (Nat.ne_of_lt ql.1.lt) (blw bT (b0V W)) (hSB _ _ (b0V W) hH)))
      exact AllReadyH.nil
    have st0h : ∀ (W : World) (ch : Nat), Vb w0F.heap.size z0V 43 W ch → Below w0F.heap.size w0F W → SS W → G 3 #[true, true, false, true, false, false] (F [(5, .pointer (some ⟨ch, 0, none⟩))]) W := by
      intro W ch qh bT hH
      rw [hF]
      simp only [List.foldl_cons, List.foldl_nil, List.setIfInBounds_toArray, List.set_cons_zero, List.set_cons_succ]
      refine (hG _ _ _ _).2 ?_
      refine wpAnyH_ready (rs := [2]) (by kernel_rfl) (by simp) ?_
      refine consT rfl (fun KK hKK => ?_) ?_
      · go_simp
        try rw [hz0V]
        refine hKK.out _ _ (hSB _ _ (b0V W) hH) ?_
        intro _
        try simp only [pP, pN, pS, pZ, pC]
        exact (hG _ _ _ _).1 (Geq (by kernel_rfl) (by kernel_rfl) (by rw [hF]; kernel_rfl) (st0lh _ W.heap.size ch (Vb.new _ _ bT (Nat.le_refl _)) (qh.later (b0V W)) (Nat.ne_of_gt qh.1.lt) (blw bT (b0V W)) (hSB _ _ (b0V W) hH)))
      exact AllReadyH.nil
    have st0 : ∀ (W : World), Below w0F.heap.size w0F W → SS W → G 4 #[true, true, false, false, false, false] (F []) W := by
      intro W bT hH
      rw [hF]
      simp only [List.foldl_cons, List.foldl_nil, List.setIfInBounds_toArray, List.set_cons_zero, List.set_cons_succ]
      refine (hG _ _ _ _).2 ?_
      refine wpAnyH_ready (rs := [2, 3]) (by kernel_rfl) (by simp) ?_
      refine consT rfl (fun KK hKK => ?_) ?_
      · go_simp
        try rw [hz0V]
        refine hKK.out _ _ (hSB _ _ (b0V W) hH) ?_
        intro _
        try simp only [pP, pN, pS, pZ, pC]
        exact (hG _ _ _ _).1 (Geq (by kernel_rfl) (by kernel_rfl) (by rw [hF]; kernel_rfl) (st0l _ W.heap.size (Vb.new _ _ bT (Nat.le_refl _)) (blw bT (b0V W)) (hSB _ _ (b0V W) hH)))
      refine consT rfl (fun KK hKK => ?_) ?_
      · go_simp
        try rw [hz0V]
        refine hKK.out _ _ (hSB _ _ (b0V W) hH) ?_
        intro _
        try simp only [pP, pN, pS, pZ, pC]
        exact (hG _ _ _ _).1 (Geq (by kernel_rfl) (by kernel_rfl) (by rw [hF]; kernel_rfl) (st0h _ W.heap.size (Vb.new _ _ bT (Nat.le_refl _)) (blw bT (b0V W)) (hSB _ _ (b0V W) hH)))
      exact AllReadyH.nil
    exact Geq (by kernel_rfl) (by kernel_rfl) (by rw [hF]; kernel_rfl) (st0 _ bZ hHeld)
  case rest =>
    obtain ⟨wc1, b4, b5, hwv, rfl, rfl, g4, g5, n45, q4, q5, ha, hb, hc, hd, hJ, hK, bT⟩ := hcut
    subst hwv
    replace bel := bel.trans (bT.mono bel.size)
    clear bT
    obtain ⟨hSb, hm, hsz, hL⟩ := HS.out
    have I0 := hide' (And.intro q4 (And.intro q5 (And.intro ha (And.intro hb (And.intro hc (And.intro hd (And.intro hJ (And.intro hK (And.intro hSb (And.intro hm (And.intro hsz hL)))))))))))
    clear q4 q5 ha hb hc hd hJ hK hSb hm hL hsz HS hqL hqH hJ0 hk
    go_wp2_with fail
    go_loopg [] (sbm a.val b.X c.val d.X) (fun k wr => ∃ (s : List NV) (a b c d : NV), Blk wr b4 #[.bool a.s, .slice a.a a.n a.c, .bool false, .slice b.a b.n b.c] 43 ∧ Blk wr b5 #[.bool c.s, .slice c.a c.n c.c, .bool false, .slice d.a d.n d.c] 43 ∧ a.ok wr ∧ b.ok wr ∧ c.ok wr ∧ d.ok wr ∧ J s wr ∧ Bk D r wr ∧ Sb a.val b.X c.val d.X ∧ sbm a.val b.X c.val d.X = k ∧ (a.n ≤ 35184372087808 ∧ b.n ≤ 35184372087808 ∧ c.n ≤ 35184372087808 ∧ d.n ≤ 35184372087808) ∧ (∃ m, k < m ∧ s.map NV.val ++ sbl m a.val b.X c.val d.X = L))
    case atStart =>
      obtain ⟨q4, q5, ha, hb, hc, hd, hJ, hK, hSb, hm, hsz, hL⟩ := I0.out
      exact ⟨[], a, b, c, d, q4, q5, ha, hb, hc, hd, hJ, hK, hSb, rfl, hsz, m, hm, by rw [hL]; rfl⟩
    case round =>
      clear I0
      obtain ⟨s, a, b, c, d, q4, q5, ha, hb, hc, hd, hJ, hK, hSb, hgk, ⟨z1, z2, z3, z4⟩, m, hm, hL⟩ := hrel
      have hb0 : b.X ≠ 0 := by have := hSb.b0; omega
      obtain ⟨Zf, Zg, he, hsg, hlt, hle, hcall⟩ := floor_of a.s a.a a.n a.c a.X false b.a b.n b.c b.X ha.2.1 (by omega) hb.2.1 (by omega) hb0
      have hZg := fr_rest hb0 hsg hlt
      obtain ⟨hcd, hcm⟩ := fr_step (A := a.val) (Zf := Zf) (Zg := Zg) hb0 (by simpa [sg, NV.val] using he) hZg.1 hZg.2
      have hf0 : 0 ≤ Zf := by rw [← hcd]; exact Int.ediv_nonneg hSb.a0 (by omega)
      have lF : ln (am Zf) ≤ a.n + 1 := lnp hle ha.1.1
      obtain ⟨Zn, hZn⟩ : ∃ Z, Zf + 1 = Z := ⟨_, rfl⟩
      obtain ⟨Zm, hZm⟩ : ∃ Z, Zf * (d.X : Int) = Z := ⟨_, rfl⟩
      obtain ⟨Za, hZa⟩ : ∃ Z, c.val - Zm = Z := ⟨_, rfl⟩
      obtain ⟨C, hC⟩ : ∃ C, sgn (Zn * (d.X : Int) - c.val * ((1 : Nat) : Int)) = C := ⟨_, rfl⟩
      have lN : ln (am Zn) ≤ a.n + 3 := by have := lnp (Z := Zn) (X := am Zf) (by unfold am; omega) (Nat.lt_of_lt_of_le (ln_lt (am Zf)) (pow_mono lF)); omega
      have lM : ln (am Zm) ≤ a.n + d.n + 2 := by rw [← hZm, am_mul, am_nat]; have := ln_prod (Nat.lt_of_lt_of_le (ln_lt (am Zf)) (pow_mono lF)) hd.1.1; omega
      have GF := hide' hcall
      have GAd := hide' (fun w' p q (k1 : Seg w' p (am Zf) (ln (am Zf))) (k2 : Seg w' q 1 1) => wAdd_is (ng Zf) p (ln (am Zf)) (ln (am Zf)) (am Zf) false q 1 1 1 Zn w' (Nat.le_refl _) (by omega) k1 (by omega) (by omega) k2 (by rw [sg_na]; simpa [sg] using hZn))
      have GOr := hide' (fun w' p q k1 k2 k3 k4 => order_is (ng Zn) p (ln (am Zn)) (ln (am Zn)) (am Zn) q 1 1 1 c.s c.a c.n c.c c.X d.a d.n d.c d.X Zn c.val C w' (Nat.le_refl _) (by omega) k1 (by omega) (by omega) k2 hc.2.1 (by omega) k3 hd.2.1 (by omega) k4 (sg_na _) rfl hC)
      have GM := hide' (fun w' p (k1 : Seg w' p (am Zf) (ln (am Zf))) (k2 : Seg w' d.a d.X d.n) => wMul_is (ng Zf) p (ln (am Zf)) (ln (am Zf)) (am Zf) false d.a d.n d.c d.X Zm w' (Nat.le_refl _) (by omega) k1 hd.2.1 (by omega) k2 (by rw [sg_na]; simpa [sg] using hZm))
      have GSb := hide' (fun w' p (k1 : Seg w' c.a c.X c.n) (k2 : Seg w' p (am Zm) (ln (am Zm))) => wSub_is c.s c.a c.n c.c c.X (ng Zm) p (ln (am Zm)) (ln (am Zm)) (am Zm) Za w' hc.2.1 (by omega) k1 (Nat.le_refl _) (by omega) k2 (by rw [sg_na]; exact hZa))
      have HP := hide' (And.intro hSb (And.intro hgk (And.intro hm (And.intro hL (And.intro hcd (And.intro hcm (And.intro hZn (And.intro hZm (And.intro hZa (And.intro hC (And.intro hZg (And.intro hlt hb0))))))))))))
      clear hcall he hsg hlt hle hSb hgk hm hL hcd hcm hZn hZm hZa hC hZg hb0
      have hwr := q4.lt
      have hwr5 := q5.lt
      have bN : Below wr.heap.size wr wr := Below.refl _ _
      have q4_0 := q4.cell 0
      have q4_1 := q4.cell 1
      have q4_2 := q4.cell 2
      have q4_3 := q4.cell 3
      simp only [List.getElem?_toArray, List.getElem?_cons_zero, List.getElem?_cons_succ] at q4_0 q4_1 q4_2 q4_3
      go_wp2_with fail
      clear q4_0 q4_1 q4_2 q4_3
      refine (GF.out _ ha.1 hb.1).mono ?_
      rintro e wFl ⟨aq, ar, rfl, nq, nr⟩
      have bb := nq.below
      replace q4 := q4.later bb
      replace q5 := q5.later bb
      replace ha := ha.later bb
      replace hb := hb.later bb
      replace hc := hc.later bb
      replace hd := hd.later bb
      replace bN := bN.trans (bb.mono bN.size)
      clear bb
      have kq := nq.seg
      have kr := nr.seg
      clear nq nr
      have sz2 := bN.size
      have lqdq4 := q4.lt
      have lqdq5 := q5.lt
      have bb := below_alloc (w := wFl) (.cells #[.bool (ng Zf), .slice aq (ln (am Zf)) (ln (am Zf))] 25)
      replace q4 := q4.later bb
      replace q5 := q5.later bb
      replace ha := ha.later bb
      replace hb := hb.later bb
      replace hc := hc.later bb
      replace hd := hd.later bb
      replace kq := kq.later bb
      replace kr := kr.later bb
      replace bN := bN.trans (bb.mono bN.size)
      clear bb
      have qd := Blk.new wFl #[.bool (ng Zf), .slice aq (ln (am Zf)) (ln (am Zf))] 25
      have lqeq4 := q4.lt
      simp only [World.size_alloc] at lqeq4
      have lqeq5 := q5.lt
      simp only [World.size_alloc] at lqeq5
      have lqeqd := qd.lt
      simp only [World.size_alloc] at lqeqd
      have bb := below_alloc (w := (wFl.alloc (.cells #[.bool (ng Zf), .slice aq (ln (am Zf)) (ln (am Zf))] 25))) (.cells #[.bool (ng Zg), .slice ar (ln (am Zg)) (ln (am Zg))] 25)
      replace q4 := q4.later bb
      replace q5 := q5.later bb
      replace ha := ha.later bb
      replace hb := hb.later bb
      replace hc := hc.later bb
      replace hd := hd.later bb
      replace kq := kq.later bb
      replace kr := kr.later bb
      replace qd := qd.later bb
      replace bN := bN.trans (bb.mono bN.size)
      clear bb
      have qe := Blk.new (wFl.alloc (.cells #[.bool (ng Zf), .slice aq (ln (am Zf)) (ln (am Zf))] 25)) #[.bool (ng Zg), .slice ar (ln (am Zg)) (ln (am Zg))] 25
      simp only [World.size_alloc] at qe
      go_wp2_with fail
      obtain ⟨wA, hW⟩ : ∃ W, ((wFl.alloc (.cells #[.bool (ng Zf), .slice aq (ln (am Zf)) (ln (am Zf))] 25)).alloc (.cells #[.bool (ng Zg), .slice ar (ln (am Zg)) (ln (am Zg))] 25)) = W := ⟨_, rfl⟩
      rw [hW] at bN q4 q5 ha hb hc hd kq kr qd qe ⊢
      clear hW
      have hbs := bel.size
      have bT : Below wA.heap.size wA wA := Below.refl _ _
      go_cut [9] from 22 to 24 (fun s9_ wx => ∃ wh9 b9 p9, wh9 = wx ∧ s9_ = .pointer (some ⟨b9, 0, none⟩) ∧ wA.heap.size ≤ b9 ∧ Blk wx b9 #[.bool (ng Zn), .slice p9 (ln (am Zn)) (ln (am Zn))] 25 ∧ Seg wx p9 (am Zn) (ln (am Zn)) ∧ Below wA.heap.size wA wx)
      case first =>
        clear GF GOr GM GSb
        have qd_0 := qd.cell 0
        have qd_1 := qd.cell 1
        simp only [List.getElem?_toArray, List.getElem?_cons_zero, List.getElem?_cons_succ] at qd_0 qd_1
        have bD : Below wA.heap.size wA wA.drew := (Below.refl _ _).drew
        have kqd_0 := below_cell bD qd_0
        have kqd_1 := below_cell bD qd_1
        replace bT := bT.trans (bD.mono bT.size)
        replace q4 := q4.later bD
        replace q5 := q5.later bD
        replace ha := ha.later bD
        replace hb := hb.later bD
        replace hc := hc.later bD
        replace hd := hd.later bD
        replace kq := kq.later bD
        replace kr := kr.later bD
        replace qd := qd.later bD
        replace qe := qe.later bD
        refine wp_region_held_drew (S := fun w' => w'.cell? ⟨wFl.heap.size, 0, none⟩ = some (.bool (ng Zf)) ∧ w'.cell? ⟨wFl.heap.size, 1, none⟩ = some (.slice aq (ln (am Zf)) (ln (am Zf)))) (by kernel_rfl) ⟨kqd_0, kqd_1⟩ (fun hHeld => ?_)
        clear kqd_0 kqd_1
        generalize wA.drew = w0G at bD q4 q5 ha hb hc hd kq kr qd qe bT hHeld ⊢
        clear bD qd_0 qd_1
        refine tk 0 (v := ?_) rfl (Or.inl ⟨by rfl, ?_⟩) ?_
        rotate_left
        · intro w9 hSw
          go_simp
          first | done | with_reducible rfl
        simp only [pP, pN, pS, pZ, pC]
        obtain ⟨vd, hvd⟩ : ∃ v, Value.agg #[.bool (ng Zf), .slice aq (ln (am Zf)) (ln (am Zf))] = v := ⟨_, rfl⟩
        rw [hvd]
        have kq0 := kq
        obtain ⟨P0, hP0⟩ : ∃ P : World → Value → Prop, P = fun W v => ∃ p, v = .agg #[.bool false, .slice p 1 1] ∧ Seg W p 1 1 := ⟨_, rfl⟩
        have P0_b : ∀ {W W' : World} {v : Value}, Below W.heap.size W W' → P0 W v → P0 W' v := fun {W W' v} hb h => by
          rw [hP0] at h ⊢
          obtain ⟨p, e, k⟩ := h
          exact ⟨p, e, k.later hb⟩
        obtain ⟨P1, hP1⟩ : ∃ P : World → Value → Prop, P = fun W v => ∃ p, v = .agg #[.bool (ng Zn), .slice p (ln (am Zn)) (ln (am Zn))] ∧ Seg W p (am Zn) (ln (am Zn)) := ⟨_, rfl⟩
        have P1_b : ∀ {W W' : World} {v : Value}, Below W.heap.size W W' → P1 W v → P1 W' v := fun {W W' v} hb h => by
          rw [hP1] at h ⊢
          obtain ⟨p, e, k⟩ := h
          exact ⟨p, e, k.later hb⟩
        have GC0 : ∀ W' : World, Below w0G.heap.size w0G W' → Calls Tryz.prog 62 #[.int .i64 1] W' fun e w' => ∃ v, e = .returned v ∧ Below W'.heap.size W' w' ∧ P0 w' v := fun W' hb => by
          refine (one_of _).mono ?_
          rintro e W2 ⟨p, rfl, n1⟩
          exact ⟨_, rfl, n1.below, by rw [hP0]; exact ⟨p, rfl, n1.seg⟩⟩
        have GC1 : ∀ (W' : World) v, Below w0G.heap.size w0G W' → P0 W' v → Calls Tryz.prog 67 #[vd, v] W' fun e w' => ∃ v, e = .returned v ∧ Below W'.heap.size W' w' ∧ P1 w' v := fun W' v hb hp => by
          rw [hP0] at hp
          obtain ⟨q, rfl, kp⟩ := hp
          rw [← hvd]
          refine (GAd.out _ aq q (kq0.later hb) kp).mono ?_
          rintro e W2 ⟨p, rfl, n1⟩
          exact ⟨_, rfl, n1.below, by rw [hP1]; exact ⟨p, rfl, n1.seg⟩⟩
        have hs0 := bT.size
        have lqd := qd.lt
        have bZ : Below w0G.heap.size w0G w0G := Below.refl _ _
        have bS := bT
        clear bT
        refine nameH w0G.heap.size (fun W1 W2 hb h => (⟨below_cell hb h.1, below_cell hb h.2⟩ : _ ∧ _)) (fun W1 W2 c hg hk h => (⟨cellsT hk (by omega) h.1, cellsT hk (by omega) h.2⟩ : _ ∧ _)) ?_
        intro G SS F hG hS0 hSB hSC hF
        replace hHeld := hS0 _ hHeld
        clear hS0
        obtain ⟨z0V, hz0V⟩ : ∃ z : Array Value, #[.bool false, .slice none 0 0] = z := ⟨_, rfl⟩
        have b0V : ∀ W : World, Below W.heap.size W (W.alloc (.cells z0V 25)) := fun W => below_alloc _
        have st2n : ∀ (W : World) (v0 v1 : Value) (cn : Nat), P0 W v0 → P1 W v1 → Vb w0G.heap.size z0V 25 W cn → Below w0G.heap.size w0G W → SS W → G 1 #[true, true, true, true, false] (F [(23, v0), (24, v1), (9, .pointer (some ⟨cn, 0, none⟩))]) W := by
          intro W v0 v1 cn k0 k1 qn bT hH
          rw [hF]
          simp only [List.foldl_cons, List.foldl_nil, List.setIfInBounds_toArray, List.set_cons_zero, List.set_cons_succ]
          refine (hG _ _ _ _).2 ?_
          rw [hP1] at k1
          obtain ⟨p9, rfl, k1⟩ := k1
          obtain ⟨qn, gn⟩ := qn
          subst hvd hz0V
          refine wpAnyH_ready (rs := [4]) (by kernel_rfl) (by simp) ?_
          refine cons' rfl (fun KK hKK => ?_)
          have z0 := qn.cell 0
          have z1 := qn.cell 1
          simp only [List.getElem?_toArray, List.getElem?_cons_zero, List.getElem?_cons_succ] at z0 z1
          have fz := fun o => qn.frozen o
          obtain ⟨c9, q9⟩ := qn.set2s (.bool (ng Zn)) (.slice p9 (ln (am Zn)) (ln (am Zn)))
          have hno := qn.no (by simp)
          replace k1 := k1.ch c9 hno
          replace bT := bT.trans (c9.below gn)
          replace hH := hSC _ _ _ gn c9 hH
          go_simp
          clear z0 z1 fz hno c9
          refine hKK.out _ _ hH ?_
          intro _
          clear hKK KK
          try simp only [pP, pN, pS, pZ, pC]
          generalize ((W.setCell ⟨cn, 0, none⟩ (.bool (ng Zn))).setCell ⟨cn, 1, none⟩ (.slice p9 (ln (am Zn)) (ln (am Zn)))) = wL at k1 q9 bT hH ⊢
          refine wpAnyH_done (by kernel_rfl) ?_ _
          go_wp2_with fail
          go_meet
          exact ⟨_, cn, p9, rfl, rfl, Nat.le_trans hs0 gn, q9, k1, bS.trans (bT.mono bS.size)⟩
        have st2 : ∀ (W : World) (v0 v1 : Value), P0 W v0 → P1 W v1 → Below w0G.heap.size w0G W → SS W → G 2 #[true, true, true, false, false] (F [(23, v0), (24, v1)]) W := by
          intro W v0 v1 k0 k1 bT hH
          rw [hF]
          simp only [List.foldl_cons, List.foldl_nil, List.setIfInBounds_toArray, List.set_cons_zero, List.set_cons_succ]
          refine (hG _ _ _ _).2 ?_
          refine wpAnyH_ready (rs := [3]) (by kernel_rfl) (by simp) ?_
          refine consT rfl (fun KK hKK => ?_) ?_
          · go_simp
            try rw [hz0V]
            refine hKK.out _ _ (hSB _ _ (b0V W) hH) ?_
            intro _
            try simp only [pP, pN, pS, pZ, pC]
            exact (hG _ _ _ _).1 (Geq (by kernel_rfl) (by kernel_rfl) (by rw [hF]; kernel_rfl) (st2n _ v0 v1 W.heap.size (P0_b (b0V W) k0) (P1_b (b0V W) k1) (Vb.new _ _ bT (Nat.le_refl _)) (blw bT (b0V W)) (hSB _ _ (b0V W) hH)))
          exact AllReadyH.nil
        have st1n : ∀ (W : World) (v0 : Value) (cn : Nat), P0 W v0 → Vb w0G.heap.size z0V 25 W cn → Below w0G.heap.size w0G W → SS W → G 2 #[true, true, false, true, false] (F [(23, v0), (9, .pointer (some ⟨cn, 0, none⟩))]) W := by
          intro W v0 cn k0 qn bT hH
          rw [hF]
          simp only [List.foldl_cons, List.foldl_nil, List.setIfInBounds_toArray, List.set_cons_zero, List.set_cons_succ]
          refine (hG _ _ _ _).2 ?_
          refine wpAnyH_ready (rs := [2]) (by kernel_rfl) (by simp) ?_
          refine consT rfl (fun KK hKK => ?_) ?_
          · go_simp
            refine (GC1 _ _ bT k0).mono ?_
            rintro e W2 ⟨v1, rfl, bC, k1⟩
            go_wp2_with fail
            refine hKK.out _ _ (hSB _ _ bC hH) ?_
            intro _
            try simp only [pP, pN, pS, pZ, pC]
            exact (hG _ _ _ _).1 (Geq (by kernel_rfl) (by kernel_rfl) (by rw [hF]; kernel_rfl) (st2n W2 v0 v1 cn (P0_b bC k0) k1 (qn.later bC) (blw bT bC) (hSB _ _ bC hH)))
          exact AllReadyH.nil
        have st1 : ∀ (W : World) (v0 : Value), P0 W v0 → Below w0G.heap.size w0G W → SS W → G 3 #[true, true, false, false, false] (F [(23, v0)]) W := by
          intro W v0 k0 bT hH
          rw [hF]
          simp only [List.foldl_cons, List.foldl_nil, List.setIfInBounds_toArray, List.set_cons_zero, List.set_cons_succ]
          refine (hG _ _ _ _).2 ?_
          refine wpAnyH_ready (rs := [2, 3]) (by kernel_rfl) (by simp) ?_
          refine consT rfl (fun KK hKK => ?_) ?_
          · go_simp
            refine (GC1 _ _ bT k0).mono ?_
            rintro e W2 ⟨v1, rfl, bC, k1⟩
            go_wp2_with fail
            refine hKK.out _ _ (hSB _ _ bC hH) ?_
            intro _
            try simp only [pP, pN, pS, pZ, pC]
            exact (hG _ _ _ _).1 (Geq (by kernel_rfl) (by kernel_rfl) (by rw [hF]; kernel_rfl) (st2 W2 v0 v1 (P0_b bC k0) k1 (blw bT bC) (hSB _ _ bC hH)))
          refine consT rfl (fun KK hKK => ?_) ?_
          · go_simp
            try rw [hz0V]
            refine hKK.out _ _ (hSB _ _ (b0V W) hH) ?_
            intro _
            try simp only [pP, pN, pS, pZ, pC]
            exact (hG _ _ _ _).1 (Geq (by kernel_rfl) (by kernel_rfl) (by rw [hF]; kernel_rfl) (st1n _ v0 W.heap.size (P0_b (b0V W) k0) (Vb.new _ _ bT (Nat.le_refl _)) (blw bT (b0V W)) (hSB _ _ (b0V W) hH)))
          exact AllReadyH.nil
        have st0n : ∀ (W : World) (cn : Nat), Vb w0G.heap.size z0V 25 W cn → Below w0G.heap.size w0G W → SS W → G 3 #[true, false, false, true, false] (F [(9, .pointer (some ⟨cn, 0, none⟩))]) W := by
          intro W cn qn bT hH
          rw [hF]
          simp only [List.foldl_cons, List.foldl_nil, List.setIfInBounds_toArray, List.set_cons_zero, List.set_cons_succ]
          refine (hG _ _ _ _).2 ?_
          refine wpAnyH_ready (rs := [1]) (by kernel_rfl) (by simp) ?_
          refine consT rfl (fun KK hKK => ?_) ?_
          · go_simp
            refine (GC0 _ bT).mono ?_
            rintro e W2 ⟨v0, rfl, bC, k0⟩
            go_wp2_with fail
            refine hKK.out _ _ (hSB _ _ bC hH) ?_
            intro _
            try simp only [pP, pN, pS, pZ, pC]
            exact (hG _ _ _ _).1 (Geq (by kernel_rfl) (by kernel_rfl) (by rw [hF]; kernel_rfl) (st1n W2 v0 cn k0 (qn.later bC) (blw bT bC) (hSB _ _ bC hH)))
          exact AllReadyH.nil
        have st0 : ∀ (W : World), Below w0G.heap.size w0G W → SS W → G 4 #[true, false, false, false, false] (F []) W := by
          intro W bT hH
          rw [hF]
          simp only [List.foldl_cons, List.foldl_nil, List.setIfInBounds_toArray, List.set_cons_zero, List.set_cons_succ]
          refine (hG _ _ _ _).2 ?_
          refine wpAnyH_ready (rs := [1, 3]) (by kernel_rfl) (by simp) ?_
          refine consT rfl (fun KK hKK => ?_) ?_
          · go_simp
            refine (GC0 _ bT).mono ?_
            rintro e W2 ⟨v0, rfl, bC, k0⟩
            go_wp2_with fail
            refine hKK.out _ _ (hSB _ _ bC hH) ?_
            intro _
            try simp only [pP, pN, pS, pZ, pC]
            exact (hG _ _ _ _).1 (Geq (by kernel_rfl) (by kernel_rfl) (by rw [hF]; kernel_rfl) (st1 W2 v0 k0 (blw bT bC) (hSB _ _ bC hH)))
          refine consT rfl (fun KK hKK => ?_) ?_
          · go_simp
            try rw [hz0V]
            refine hKK.out _ _ (hSB _ _ (b0V W) hH) ?_
            intro _
            try simp only [pP, pN, pS, pZ, pC]
            exact (hG _ _ _ _).1 (Geq (by kernel_rfl) (by kernel_rfl) (by rw [hF]; kernel_rfl) (st0n _ W.heap.size (Vb.new _ _ bT (Nat.le_refl _)) (blw bT (b0V W)) (hSB _ _ (b0V W) hH)))
          exact AllReadyH.nil
        exact Geq (by kernel_rfl) (by kernel_rfl) (by rw [hF]; kernel_rfl) (st0 _ bZ hHeld)
      case rest =>
        obtain ⟨wc3, b9, p9, hwv, rfl, g9, qn, kn, bT⟩ := hcut
        subst hwv
        replace q4 := q4.later bT
        replace q5 := q5.later bT
        replace ha := ha.later bT
        replace hb := hb.later bT
        replace hc := hc.later bT
        replace hd := hd.later bT
        replace kq := kq.later bT
        replace kr := kr.later bT
        replace qd := qd.later bT
        replace qe := qe.later bT
        replace bN := bN.trans (bT.mono bN.size)
        clear bT
        clear GAd GF
        go_upto_region 3 with fail
        have qn_0 := qn.cell 0
        have qn_1 := qn.cell 1
        have q5_0 := q5.cell 0
        have q5_1 := q5.cell 1
        have q5_2 := q5.cell 2
        have q5_3 := q5.cell 3
        simp only [List.getElem?_toArray, List.getElem?_cons_zero, List.getElem?_cons_succ] at qn_0 qn_1 q5_0 q5_1 q5_2 q5_3
        have bD : Below wc3.heap.size wc3 wc3.drew := (Below.refl _ _).drew
        have kqn_0 := below_cell bD qn_0
        have kqn_1 := below_cell bD qn_1
        have kq5_0 := below_cell bD q5_0
        have kq5_1 := below_cell bD q5_1
        have kq5_2 := below_cell bD q5_2
        have kq5_3 := below_cell bD q5_3
        replace bN := bN.trans (bD.mono bN.size)
        replace q4 := q4.later bD
        replace q5 := q5.later bD
        replace ha := ha.later bD
        replace hb := hb.later bD
        replace hc := hc.later bD
        replace hd := hd.later bD
        replace kq := kq.later bD
        replace kr := kr.later bD
        replace qd := qd.later bD
        replace qe := qe.later bD
        replace kn := kn.later bD
        replace qn := qn.later bD
        refine wp_region_held_drew (S := fun w' => w'.cell? ⟨b9, 0, none⟩ = some (.bool (ng Zn)) ∧ w'.cell? ⟨b9, 1, none⟩ = some (.slice p9 (ln (am Zn)) (ln (am Zn))) ∧ w'.cell? ⟨b5, 0, none⟩ = some (.bool c.s) ∧ w'.cell? ⟨b5, 1, none⟩ = some (.slice c.a c.n c.c) ∧ w'.cell? ⟨b5, 2, none⟩ = some (.bool false) ∧ w'.cell? ⟨b5, 3, none⟩ = some (.slice d.a d.n d.c)) (by kernel_rfl) ⟨kqn_0, kqn_1, kq5_0, kq5_1, kq5_2, kq5_3⟩ (fun hHeld => ?_)
        clear kqn_0 kqn_1 kq5_0 kq5_1 kq5_2 kq5_3
        generalize wc3.drew = w0H at bD q4 q5 ha hb hc hd kq kr qd qe kn qn bN hHeld ⊢
        clear bD qn_0 qn_1 q5_0 q5_1 q5_2 q5_3
        refine tk 0 (v := ?_) rfl (Or.inl ⟨by rfl, ?_⟩) ?_
        rotate_left
        · intro w9 hSw
          go_simp
          first | done | with_reducible rfl
        simp only [pP, pN, pS, pZ, pC]
        refine tk 3 (v := ?_) rfl (Or.inl ⟨by rfl, ?_⟩) ?_
        rotate_left
        · intro w9 hSw
          go_simp
          first | done | with_reducible rfl
        simp only [pP, pN, pS, pZ, pC]
        refine wpAnyH_ready (rs := [1]) (by kernel_rfl) (by simp) ?_
        refine cons' rfl (fun KK hKK => ?_)
        go_simp
        refine (one_of _).mono ?_
        rintro e w4 ⟨p1, rfl, n1⟩
        have bC := n1.below
        replace bN := bN.trans (bC.mono bN.size)
        replace q4 := q4.later bC
        replace q5 := q5.later bC
        replace ha := ha.later bC
        replace hb := hb.later bC
        replace hc := hc.later bC
        replace hd := hd.later bC
        replace kq := kq.later bC
        replace kr := kr.later bC
        replace qd := qd.later bC
        replace qe := qe.later bC
        replace kn := kn.later bC
        replace qn := qn.later bC
        replace hHeld := (⟨below_cell bC hHeld.1, below_cell bC hHeld.2.1, below_cell bC hHeld.2.2.1, below_cell bC hHeld.2.2.2.1, below_cell bC hHeld.2.2.2.2.1, below_cell bC hHeld.2.2.2.2.2⟩ : _ ∧ _ ∧ _ ∧ _ ∧ _ ∧ _)
        clear bC
        go_wp2_with fail
        have k1 := n1.seg
        clear n1
        refine hKK.out _ _ hHeld ?_
        clear hHeld
        intro hHeld
        clear hKK KK
        try simp only [pP, pN, pS, pZ, pC]
        refine tk 2 (v := ?_) rfl (Or.inl ⟨by rfl, ?_⟩) ?_
        rotate_left
        · intro w9 hSw
          go_simp
          first | done | with_reducible rfl
        simp only [pP, pN, pS, pZ, pC]
        refine wpAnyH_ready (rs := [4]) (by kernel_rfl) (by simp) ?_
        refine cons' rfl (fun KK hKK => ?_)
        go_simp
        refine (GOr.out _ p9 p1 kn k1 hc.1 hd.1).mono ?_
        rintro e w5 ⟨rfl, b3⟩
        have bC := b3
        replace bN := bN.trans (bC.mono bN.size)
        replace q4 := q4.later bC
        replace q5 := q5.later bC
        replace ha := ha.later bC
        replace hb := hb.later bC
        replace hc := hc.later bC
        replace hd := hd.later bC
        replace kq := kq.later bC
        replace kr := kr.later bC
        replace qd := qd.later bC
        replace qe := qe.later bC
        replace kn := kn.later bC
        replace qn := qn.later bC
        replace k1 := k1.later bC
        replace hHeld := (⟨below_cell bC hHeld.1, below_cell bC hHeld.2.1, below_cell bC hHeld.2.2.1, below_cell bC hHeld.2.2.2.1, below_cell bC hHeld.2.2.2.2.1, below_cell bC hHeld.2.2.2.2.2⟩ : _ ∧ _ ∧ _ ∧ _ ∧ _ ∧ _)
        clear bC
        go_wp2_with fail
        clear b3
        refine hKK.out _ _ hHeld ?_
        clear hHeld
        intro hHeld
        clear hKK KK
        try simp only [pP, pN, pS, pZ, pC]
        refine tk 5 (v := ?_) rfl (Or.inl ⟨by rfl, ?_⟩) ?_
        rotate_left
        · intro w9 hSw
          go_simp
          first | done | with_reducible rfl
        simp only [pP, pN, pS, pZ, pC]
        refine wpAnyH_done (by kernel_rfl) ?_ _
        skip
        clear GOr
        by_cases hC0 : C < 0
        · skip
          go_upto_region 4 with fail
          have hJY := HJB.out _ _ _ hJ bN
          have hKY := hK.below bN
          obtain ⟨fn, tmps, assign, body, hy, hR⟩ := HY.out s (⟨ng Zn, p9, ln (am Zn), ln (am Zn), am Zn⟩ : NV) _ hKY hJY ⟨kn, Nat.le_refl _, by show ln (am Zn) ≤ _; omega⟩ (by
            obtain ⟨hSb, hgk, hm, hL, hcd, hcm, hZn, hZm, hZa, hC, hZg, hlt, hb0⟩ := HP.out
            obtain ⟨m, rfl⟩ : ∃ k, m = k + 1 := ⟨m - 1, by omega⟩
            refine ⟨[], ?_⟩
            have hx : (a.val / (b.X : Int) + 1) * (d.X : Int) < c.val := by
              rw [hcd, hZn]
              rw [← hC] at hC0
              have h9 : Zn * (d.X : Int) - c.val * ((1 : Nat) : Int) < 0 := by
                unfold sgn at hC0
                split at hC0
                · assumption
                · split at hC0 <;> omega
              omega
            rw [← hL, sbl, if_pos hx, hcd, hZn]
            show _ ++ [sg (ng Zn) (am Zn)] = _
            rw [sg_na])
          clear hJY hKY
          refine (wpIn_wide (n := 2)).1 ?_
          have qn_0 := qn.cell 0
          have qn_1 := qn.cell 1
          simp only [List.getElem?_toArray, List.getElem?_cons_zero, List.getElem?_cons_succ] at qn_0 qn_1
          gi_wp2
          clear qn_0 qn_1
          refine hR.mono ?_
          clear hR hy
          rintro e W5 ⟨rfl, hk5, hJ5, hK5⟩
          gi_wp2
          go_wp2
          refine bodyPost_ret (results_none rfl _ _ _) rfl ?_
          obtain ⟨hSb, hgk, hm, hL, hcd, hcm, hZn, hZm, hZa, hC, hZg, hlt, hb0⟩ := HP.out
          obtain ⟨m, rfl⟩ : ∃ k, m = k + 1 := ⟨m - 1, by omega⟩
          refine ⟨⟨_, rfl⟩, hk5, s ++ [(⟨ng Zn, p9, ln (am Zn), ln (am Zn), am Zn⟩ : NV)], ?_, hJ5⟩
          have hx : (a.val / (b.X : Int) + 1) * (d.X : Int) < c.val := by
            rw [hcd, hZn]
            rw [← hC] at hC0
            have h9 : Zn * (d.X : Int) - c.val * ((1 : Nat) : Int) < 0 := by
              unfold sgn at hC0
              split at hC0
              · assumption
              · split at hC0 <;> omega
            omega
          rw [← hL, sbl, if_pos hx, hcd, hZn, List.map_append]
          show _ ++ [sg (ng Zn) (am Zn)] = _
          rw [sg_na]
        · skip
          have HC0 := hide' hC0
          go_upto_region 5 with fail
          have hJY := HJB.out _ _ _ hJ bN
          have hKY := hK.below bN
          obtain ⟨fn, tmps, assign, body, hy, hR⟩ := HY.out s (⟨ng Zf, aq, ln (am Zf), ln (am Zf), am Zf⟩ : NV) _ hKY hJY ⟨kq, Nat.le_refl _, by show ln (am Zf) ≤ _; omega⟩ (by
            obtain ⟨hSb, hgk, hm, hL, hcd, hcm, hZn, hZm, hZa, hC, hZg, hlt, hb0⟩ := HP.out
            obtain ⟨m, rfl⟩ : ∃ k, m = k + 1 := ⟨m - 1, by omega⟩
            have hC0 := HC0.out
            have hx : ¬ (a.val / (b.X : Int) + 1) * (d.X : Int) < c.val := by
              rw [hcd, hZn]
              rw [← hC] at hC0
              have h9 : ¬ Zn * (d.X : Int) - c.val * ((1 : Nat) : Int) < 0 := by
                intro h9
                have h8 : sgn (Zn * (d.X : Int) - c.val * ((1 : Nat) : Int)) = -1 := by unfold sgn; rw [if_pos h9]
                omega
              omega
            refine ⟨sbl m d.X (c.val - a.val / (b.X : Int) * d.X) b.X (a.val % (b.X : Int)), ?_⟩
            rw [← hL, sbl, if_neg hx, hcd]
            show _ ++ sg (ng Zf) (am Zf) :: _ = _
            rw [sg_na])
          clear hJY hKY
          refine (wpIn_wide (n := 2)).1 ?_
          have qd_0 := qd.cell 0
          have qd_1 := qd.cell 1
          simp only [List.getElem?_toArray, List.getElem?_cons_zero, List.getElem?_cons_succ] at qd_0 qd_1
          gi_wp2
          clear qd_0 qd_1
          refine hR.mono ?_
          clear hR hy
          rintro e W5 ⟨rfl, hk5, hJ5, hK5⟩
          gi_wp2
          go_upto_region 6 with fail
          replace q4 := hK5.blk _ _ _ g4 q4
          replace q5 := hK5.blk _ _ _ g5 q5
          replace qd := hK5.blk _ _ _ (by omega) qd
          replace qe := hK5.blk _ _ _ (by omega) qe
          replace ha := hK5.ok ha
          replace hb := hK5.ok hb
          replace hc := hK5.ok hc
          replace hd := hK5.ok hd
          replace kq := hK5.seg _ _ _ kq
          replace kr := hK5.seg _ _ _ kr
          have szK := hK5.size
          have szN := bN.size
          clear hK5 bN kn qn k1 hJ hK
          have bM : Below W5.heap.size W5 W5 := Below.refl _ _
          have bel := bM
          have hbs := bel.size
          have bT : Below W5.heap.size W5 W5 := Below.refl _ _
          go_cut [10] from 38 to 44 (fun s10_ wx => ∃ wh9 b10 pA, wh9 = wx ∧ s10_ = .pointer (some ⟨b10, 0, none⟩) ∧ W5.heap.size ≤ b10 ∧ Blk wx b10 #[.bool (ng Za), .slice pA (ln (am Za)) (ln (am Za))] 25 ∧ Seg wx pA (am Za) (ln (am Za)) ∧ Below W5.heap.size W5 wx)
          case first =>
            clear bM
            have q5_0 := q5.cell 0
            have q5_1 := q5.cell 1
            have q5_2 := q5.cell 2
            have q5_3 := q5.cell 3
            have qd_0 := qd.cell 0
            have qd_1 := qd.cell 1
            simp only [List.getElem?_toArray, List.getElem?_cons_zero, List.getElem?_cons_succ] at q5_0 q5_1 q5_2 q5_3 qd_0 qd_1
            have bD : Below W5.heap.size W5 W5.drew := (Below.refl _ _).drew
            have kq5_0 := below_cell bD q5_0
            have kq5_1 := below_cell bD q5_1
            have kq5_2 := below_cell bD q5_2
            have kq5_3 := below_cell bD q5_3
            have kqd_0 := below_cell bD qd_0
            have kqd_1 := below_cell bD qd_1
            replace bT := bT.trans (bD.mono bT.size)
            replace q4 := q4.later bD
            replace q5 := q5.later bD
            replace qd := qd.later bD
            replace qe := qe.later bD
            replace ha := ha.later bD
            replace hb := hb.later bD
            replace hc := hc.later bD
            replace hd := hd.later bD
            replace kq := kq.later bD
            replace kr := kr.later bD
            refine wp_region_held_drew (S := fun w' => w'.cell? ⟨b5, 0, none⟩ = some (.bool c.s) ∧ w'.cell? ⟨b5, 1, none⟩ = some (.slice c.a c.n c.c) ∧ w'.cell? ⟨b5, 2, none⟩ = some (.bool false) ∧ w'.cell? ⟨b5, 3, none⟩ = some (.slice d.a d.n d.c) ∧ w'.cell? ⟨wFl.heap.size, 0, none⟩ = some (.bool (ng Zf)) ∧ w'.cell? ⟨wFl.heap.size, 1, none⟩ = some (.slice aq (ln (am Zf)) (ln (am Zf)))) (by kernel_rfl) ⟨kq5_0, kq5_1, kq5_2, kq5_3, kqd_0, kqd_1⟩ (fun hHeld => ?_)
            clear kq5_0 kq5_1 kq5_2 kq5_3 kqd_0 kqd_1
            generalize W5.drew = w0K at bD q4 q5 qd qe ha hb hc hd kq kr bT hHeld ⊢
            clear bD q5_0 q5_1 q5_2 q5_3 qd_0 qd_1
            refine tk 0 (v := ?_) rfl (Or.inl ⟨by rfl, ?_⟩) ?_
            rotate_left
            · intro w9 hSw
              go_simp
              first | done | with_reducible rfl
            simp only [pP, pN, pS, pZ, pC]
            refine tk 1 (v := ?_) rfl (Or.inl ⟨by rfl, ?_⟩) ?_
            rotate_left
            · intro w9 hSw
              go_simp
              first | done | with_reducible rfl
            simp only [pP, pN, pS, pZ, pC]
            refine tk 2 (v := ?_) rfl (Or.inl ⟨by rfl, ?_⟩) ?_
            rotate_left
            · intro w9 hSw
              go_simp
              first | done | with_reducible rfl
            simp only [pP, pN, pS, pZ, pC]
            refine tk 3 (v := ?_) rfl (Or.inl ⟨by rfl, ?_⟩) ?_
            rotate_left
            · intro w9 hSw
              go_simp
              first | done | with_reducible rfl
            simp only [pP, pN, pS, pZ, pC]
            refine tk 4 (v := ?_) rfl (Or.inl ⟨by rfl, ?_⟩) ?_
            rotate_left
            · intro w9 hSw
              go_simp
              first | done | with_reducible rfl
            simp only [pP, pN, pS, pZ, pC]
            obtain ⟨vd, hvd⟩ : ∃ v, Value.agg #[.bool (ng Zf), .slice aq (ln (am Zf)) (ln (am Zf))] = v := ⟨_, rfl⟩
            rw [hvd]
            obtain ⟨v1, hv1⟩ : ∃ v, Value.agg #[.bool c.s, .slice c.a c.n c.c] = v := ⟨_, rfl⟩
            rw [hv1]
            obtain ⟨v3, hv3⟩ : ∃ v, Value.agg #[.bool false, .slice d.a d.n d.c] = v := ⟨_, rfl⟩
            rw [hv3]
            have kq0 := kq
            obtain ⟨P0, hP0⟩ : ∃ P : World → Value → Prop, P = fun W v => ∃ p, v = .agg #[.bool (ng Zm), .slice p (ln (am Zm)) (ln (am Zm))] ∧ Seg W p (am Zm) (ln (am Zm)) := ⟨_, rfl⟩
            have P0_b : ∀ {W W' : World} {v : Value}, Below W.heap.size W W' → P0 W v → P0 W' v := fun {W W' v} hb h => by
              rw [hP0] at h ⊢
              obtain ⟨p, e, k⟩ := h
              exact ⟨p, e, k.later hb⟩
            obtain ⟨P1, hP1⟩ : ∃ P : World → Value → Prop, P = fun W v => ∃ p, v = .agg #[.bool (ng Za), .slice p (ln (am Za)) (ln (am Za))] ∧ Seg W p (am Za) (ln (am Za)) := ⟨_, rfl⟩
            have P1_b : ∀ {W W' : World} {v : Value}, Below W.heap.size W W' → P1 W v → P1 W' v := fun {W W' v} hb h => by
              rw [hP1] at h ⊢
              obtain ⟨p, e, k⟩ := h
              exact ⟨p, e, k.later hb⟩
            have GC0 : ∀ W' : World, Below w0K.heap.size w0K W' → Calls Tryz.prog 63 #[vd, v3] W' fun e w' => ∃ v, e = .returned v ∧ Below W'.heap.size W' w' ∧ P0 w' v := fun W' hb9 => by
              rw [← hvd, ← hv3]
              refine (GM.out _ aq (kq0.later hb9) (hd.1.later hb9)).mono ?_
              rintro e W2 ⟨p, rfl, n1⟩
              exact ⟨_, rfl, n1.below, by rw [hP0]; exact ⟨p, rfl, n1.seg⟩⟩
            have GC1 : ∀ (W' : World) v, Below w0K.heap.size w0K W' → P0 W' v → Calls Tryz.prog 68 #[v1, v] W' fun e w' => ∃ v, e = .returned v ∧ Below W'.heap.size W' w' ∧ P1 w' v := fun W' v hb9 hp => by
              rw [hP0] at hp
              obtain ⟨q, rfl, kp⟩ := hp
              rw [← hv1]
              refine (GSb.out _ q (hc.1.later hb9) kp).mono ?_
              rintro e W2 ⟨p, rfl, n1⟩
              exact ⟨_, rfl, n1.below, by rw [hP1]; exact ⟨p, rfl, n1.seg⟩⟩
            have hs0 := bT.size
            have lqd := qd.lt
            have lq5 := q5.lt
            have bZ : Below w0K.heap.size w0K w0K := Below.refl _ _
            have bS := bT
            clear bT
            refine nameH w0K.heap.size (fun W1 W2 hb h => (⟨below_cell hb h.1, below_cell hb h.2.1, below_cell hb h.2.2.1, below_cell hb h.2.2.2.1, below_cell hb h.2.2.2.2.1, below_cell hb h.2.2.2.2.2⟩ : _ ∧ _ ∧ _ ∧ _ ∧ _ ∧ _)) (fun W1 W2 c hg hk h => (⟨cellsT hk (by omega) h.1, cellsT hk (by omega) h.2.1, cellsT hk (by omega) h.2.2.1, cellsT hk (by omega) h.2.2.2.1, cellsT hk (by omega) h.2.2.2.2.1, cellsT hk (by omega) h.2.2.2.2.2⟩ : _ ∧ _ ∧ _ ∧ _ ∧ _ ∧ _)) ?_
            intro G SS F hG hS0 hSB hSC hF
            replace hHeld := hS0 _ hHeld
            clear hS0
            obtain ⟨z0V, hz0V⟩ : ∃ z : Array Value, #[.bool false, .slice none 0 0] = z := ⟨_, rfl⟩
            have b0V : ∀ W : World, Below W.heap.size W (W.alloc (.cells z0V 25)) := fun W => below_alloc _
            have st2n : ∀ (W : World) (v0 v1 : Value) (cn : Nat), P0 W v0 → P1 W v1 → Vb w0K.heap.size z0V 25 W cn → Below w0K.heap.size w0K W → SS W → G 1 #[true, true, true, true, true, true, true, true, false] (F [(43, v0), (44, v1), (10, .pointer (some ⟨cn, 0, none⟩))]) W := by
              intro W v0 v1 cn k0 k1 qn bT hH
              rw [hF]
              simp only [List.foldl_cons, List.foldl_nil, List.setIfInBounds_toArray, List.set_cons_zero, List.set_cons_succ]
              refine (hG _ _ _ _).2 ?_
              rw [hP1] at k1
              obtain ⟨p9, rfl, k1⟩ := k1
              obtain ⟨qn, gn⟩ := qn
              subst hvd hv1 hv3 hz0V
              refine wpAnyH_ready (rs := [8]) (by kernel_rfl) (by simp) ?_
              refine cons' rfl (fun KK hKK => ?_)
              have z0 := qn.cell 0
              have z1 := qn.cell 1
              simp only [List.getElem?_toArray, List.getElem?_cons_zero, List.getElem?_cons_succ] at z0 z1
              have fz := fun o => qn.frozen o
              obtain ⟨c9, q9⟩ := qn.set2s (.bool (ng Za)) (.slice p9 (ln (am Za)) (ln (am Za)))
              have hno := qn.no (by simp)
              replace k1 := k1.ch c9 hno
              replace bT := bT.trans (c9.below gn)
              replace hH := hSC _ _ _ gn c9 hH
              go_simp
              clear z0 z1 fz hno c9
              refine hKK.out _ _ hH ?_
              intro _
              clear hKK KK
              try simp only [pP, pN, pS, pZ, pC]
              generalize ((W.setCell ⟨cn, 0, none⟩ (.bool (ng Za))).setCell ⟨cn, 1, none⟩ (.slice p9 (ln (am Za)) (ln (am Za)))) = wL at k1 q9 bT hH ⊢
              refine wpAnyH_done (by kernel_rfl) ?_ _
              go_wp2_with fail
              go_meet
              exact ⟨_, cn, p9, rfl, rfl, Nat.le_trans hs0 gn, q9, k1, bS.trans (bT.mono bS.size)⟩
            have st2 : ∀ (W : World) (v0 v1 : Value), P0 W v0 → P1 W v1 → Below w0K.heap.size w0K W → SS W → G 2 #[true, true, true, true, true, true, true, false, false] (F [(43, v0), (44, v1)]) W := by
              intro W v0 v1 k0 k1 bT hH
              rw [hF]
              simp only [List.foldl_cons, List.foldl_nil, List.setIfInBounds_toArray, List.set_cons_zero, List.set_cons_succ]
              refine (hG _ _ _ _).2 ?_
              refine wpAnyH_ready (rs := [7]) (by kernel_rfl) (by simp) ?_
              refine consT rfl (fun KK hKK => ?_) ?_
              · go_simp
                try rw [hz0V]
                refine hKK.out _ _ (hSB _ _ (b0V W) hH) ?_
                intro _
                try simp only [pP, pN, pS, pZ, pC]
                exact (hG _ _ _ _).1 (Geq (by kernel_rfl) (by kernel_rfl) (by rw [hF]; kernel_rfl) (st2n _ v0 v1 W.heap.size (P0_b (b0V W) k0) (P1_b (b0V W) k1) (Vb.new _ _ bT (Nat.le_refl _)) (blw bT (b0V W)) (hSB _ _ (b0V W) hH)))
              exact AllReadyH.nil
            have st1n : ∀ (W : World) (v0 : Value) (cn : Nat), P0 W v0 → Vb w0K.heap.size z0V 25 W cn → Below w0K.heap.size w0K W → SS W → G 2 #[true, true, true, true, true, true, false, true, false] (F [(43, v0), (10, .pointer (some ⟨cn, 0, none⟩))]) W := by
              intro W v0 cn k0 qn bT hH
              rw [hF]
              simp only [List.foldl_cons, List.foldl_nil, List.setIfInBounds_toArray, List.set_cons_zero, List.set_cons_succ]
              refine (hG _ _ _ _).2 ?_
              refine wpAnyH_ready (rs := [6]) (by kernel_rfl) (by simp) ?_
              refine consT rfl (fun KK hKK => ?_) ?_
              · go_simp
                refine (GC1 _ _ bT k0).mono ?_
                rintro e W2 ⟨v1, rfl, bC, k1⟩
                go_wp2_with fail
                refine hKK.out _ _ (hSB _ _ bC hH) ?_
                intro _
                try simp only [pP, pN, pS, pZ, pC]
                exact (hG _ _ _ _).1 (Geq (by kernel_rfl) (by kernel_rfl) (by rw [hF]; kernel_rfl) (st2n W2 v0 v1 cn (P0_b bC k0) k1 (qn.later bC) (blw bT bC) (hSB _ _ bC hH)))
              exact AllReadyH.nil
            have st1 : ∀ (W : World) (v0 : Value), P0 W v0 → Below w0K.heap.size w0K W → SS W → G 3 #[true, true, true, true, true, true, false, false, false] (F [(43, v0)]) W := by
              intro W v0 k0 bT hH
              rw [hF]
              simp only [List.foldl_cons, List.foldl_nil, List.setIfInBounds_toArray, List.set_cons_zero, List.set_cons_succ]
              refine (hG _ _ _ _).2 ?_
              refine wpAnyH_ready (rs := [6, 7]) (by kernel_rfl) (by simp) ?_
              refine consT rfl (fun KK hKK => ?_) ?_
              · go_simp
                refine (GC1 _ _ bT k0).mono ?_
                rintro e W2 ⟨v1, rfl, bC, k1⟩
                go_wp2_with fail
                refine hKK.out _ _ (hSB _ _ bC hH) ?_
                intro _
                try simp only [pP, pN, pS, pZ, pC]
                exact (hG _ _ _ _).1 (Geq (by kernel_rfl) (by kernel_rfl) (by rw [hF]; kernel_rfl) (st2 W2 v0 v1 (P0_b bC k0) k1 (blw bT bC) (hSB _ _ bC hH)))
              refine consT rfl (fun KK hKK => ?_) ?_
              · go_simp
                try rw [hz0V]
                refine hKK.out _ _ (hSB _ _ (b0V W) hH) ?_
                intro _
                try simp only [pP, pN, pS, pZ, pC]
                exact (hG _ _ _ _).1 (Geq (by kernel_rfl) (by kernel_rfl) (by rw [hF]; kernel_rfl) (st1n _ v0 W.heap.size (P0_b (b0V W) k0) (Vb.new _ _ bT (Nat.le_refl _)) (blw bT (b0V W)) (hSB _ _ (b0V W) hH)))
              exact AllReadyH.nil
            have st0n : ∀ (W : World) (cn : Nat), Vb w0K.heap.size z0V 25 W cn → Below w0K.heap.size w0K W → SS W → G 3 #[true, true, true, true, true, false, false, true, false] (F [(10, .pointer (some ⟨cn, 0, none⟩))]) W := by
              intro W cn qn bT hH
              rw [hF]
              simp only [List.foldl_cons, List.foldl_nil, List.setIfInBounds_toArray, List.set_cons_zero, List.set_cons_succ]
              refine (hG _ _ _ _).2 ?_
              refine wpAnyH_ready (rs := [5]) (by kernel_rfl) (by simp) ?_
              refine consT rfl (fun KK hKK => ?_) ?_
              · go_simp
                refine (GC0 _ bT).mono ?_
                rintro e W2 ⟨v0, rfl, bC, k0⟩
                go_wp2_with fail
                refine hKK.out _ _ (hSB _ _ bC hH) ?_
                intro _
                try simp only [pP, pN, pS, pZ, pC]
                exact (hG _ _ _ _).1 (Geq (by kernel_rfl) (by kernel_rfl) (by rw [hF]; kernel_rfl) (st1n W2 v0 cn k0 (qn.later bC) (blw bT bC) (hSB _ _ bC hH)))
              exact AllReadyH.nil
            have st0 : ∀ (W : World), Below w0K.heap.size w0K W → SS W → G 4 #[true, true, true, true, true, false, false, false, false] (F []) W := by
              intro W bT hH
              rw [hF]
              simp only [List.foldl_cons, List.foldl_nil, List.setIfInBounds_toArray, List.set_cons_zero, List.set_cons_succ]
              refine (hG _ _ _ _).2 ?_
              refine wpAnyH_ready (rs := [5, 7]) (by kernel_rfl) (by simp) ?_
              refine consT rfl (fun KK hKK => ?_) ?_
              · go_simp
                refine (GC0 _ bT).mono ?_
                rintro e W2 ⟨v0, rfl, bC, k0⟩
                go_wp2_with fail
                refine hKK.out _ _ (hSB _ _ bC hH) ?_
                intro _
                try simp only [pP, pN, pS, pZ, pC]
                exact (hG _ _ _ _).1 (Geq (by kernel_rfl) (by kernel_rfl) (by rw [hF]; kernel_rfl) (st1 W2 v0 k0 (blw bT bC) (hSB _ _ bC hH)))
              refine consT rfl (fun KK hKK => ?_) ?_
              · go_simp
                try rw [hz0V]
                refine hKK.out _ _ (hSB _ _ (b0V W) hH) ?_
                intro _
                try simp only [pP, pN, pS, pZ, pC]
                exact (hG _ _ _ _).1 (Geq (by kernel_rfl) (by kernel_rfl) (by rw [hF]; kernel_rfl) (st0n _ W.heap.size (Vb.new _ _ bT (Nat.le_refl _)) (blw bT (b0V W)) (hSB _ _ (b0V W) hH)))
              exact AllReadyH.nil
            exact Geq (by kernel_rfl) (by kernel_rfl) (by rw [hF]; kernel_rfl) (st0 _ bZ hHeld)
          case rest =>
            obtain ⟨wc6, b10, pA, hwv, rfl, g10, q10, kA, bT⟩ := hcut
            subst hwv
            replace q4 := q4.later bT
            replace q5 := q5.later bT
            replace qd := qd.later bT
            replace qe := qe.later bT
            replace ha := ha.later bT
            replace hb := hb.later bT
            replace hc := hc.later bT
            replace hd := hd.later bT
            replace kq := kq.later bT
            replace kr := kr.later bT
            replace bM := bM.trans (bT.mono bM.size)
            clear bT
            clear GM GSb bel
            obtain ⟨hSb, hgk, hm, hL, hcd, hcm, hZn, hZm, hZa, hC, hZg, hlt, hb0⟩ := HP.out
            have hA0 : 0 < Za := by rw [← hZa, ← hZm, ← hcd]; exact hSb.more
            have hnA : ng Za = false := by unfold ng; exact decide_eq_false (by omega)
            have hnG : ng Zg = false := by unfold ng; exact decide_eq_false (by omega)
            rw [hnA] at q10
            rw [hnG] at qe
            clear hnA hnG hSb hgk hm hL hcd hcm hZn hZm hZa hC hZg hlt hb0
            replace hA0 := hide' hA0
            go_upto_region 7 with fail
            have l4 : b4 < b10 := by omega
            have l5 : b5 < b10 := by omega
            have q10_0 := q10.cell 0
            have q10_1 := q10.cell 1
            have qe_0 := qe.cell 0
            have qe_1 := qe.cell 1
            simp only [List.getElem?_toArray, List.getElem?_cons_zero, List.getElem?_cons_succ] at q10_0 q10_1 qe_0 qe_1
            have bD : Below wc6.heap.size wc6 wc6.drew := (Below.refl _ _).drew
            have kq10_0 := below_cell bD q10_0
            have kq10_1 := below_cell bD q10_1
            have kqe_0 := below_cell bD qe_0
            have kqe_1 := below_cell bD qe_1
            replace bM := bM.trans (bD.mono bM.size)
            replace q4 := q4.later bD
            replace q5 := q5.later bD
            replace qd := qd.later bD
            replace qe := qe.later bD
            replace ha := ha.later bD
            replace hb := hb.later bD
            replace hc := hc.later bD
            replace hd := hd.later bD
            replace kq := kq.later bD
            replace kr := kr.later bD
            replace kA := kA.later bD
            replace q10 := q10.later bD
            refine wp_region_held_drew (S := fun w' => w'.cell? ⟨b10, 0, none⟩ = some (.bool false) ∧ w'.cell? ⟨b10, 1, none⟩ = some (.slice pA (ln (am Za)) (ln (am Za))) ∧ w'.cell? ⟨wFl.heap.size + 1, 0, none⟩ = some (.bool false) ∧ w'.cell? ⟨wFl.heap.size + 1, 1, none⟩ = some (.slice ar (ln (am Zg)) (ln (am Zg)))) (by kernel_rfl) ⟨kq10_0, kq10_1, kqe_0, kqe_1⟩ (fun hHeld => ?_)
            clear kq10_0 kq10_1 kqe_0 kqe_1
            generalize wc6.drew = w0M at bD q4 q5 qd qe ha hb hc hd kq kr kA q10 bM hHeld ⊢
            clear bD q10_0 q10_1 qe_0 qe_1
            refine tk 0 (v := ?_) rfl (Or.inl ⟨by rfl, ?_⟩) ?_
            rotate_left
            · intro w9 hSw
              go_simp
              first | done | with_reducible rfl
            simp only [pP, pN, pS, pZ, pC]
            refine tk 2 (v := ?_) rfl (Or.inl ⟨by rfl, ?_⟩) ?_
            rotate_left
            · intro w9 hSw
              go_simp
              first | done | with_reducible rfl
            simp only [pP, pN, pS, pZ, pC]
            refine tk 4 (v := ?_) rfl (Or.inl ⟨by rfl, ?_⟩) ?_
            rotate_left
            · intro w9 hSw
              go_simp
              first | done | with_reducible rfl
            simp only [pP, pN, pS, pZ, pC]
            refine tk 6 (v := ?_) rfl (Or.inl ⟨by rfl, ?_⟩) ?_
            rotate_left
            · intro w9 hSw
              go_simp
              first | done | with_reducible rfl
            simp only [pP, pN, pS, pZ, pC]
            refine wpAnyH_ready (rs := [1, 5]) (by kernel_rfl) (by simp) ?_
            refine consT rfl (fun KK hKK => ?_) ?_
            · skip
              have z2 := q5.cell 2
              have z3 := q5.cell 3
              simp only [List.getElem?_toArray, List.getElem?_cons_zero, List.getElem?_cons_succ] at z2 z3
              go_simp
              clear z2 z3
              refine hKK.out _ _ hHeld ?_
              clear hHeld
              intro hHeld
              clear hKK KK
              try simp only [pP, pN, pS, pZ, pC]
              refine tk 3 (v := ?_) rfl (Or.inl ⟨by rfl, ?_⟩) ?_
              rotate_left
              · intro w9 hSw
                go_simp
                first | done | with_reducible rfl
              simp only [pP, pN, pS, pZ, pC]
              refine wpAnyH_ready (rs := [5]) (by kernel_rfl) (by simp) ?_
              refine cons' rfl (fun KK hKK => ?_)
              have z2 := q4.cell 2
              have z3 := q4.cell 3
              simp only [List.getElem?_toArray, List.getElem?_cons_zero, List.getElem?_cons_succ] at z2 z3
              go_simp
              clear z2 z3
              refine hKK.out _ _ hHeld ?_
              clear hHeld
              intro hHeld
              clear hKK KK
              try simp only [pP, pN, pS, pZ, pC]
              refine tk 7 (v := ?_) rfl (Or.inl ⟨by rfl, ?_⟩) ?_
              rotate_left
              · intro w9 hSw
                go_simp
                first | done | with_reducible rfl
              simp only [pP, pN, pS, pZ, pC]
              refine wpAnyH_ready (rs := [8]) (by kernel_rfl) (by simp) ?_
              refine cons' rfl (fun KK hKK => ?_)
              have hJ6 := HJB.out _ _ _ hJ5 bM
              have hk6 := hk5.below bM
              clear bM
              have z0 := q4.cell 0
              have z1 := q4.cell 1
              have z2 := q4.cell 2
              have z3 := q4.cell 3
              simp only [List.getElem?_toArray, List.getElem?_cons_zero, List.getElem?_cons_succ] at z0 z1 z2 z3
              have fz := fun o => q4.frozen o
              obtain ⟨c9, q9⟩ := q4.set4 (.bool false) (.slice d.a d.n d.c) (.bool false) (.slice pA (ln (am Za)) (ln (am Za)))
              have hno := q4.no (by simp)
              replace q5 := q5.ch c9 (by omega)
              replace qd := qd.ch c9 (by omega)
              replace qe := qe.ch c9 (by omega)
              replace ha := ha.ch c9 hno
              replace hb := hb.ch c9 hno
              replace hc := hc.ch c9 hno
              replace hd := hd.ch c9 hno
              replace kq := kq.ch c9 hno
              replace kr := kr.ch c9 hno
              replace kA := kA.ch c9 hno
              replace q10 := q10.ch c9 (by omega)
              replace hJ6 := HJC.out _ _ _ _ hJ6 g4 c9 hno
              replace hk6 := hk6.ch c9 q4
              have hH2 := (⟨(World.cell?_of_block (w := w0M) (a := ⟨b10, 0, none⟩) (c9.other (b10) (by omega))).trans hHeld.1, (World.cell?_of_block (w := w0M) (a := ⟨b10, 1, none⟩) (c9.other (b10) (by omega))).trans hHeld.2.1, (World.cell?_of_block (w := w0M) (a := ⟨wFl.heap.size + 1, 0, none⟩) (c9.other (wFl.heap.size + 1) (by omega))).trans hHeld.2.2.1, (World.cell?_of_block (w := w0M) (a := ⟨wFl.heap.size + 1, 1, none⟩) (c9.other (wFl.heap.size + 1) (by omega))).trans hHeld.2.2.2⟩ : _ ∧ _ ∧ _ ∧ _)
              go_simp
              clear z0 z1 z2 z3 fz hno c9
              replace q4 := q9
              refine hKK.out _ _ hH2 ?_
              clear hHeld
              intro hHeld
              clear hKK KK
              try simp only [pP, pN, pS, pZ, pC]
              clear hH2
              generalize ((((w0M.setCell ⟨b4, 0, none⟩ (.bool false)).setCell ⟨b4, 1, none⟩ (.slice d.a d.n d.c)).setCell ⟨b4, 2, none⟩ (.bool false)).setCell ⟨b4, 3, none⟩ (.slice pA (ln (am Za)) (ln (am Za)))) = w7 at q4 q5 qd qe ha hb hc hd kq kr kA q10 hJ6 hk6 hHeld ⊢
              refine wpAnyH_ready (rs := [9]) (by kernel_rfl) (by simp) ?_
              refine cons' rfl (fun KK hKK => ?_)
              have z0 := q5.cell 0
              have z1 := q5.cell 1
              have z2 := q5.cell 2
              have z3 := q5.cell 3
              simp only [List.getElem?_toArray, List.getElem?_cons_zero, List.getElem?_cons_succ] at z0 z1 z2 z3
              have fz := fun o => q5.frozen o
              obtain ⟨c9, q9⟩ := q5.set4 (.bool false) (.slice b.a b.n b.c) (.bool false) (.slice ar (ln (am Zg)) (ln (am Zg)))
              have hno := q5.no (by simp)
              replace q4 := q4.ch c9 (by omega)
              replace qd := qd.ch c9 (by omega)
              replace qe := qe.ch c9 (by omega)
              replace ha := ha.ch c9 hno
              replace hb := hb.ch c9 hno
              replace hc := hc.ch c9 hno
              replace hd := hd.ch c9 hno
              replace kq := kq.ch c9 hno
              replace kr := kr.ch c9 hno
              replace kA := kA.ch c9 hno
              replace q10 := q10.ch c9 (by omega)
              replace hJ6 := HJC.out _ _ _ _ hJ6 g5 c9 hno
              replace hk6 := hk6.ch c9 q5
              have hH2 := (⟨(World.cell?_of_block (w := w7) (a := ⟨b10, 0, none⟩) (c9.other (b10) (by omega))).trans hHeld.1, (World.cell?_of_block (w := w7) (a := ⟨b10, 1, none⟩) (c9.other (b10) (by omega))).trans hHeld.2.1, (World.cell?_of_block (w := w7) (a := ⟨wFl.heap.size + 1, 0, none⟩) (c9.other (wFl.heap.size + 1) (by omega))).trans hHeld.2.2.1, (World.cell?_of_block (w := w7) (a := ⟨wFl.heap.size + 1, 1, none⟩) (c9.other (wFl.heap.size + 1) (by omega))).trans hHeld.2.2.2⟩ : _ ∧ _ ∧ _ ∧ _)
              go_simp
              clear z0 z1 z2 z3 fz hno c9
              replace q5 := q9
              refine hKK.out _ _ hH2 ?_
              clear hHeld
              intro hHeld
              clear hKK KK
              try simp only [pP, pN, pS, pZ, pC]
              clear hH2
              generalize ((((w7.setCell ⟨b5, 0, none⟩ (.bool false)).setCell ⟨b5, 1, none⟩ (.slice b.a b.n b.c)).setCell ⟨b5, 2, none⟩ (.bool false)).setCell ⟨b5, 3, none⟩ (.slice ar (ln (am Zg)) (ln (am Zg)))) = w8 at q4 q5 qd qe ha hb hc hd kq kr kA q10 hJ6 hk6 hHeld ⊢
              refine wpAnyH_done (by kernel_rfl) ?_ _
              clear hHeld
              go_wp2_with fail
              obtain ⟨hSb, hgk, hm, hL, hcd, hcm, hZn, hZm, hZa, hC, hZg, hlt, hb0⟩ := HP.out
              obtain ⟨m, rfl⟩ : ∃ k, m = k + 1 := ⟨m - 1, by omega⟩
              have hC0 := HC0.out
              have hx : ¬ (a.val / (b.X : Int) + 1) * (d.X : Int) < c.val := by
                rw [hcd, hZn]
                rw [← hC] at hC0
                have h9 : ¬ Zn * (d.X : Int) - c.val * ((1 : Nat) : Int) < 0 := by
                  intro h9
                  have h8 : sgn (Zn * (d.X : Int) - c.val * ((1 : Nat) : Int)) = -1 := by unfold sgn; rw [if_pos h9]
                  omega
                omega
              have eA : ((am Za : Nat) : Int) = c.val - a.val / (b.X : Int) * d.X := by rw [hcd, hZm, hZa]; have := hA0.out; unfold am; omega
              have eG : ((am Zg : Nat) : Int) = a.val % (b.X : Int) := by rw [hcm]; unfold am; omega
              have eM : sbm (d.X : Int) ((am Za : Nat) : Int) (b.X : Int) ((am Zg : Nat) : Int) < gk := by rw [eA, eG, ← hgk]; exact hSb.less hx
              have hcp := hSb.c0
              have lA : ln (am Za) ≤ c.n := ln_le_of_lt (Nat.lt_of_le_of_lt (show am Za ≤ c.X by
                have h1 : 0 ≤ a.val / (b.X : Int) * (d.X : Int) := Int.mul_nonneg (by rw [hcd]; exact hf0) (by omega)
                have h2 : c.val ≤ (c.X : Int) := (sg_bounds c.s c.X).2
                omega) hc.1.1)
              have lG : ln (am Zg) ≤ b.n := ln_le_of_lt (Nat.lt_trans hlt hb.1.1)
              go_roundg (sbm (d.X : Int) ((am Za : Nat) : Int) (b.X : Int) ((am Zg : Nat) : Int))
              case measure => exact eM
              case rel =>
                refine ⟨s ++ [(⟨ng Zf, aq, ln (am Zf), ln (am Zf), am Zf⟩ : NV)], ⟨false, d.a, d.n, d.c, d.X⟩, ⟨false, pA, ln (am Za), ln (am Za), am Za⟩, ⟨false, b.a, b.n, b.c, b.X⟩, ⟨false, ar, ln (am Zg), ln (am Zg), am Zg⟩, q4, q5, hd, ⟨kA, Nat.le_refl _, by show ln (am Za) ≤ _; omega⟩, hb, ⟨kr, Nat.le_refl _, by show ln (am Zg) ≤ _; omega⟩, hJ6, hk6, ?_, rfl, ⟨z4, by show ln (am Za) ≤ _; omega, z2, by show ln (am Zg) ≤ _; omega⟩, m, by have := eM; omega, ?_⟩
                · show Sb (d.X : Int) ((am Za : Nat) : Int) (b.X : Int) ((am Zg : Nat) : Int)
                  rw [eA, eG]
                  exact hSb.next hx
                · show _ ++ sbl m (d.X : Int) ((am Za : Nat) : Int) (b.X : Int) ((am Zg : Nat) : Int) = L
                  rw [← hL, sbl, if_neg hx, eA, eG, List.map_append, List.append_assoc]
                  show _ ++ ([sg (ng Zf) (am Zf)] ++ _) = _
                  rw [sg_na, hcd]
                  rfl
            refine consT rfl (fun KK hKK => ?_) ?_
            · skip
              have z2 := q4.cell 2
              have z3 := q4.cell 3
              simp only [List.getElem?_toArray, List.getElem?_cons_zero, List.getElem?_cons_succ] at z2 z3
              go_simp
              clear z2 z3
              refine hKK.out _ _ hHeld ?_
              clear hHeld
              intro hHeld
              clear hKK KK
              try simp only [pP, pN, pS, pZ, pC]
              refine tk 7 (v := ?_) rfl (Or.inl ⟨by rfl, ?_⟩) ?_
              rotate_left
              · intro w9 hSw
                go_simp
                first | done | with_reducible rfl
              simp only [pP, pN, pS, pZ, pC]
              refine wpAnyH_ready (rs := [1]) (by kernel_rfl) (by simp) ?_
              refine cons' rfl (fun KK hKK => ?_)
              have z2 := q5.cell 2
              have z3 := q5.cell 3
              simp only [List.getElem?_toArray, List.getElem?_cons_zero, List.getElem?_cons_succ] at z2 z3
              go_simp
              clear z2 z3
              refine hKK.out _ _ hHeld ?_
              clear hHeld
              intro hHeld
              clear hKK KK
              try simp only [pP, pN, pS, pZ, pC]
              refine tk 3 (v := ?_) rfl (Or.inl ⟨by rfl, ?_⟩) ?_
              rotate_left
              · intro w9 hSw
                go_simp
                first | done | with_reducible rfl
              simp only [pP, pN, pS, pZ, pC]
              refine wpAnyH_ready (rs := [8]) (by kernel_rfl) (by simp) ?_
              refine cons' rfl (fun KK hKK => ?_)
              have hJ6 := HJB.out _ _ _ hJ5 bM
              have hk6 := hk5.below bM
              clear bM
              have z0 := q4.cell 0
              have z1 := q4.cell 1
              have z2 := q4.cell 2
              have z3 := q4.cell 3
              simp only [List.getElem?_toArray, List.getElem?_cons_zero, List.getElem?_cons_succ] at z0 z1 z2 z3
              have fz := fun o => q4.frozen o
              obtain ⟨c9, q9⟩ := q4.set4 (.bool false) (.slice d.a d.n d.c) (.bool false) (.slice pA (ln (am Za)) (ln (am Za)))
              have hno := q4.no (by simp)
              replace q5 := q5.ch c9 (by omega)
              replace qd := qd.ch c9 (by omega)
              replace qe := qe.ch c9 (by omega)
              replace ha := ha.ch c9 hno
              replace hb := hb.ch c9 hno
              replace hc := hc.ch c9 hno
              replace hd := hd.ch c9 hno
              replace kq := kq.ch c9 hno
              replace kr := kr.ch c9 hno
              replace kA := kA.ch c9 hno
              replace q10 := q10.ch c9 (by omega)
              replace hJ6 := HJC.out _ _ _ _ hJ6 g4 c9 hno
              replace hk6 := hk6.ch c9 q4
              have hH2 := (⟨(World.cell?_of_block (w := w0M) (a := ⟨b10, 0, none⟩) (c9.other (b10) (by omega))).trans hHeld.1, (World.cell?_of_block (w := w0M) (a := ⟨b10, 1, none⟩) (c9.other (b10) (by omega))).trans hHeld.2.1, (World.cell?_of_block (w := w0M) (a := ⟨wFl.heap.size + 1, 0, none⟩) (c9.other (wFl.heap.size + 1) (by omega))).trans hHeld.2.2.1, (World.cell?_of_block (w := w0M) (a := ⟨wFl.heap.size + 1, 1, none⟩) (c9.other (wFl.heap.size + 1) (by omega))).trans hHeld.2.2.2⟩ : _ ∧ _ ∧ _ ∧ _)
              go_simp
              clear z0 z1 z2 z3 fz hno c9
              replace q4 := q9
              refine hKK.out _ _ hH2 ?_
              clear hHeld
              intro hHeld
              clear hKK KK
              try simp only [pP, pN, pS, pZ, pC]
              clear hH2
              generalize ((((w0M.setCell ⟨b4, 0, none⟩ (.bool false)).setCell ⟨b4, 1, none⟩ (.slice d.a d.n d.c)).setCell ⟨b4, 2, none⟩ (.bool false)).setCell ⟨b4, 3, none⟩ (.slice pA (ln (am Za)) (ln (am Za)))) = w9 at q4 q5 qd qe ha hb hc hd kq kr kA q10 hJ6 hk6 hHeld ⊢
              refine wpAnyH_ready (rs := [9]) (by kernel_rfl) (by simp) ?_
              refine cons' rfl (fun KK hKK => ?_)
              have z0 := q5.cell 0
              have z1 := q5.cell 1
              have z2 := q5.cell 2
              have z3 := q5.cell 3
              simp only [List.getElem?_toArray, List.getElem?_cons_zero, List.getElem?_cons_succ] at z0 z1 z2 z3
              have fz := fun o => q5.frozen o
              obtain ⟨c9, q9⟩ := q5.set4 (.bool false) (.slice b.a b.n b.c) (.bool false) (.slice ar (ln (am Zg)) (ln (am Zg)))
              have hno := q5.no (by simp)
              replace q4 := q4.ch c9 (by omega)
              replace qd := qd.ch c9 (by omega)
              replace qe := qe.ch c9 (by omega)
              replace ha := ha.ch c9 hno
              replace hb := hb.ch c9 hno
              replace hc := hc.ch c9 hno
              replace hd := hd.ch c9 hno
              replace kq := kq.ch c9 hno
              replace kr := kr.ch c9 hno
              replace kA := kA.ch c9 hno
              replace q10 := q10.ch c9 (by omega)
              replace hJ6 := HJC.out _ _ _ _ hJ6 g5 c9 hno
              replace hk6 := hk6.ch c9 q5
              have hH2 := (⟨(World.cell?_of_block (w := w9) (a := ⟨b10, 0, none⟩) (c9.other (b10) (by omega))).trans hHeld.1, (World.cell?_of_block (w := w9) (a := ⟨b10, 1, none⟩) (c9.other (b10) (by omega))).trans hHeld.2.1, (World.cell?_of_block (w := w9) (a := ⟨wFl.heap.size + 1, 0, none⟩) (c9.other (wFl.heap.size + 1) (by omega))).trans hHeld.2.2.1, (World.cell?_of_block (w := w9) (a := ⟨wFl.heap.size + 1, 1, none⟩) (c9.other (wFl.heap.size + 1) (by omega))).trans hHeld.2.2.2⟩ : _ ∧ _ ∧ _ ∧ _)
              go_simp
              clear z0 z1 z2 z3 fz hno c9
              replace q5 := q9
              refine hKK.out _ _ hH2 ?_
              clear hHeld
              intro hHeld
              clear hKK KK
              try simp only [pP, pN, pS, pZ, pC]
              clear hH2
              generalize ((((w9.setCell ⟨b5, 0, none⟩ (.bool false)).setCell ⟨b5, 1, none⟩ (.slice b.a b.n b.c)).setCell ⟨b5, 2, none⟩ (.bool false)).setCell ⟨b5, 3, none⟩ (.slice ar (ln (am Zg)) (ln (am Zg)))) = w10 at q4 q5 qd qe ha hb hc hd kq kr kA q10 hJ6 hk6 hHeld ⊢
              refine wpAnyH_done (by kernel_rfl) ?_ _
              clear hHeld
              go_wp2_with fail
              obtain ⟨hSb, hgk, hm, hL, hcd, hcm, hZn, hZm, hZa, hC, hZg, hlt, hb0⟩ := HP.out
              obtain ⟨m, rfl⟩ : ∃ k, m = k + 1 := ⟨m - 1, by omega⟩
              have hC0 := HC0.out
              have hx : ¬ (a.val / (b.X : Int) + 1) * (d.X : Int) < c.val := by
                rw [hcd, hZn]
                rw [← hC] at hC0
                have h9 : ¬ Zn * (d.X : Int) - c.val * ((1 : Nat) : Int) < 0 := by
                  intro h9
                  have h8 : sgn (Zn * (d.X : Int) - c.val * ((1 : Nat) : Int)) = -1 := by unfold sgn; rw [if_pos h9]
                  omega
                omega
              have eA : ((am Za : Nat) : Int) = c.val - a.val / (b.X : Int) * d.X := by rw [hcd, hZm, hZa]; have := hA0.out; unfold am; omega
              have eG : ((am Zg : Nat) : Int) = a.val % (b.X : Int) := by rw [hcm]; unfold am; omega
              have eM : sbm (d.X : Int) ((am Za : Nat) : Int) (b.X : Int) ((am Zg : Nat) : Int) < gk := by rw [eA, eG, ← hgk]; exact hSb.less hx
              have hcp := hSb.c0
              have lA : ln (am Za) ≤ c.n := ln_le_of_lt (Nat.lt_of_le_of_lt (show am Za ≤ c.X by
                have h1 : 0 ≤ a.val / (b.X : Int) * (d.X : Int) := Int.mul_nonneg (by rw [hcd]; exact hf0) (by omega)
                have h2 : c.val ≤ (c.X : Int) := (sg_bounds c.s c.X).2
                omega) hc.1.1)
              have lG : ln (am Zg) ≤ b.n := ln_le_of_lt (Nat.lt_trans hlt hb.1.1)
              go_roundg (sbm (d.X : Int) ((am Za : Nat) : Int) (b.X : Int) ((am Zg : Nat) : Int))
              case measure => exact eM
              case rel =>
                refine ⟨s ++ [(⟨ng Zf, aq, ln (am Zf), ln (am Zf), am Zf⟩ : NV)], ⟨false, d.a, d.n, d.c, d.X⟩, ⟨false, pA, ln (am Za), ln (am Za), am Za⟩, ⟨false, b.a, b.n, b.c, b.X⟩, ⟨false, ar, ln (am Zg), ln (am Zg), am Zg⟩, q4, q5, hd, ⟨kA, Nat.le_refl _, by show ln (am Za) ≤ _; omega⟩, hb, ⟨kr, Nat.le_refl _, by show ln (am Zg) ≤ _; omega⟩, hJ6, hk6, ?_, rfl, ⟨z4, by show ln (am Za) ≤ _; omega, z2, by show ln (am Zg) ≤ _; omega⟩, m, by have := eM; omega, ?_⟩
                · show Sb (d.X : Int) ((am Za : Nat) : Int) (b.X : Int) ((am Zg : Nat) : Int)
                  rw [eA, eG]
                  exact hSb.next hx
                · show _ ++ sbl m (d.X : Int) ((am Za : Nat) : Int) (b.X : Int) ((am Zg : Nat) : Int) = L
                  rw [← hL, sbl, if_neg hx, eA, eG, List.map_append, List.append_assoc]
                  show _ ++ ([sg (ng Zf) (am Zf)] ++ _) = _
                  rw [sg_na, hcd]
                  rfl
            exact AllReadyH.nil
end Go.Proofs.YtejlnodillnoaaaGreatDoor
