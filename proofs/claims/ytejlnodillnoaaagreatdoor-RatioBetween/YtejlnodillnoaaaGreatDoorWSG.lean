import Derived.Test.YtejlnodillnoaaaGreatDoorWSF
set_option linter.unusedSimpArgs false
namespace Go.Proofs.YtejlnodillnoaaaGreatDoor
open Go.RowKit
set_option linter.unusedVariables false
def SQ (w : World) (S : Rat) (e : Ending) (w1 : World) : Prop := ∃ p q, e = .returned (.tuple #[.agg #[.bool (ng S.num), .slice p (ln (am S.num)) (ln (am S.num)), .slice q (ln S.den) (ln S.den)], .int .i64 0]) ∧ Below w.heap.size w w1 ∧ (nR S p q).ok w1
theorem vwholeQ0 (O : Rat) (hO : (0 : Rat) = O) (w : World) : Calls Tryz.prog 34 #[.int .i64 0] w (QA w O) := by
  subst hO
  refine (vqWhole_is 0 w (by omega) (by omega)).mono ?_
  rintro e w1 ⟨p, q, rfl, n1, n2⟩
  exact ⟨p, q, rfl, n1.below, ok_nR (r := (0 : Rat)) ⟨by show ln 0 ≤ _; rw [ln_zero]; omega, by show ln 1 ≤ _; rw [ln_one]; omega⟩ n1 n2⟩
set_option maxHeartbeats 8000000 in
set_option maxRecDepth 100000 in
theorem vstep1 (A B : RatV) (fl G : Int) (Fq U : Rat) (w : World) (hA : A.ok w) (hB : B.ok w) (hn : A.n ≤ 35184372087808 ∧ A.m ≤ 35184372087808 ∧ B.n ≤ 35184372087808 ∧ B.m ≤ 35184372087808) (hcmp : sR (A.val - B.val) = -1) (hfl : Fl (rn A.s A.X A.Y) ((rd A.Y : Nat) : Int) fl G) (lf : ln (am fl) ≤ 35184372087900) (hF : ((fl : Int) : Rat) = Fq) (hU : Fq + 1 = U) (zFq : sz 35184372088000 Fq) (zU : sz 35184372088000 U) (h1 : sR (U - B.val) = -1) (h2 : sR A.val = -1) (h3 : sR B.val = 1) (O : Rat) (hO : (0 : Rat) = O) :
    Calls Tryz.prog 9 #[.agg #[.bool A.s, .slice A.a A.n A.c, .slice A.b A.m A.e], .agg #[.bool B.s, .slice B.a B.n B.c, .slice B.b B.m B.e]] w (SQ w O) := by
  have GC := hide' (fun w' k1 k2 => vcmpQ A B w' k1 k2 (by omega) (-1) hcmp)
  have GF := hide' (fun w' k1 => vfloorV A fl G w' k1 ⟨hn.1, hn.2.1⟩ hfl)
  have GI := hide' (fun w' p k1 => vintQ fl p w' lf k1)
  rw [hF] at GI
  have GU := hide' (fun w' p q p1 q1 (k1 : (nR Fq p q).ok w') (k2 : (nR 1 p1 q1).ok w') => vaddQ (nR Fq p q) (nR 1 p1 q1) U w' k1 k2 ⟨zFq.1, zFq.2, by show ln (am 1) ≤ _; rw [show am 1 = 1 from rfl, ln_one]; omega, by show ln 1 ≤ _; rw [ln_one]; omega⟩ (by rw [nR_val, nR_val]; exact hU) zU)
  have GUB := hide' (fun w' p q (k1 : (nR U p q).ok w') k2 => vcmpQ (nR U p q) B w' k1 k2 ⟨zU.1, zU.2, Nat.le_trans hn.2.2.1 (by omega), Nat.le_trans hn.2.2.2 (by omega)⟩ (-1) (by rw [nR_val]; exact h1))
  have GSA := hide' (fun w' k1 => vsignQ A w' k1 (-1) h2)
  have GSB := hide' (fun w' k1 => vsignQ B w' k1 1 h3)
  have GW0 := hide' (fun w' => vwholeQ0 O hO w')
  clear hO
  clear hcmp hfl hF hU h1 h2 h3
  have bel : Below w.heap.size w w := Below.refl _ _
  have bb := below_alloc (w := w) (.cells #[.bool A.s, .slice A.a A.n A.c, .slice A.b A.m A.e] 27)
  replace hA := hA.on bb
  replace hB := hB.on bb
  replace bel := bel.trans (bb.mono bel.size)
  clear bb
  have qa := Blk.new w #[.bool A.s, .slice A.a A.n A.c, .slice A.b A.m A.e] 27
  have bb := below_alloc (w := (w.alloc (.cells #[.bool A.s, .slice A.a A.n A.c, .slice A.b A.m A.e] 27))) (.cells #[.bool B.s, .slice B.a B.n B.c, .slice B.b B.m B.e] 27)
  replace qa := qa.later bb
  replace hA := hA.on bb
  replace hB := hB.on bb
  replace bel := bel.trans (bb.mono bel.size)
  clear bb
  have qb := Blk.new (w.alloc (.cells #[.bool A.s, .slice A.a A.n A.c, .slice A.b A.m A.e] 27)) #[.bool B.s, .slice B.a B.n B.c, .slice B.b B.m B.e] 27
  simp only [World.size_alloc] at qb
  have bb := below_alloc (w := ((w.alloc (.cells #[.bool A.s, .slice A.a A.n A.c, .slice A.b A.m A.e] 27)).alloc (.cells #[.bool B.s, .slice B.a B.n B.c, .slice B.b B.m B.e] 27))) (.cells #[.bool false, .slice none 0 0, .slice none 0 0] 27)
  replace qa := qa.later bb
  replace qb := qb.later bb
  replace hA := hA.on bb
  replace hB := hB.on bb
  replace bel := bel.trans (bb.mono bel.size)
  clear bb
  have qr := Blk.new ((w.alloc (.cells #[.bool A.s, .slice A.a A.n A.c, .slice A.b A.m A.e] 27)).alloc (.cells #[.bool B.s, .slice B.a B.n B.c, .slice B.b B.m B.e] 27)) #[.bool false, .slice none 0 0, .slice none 0 0] 27
  simp only [World.size_alloc] at qr
  go_enter Tryz.func9, Tryz.ntmps9
  go_wp2_with fail
  obtain ⟨W0, hW⟩ : ∃ W, (((w.alloc (.cells #[.bool A.s, .slice A.a A.n A.c, .slice A.b A.m A.e] 27)).alloc (.cells #[.bool B.s, .slice B.a B.n B.c, .slice B.b B.m B.e] 27)).alloc (.cells #[.bool false, .slice none 0 0, .slice none 0 0] 27)) = W := ⟨_, rfl⟩
  rw [hW] at bel qa qb qr hA hB ⊢
  clear hW
  have lqr := qr.lt
  refine (GC.out _ hA hB).mono ?_
  rintro e w1 ⟨rfl, b1⟩
  have bb := b1
  replace qa := qa.later bb
  replace qb := qb.later bb
  replace qr := qr.later bb
  replace hA := hA.on bb
  replace hB := hB.on bb
  replace bel := bel.trans (bb.mono bel.size)
  clear bb
  clear b1
  clear GC
  have qa_0 := qa.cell 0
  have qa_1 := qa.cell 1
  have qa_2 := qa.cell 2
  simp only [List.getElem?_toArray, List.getElem?_cons_zero, List.getElem?_cons_succ] at qa_0 qa_1 qa_2
  go_wp2_with fail
  clear qa_0 qa_1 qa_2
  refine (GF.out _ hA).mono ?_
  rintro e w2 ⟨pf, rfl, nf1⟩
  have bb := nf1.below
  replace qa := qa.later bb
  replace qb := qb.later bb
  replace qr := qr.later bb
  replace hA := hA.on bb
  replace hB := hB.on bb
  replace bel := bel.trans (bb.mono bel.size)
  clear bb
  have kf := nf1.seg
  clear nf1
  go_wp2_with fail
  refine (GI.out _ pf kf).mono ?_
  rintro e w3 ⟨p6, q6, rfl, b1, o6⟩
  have bb := b1
  replace qa := qa.later bb
  replace qb := qb.later bb
  replace qr := qr.later bb
  replace kf := kf.later bb
  replace hA := hA.on bb
  replace hB := hB.on bb
  replace bel := bel.trans (bb.mono bel.size)
  clear bb
  clear b1
  clear kf
  have lq6bqa := qa.lt
  have lq6bqb := qb.lt
  have lq6bqr := qr.lt
  have bb := below_alloc (w := w3) (.cells #[.bool (ng Fq.num), .slice p6 (ln (am Fq.num)) (ln (am Fq.num)), .slice q6 (ln Fq.den) (ln Fq.den)] 27)
  replace qa := qa.later bb
  replace qb := qb.later bb
  replace qr := qr.later bb
  replace hA := hA.on bb
  replace hB := hB.on bb
  replace o6 := o6.on bb
  replace bel := bel.trans (bb.mono bel.size)
  clear bb
  have q6b := Blk.new w3 #[.bool (ng Fq.num), .slice p6 (ln (am Fq.num)) (ln (am Fq.num)), .slice q6 (ln Fq.den) (ln Fq.den)] 27
  go_wp2_with fail
  obtain ⟨wB, hW⟩ : ∃ W, (w3.alloc (.cells #[.bool (ng Fq.num), .slice p6 (ln (am Fq.num)) (ln (am Fq.num)), .slice q6 (ln Fq.den) (ln Fq.den)] 27)) = W := ⟨_, rfl⟩
  rw [hW] at bel qa qb qr q6b hA hB o6 ⊢
  clear hW
  have lqrB := qr.lt
  have l6B := q6b.lt
  have hbs := bel.size
  have bT : Below wB.heap.size wB wB := Below.refl _ _
  go_cut [7] from 24 to 26 (fun s7_ wx => ∃ wh9 c7 p7 q7, wh9 = wx ∧ s7_ = .pointer (some ⟨c7, 0, none⟩) ∧ wB.heap.size ≤ c7 ∧ Blk wx c7 #[.bool (ng U.num), .slice p7 (ln (am U.num)) (ln (am U.num)), .slice q7 (ln U.den) (ln U.den)] 27 ∧ (nR U p7 q7).ok wx ∧ Below wB.heap.size wB wx)
  case first =>
    have q6b_0 := q6b.cell 0
    have q6b_1 := q6b.cell 1
    have q6b_2 := q6b.cell 2
    simp only [List.getElem?_toArray, List.getElem?_cons_zero, List.getElem?_cons_succ] at q6b_0 q6b_1 q6b_2
    have bD : Below wB.heap.size wB wB.drew := (Below.refl _ _).drew
    have kq6b_0 := below_cell bD q6b_0
    have kq6b_1 := below_cell bD q6b_1
    have kq6b_2 := below_cell bD q6b_2
    replace hA := hA.on bD
    replace hB := hB.on bD
    replace o6 := o6.on bD
    replace bT := bT.trans (bD.mono bT.size)
    replace qa := qa.later bD
    replace qb := qb.later bD
    replace qr := qr.later bD
    replace q6b := q6b.later bD
    refine wp_region_held_drew (S := fun w' => w'.cell? ⟨w3.heap.size, 0, none⟩ = some (.bool (ng Fq.num)) ∧ w'.cell? ⟨w3.heap.size, 1, none⟩ = some (.slice p6 (ln (am Fq.num)) (ln (am Fq.num))) ∧ w'.cell? ⟨w3.heap.size, 2, none⟩ = some (.slice q6 (ln Fq.den) (ln Fq.den))) (by kernel_rfl) ⟨kq6b_0, kq6b_1, kq6b_2⟩ (fun hHeld => ?_)
    clear kq6b_0 kq6b_1 kq6b_2
    generalize wB.drew = w0F at bD hA hB o6 qa qb qr q6b bT hHeld ⊢
    clear bD q6b_0 q6b_1 q6b_2
    clear qa qb qr q6b hA hB
    refine tk 0 (v := ?_) rfl (Or.inl ⟨by rfl, ?_⟩) ?_
    rotate_left
    · intro w9 hSw
      go_simp
      first | done | with_reducible rfl
    simp only [pP, pN, pS, pZ, pC]
    refine wpAnyH_ready (rs := [1, 3]) (by kernel_rfl) (by simp) ?_
    refine consT rfl (fun KK hKK => ?_) ?_
    · skip
      go_simp
      refine (vwholeQ1 _).mono ?_
      rintro e w4 ⟨p1, q1, rfl, b1, o1⟩
      have bC := b1
      replace o6 := o6.on bC
      replace bT := bT.trans (bC.mono bT.size)
      replace hHeld := (⟨below_cell bC hHeld.1, below_cell bC hHeld.2.1, below_cell bC hHeld.2.2⟩ : _ ∧ _ ∧ _)
      clear bC
      go_wp2_with fail
      clear b1
      refine hKK.out _ _ hHeld ?_
      clear hHeld
      intro hHeld
      clear hKK KK
      try simp only [pP, pN, pS, pZ, pC]
      refine wpAnyH_ready (rs := [2, 3]) (by kernel_rfl) (by simp) ?_
      refine consT rfl (fun KK hKK => ?_) ?_
      · skip
        go_simp
        refine (GU.out _ p6 q6 p1 q1 o6 o1).mono ?_
        rintro e w5 ⟨p7, q7, rfl, b1, o7⟩
        have bC := b1
        replace o6 := o6.on bC
        replace o1 := o1.on bC
        replace bT := bT.trans (bC.mono bT.size)
        replace hHeld := (⟨below_cell bC hHeld.1, below_cell bC hHeld.2.1, below_cell bC hHeld.2.2⟩ : _ ∧ _ ∧ _)
        clear bC
        go_wp2_with fail
        clear b1
        refine hKK.out _ _ hHeld ?_
        clear hHeld
        intro hHeld
        clear hKK KK
        try simp only [pP, pN, pS, pZ, pC]
        refine wpAnyH_ready (rs := [3]) (by kernel_rfl) (by simp) ?_
        refine cons' rfl (fun KK hKK => ?_)
        go_simp
        have q7b := Blk.new w5 #[.bool false, .slice none 0 0, .slice none 0 0] 27
        have bA := below_alloc (w := w5) (.cells #[.bool false, .slice none 0 0, .slice none 0 0] 27)
        have hq7bge := bT.size
        have hq7bc0 := cell_ltB hHeld.1
        have hq7bc1 := cell_ltB hHeld.2.1
        have hq7bc2 := cell_ltB hHeld.2.2
        generalize w5.alloc (.cells #[.bool false, .slice none 0 0, .slice none 0 0] 27) = w6 at q7b bA ⊢
        replace o6 := o6.on bA
        replace o1 := o1.on bA
        replace o7 := o7.on bA
        replace bT := bT.trans (bA.mono bT.size)
        replace hHeld := (⟨below_cell bA hHeld.1, below_cell bA hHeld.2.1, below_cell bA hHeld.2.2⟩ : _ ∧ _ ∧ _)
        clear bA
        refine hKK.out _ _ hHeld ?_
        clear hHeld
        intro hHeld
        clear hKK KK
        try simp only [pP, pN, pS, pZ, pC]
        obtain ⟨cq7b, hcc⟩ : ∃ cc, w5.heap.size = cc := ⟨_, rfl⟩
        rw [hcc] at q7b hq7bge hq7bc0 hq7bc1 hq7bc2
        try rw [hcc]
        clear hcc
        refine wpAnyH_ready (rs := [4]) (by kernel_rfl) (by simp) ?_
        refine cons' rfl (fun KK hKK => ?_)
        have z0 := q7b.cell 0
        have z1 := q7b.cell 1
        have z2 := q7b.cell 2
        simp only [List.getElem?_toArray, List.getElem?_cons_zero, List.getElem?_cons_succ] at z0 z1 z2
        have fz := fun o => q7b.frozen o
        obtain ⟨c9, q9⟩ := q7b.set3 (.bool (ng U.num)) (.slice p7 (ln (am U.num)) (ln (am U.num))) (.slice q7 (ln U.den) (ln U.den))
        have hno := q7b.no (by simp)
        replace o6 := o6.ch c9 hno
        replace o1 := o1.ch c9 hno
        replace o7 := o7.ch c9 hno
        replace bT := bT.trans (c9.below (by omega))
        have hH2 := (⟨(World.cell?_of_block (w := w6) (a := ⟨w3.heap.size, 0, none⟩) (c9.other (w3.heap.size) (by omega))).trans hHeld.1, (World.cell?_of_block (w := w6) (a := ⟨w3.heap.size, 1, none⟩) (c9.other (w3.heap.size) (by omega))).trans hHeld.2.1, (World.cell?_of_block (w := w6) (a := ⟨w3.heap.size, 2, none⟩) (c9.other (w3.heap.size) (by omega))).trans hHeld.2.2⟩ : _ ∧ _ ∧ _)
        go_simp
        clear z0 z1 z2 fz hno c9
        replace q7b := q9
        refine hKK.out _ _ hH2 ?_
        clear hHeld
        intro hHeld
        clear hKK KK
        try simp only [pP, pN, pS, pZ, pC]
        clear hH2
        generalize (((w6.setCell ⟨cq7b, 0, none⟩ (.bool (ng U.num))).setCell ⟨cq7b, 1, none⟩ (.slice p7 (ln (am U.num)) (ln (am U.num)))).setCell ⟨cq7b, 2, none⟩ (.slice q7 (ln U.den) (ln U.den))) = w7 at bT q7b o6 o1 o7 hHeld ⊢
        refine wpAnyH_done (by kernel_rfl) ?_ _
        go_wp2_with fail
        go_meet
        exact ⟨_, cq7b, p7, q7, rfl, rfl, hq7bge, q7b, o7, bT⟩
      refine consT rfl (fun KK hKK => ?_) ?_
      · skip
        go_simp
        have q7b := Blk.new w4 #[.bool false, .slice none 0 0, .slice none 0 0] 27
        have bA := below_alloc (w := w4) (.cells #[.bool false, .slice none 0 0, .slice none 0 0] 27)
        have hq7bge := bT.size
        have hq7bc0 := cell_ltB hHeld.1
        have hq7bc1 := cell_ltB hHeld.2.1
        have hq7bc2 := cell_ltB hHeld.2.2
        generalize w4.alloc (.cells #[.bool false, .slice none 0 0, .slice none 0 0] 27) = w8 at q7b bA ⊢
        replace o6 := o6.on bA
        replace o1 := o1.on bA
        replace bT := bT.trans (bA.mono bT.size)
        replace hHeld := (⟨below_cell bA hHeld.1, below_cell bA hHeld.2.1, below_cell bA hHeld.2.2⟩ : _ ∧ _ ∧ _)
        clear bA
        refine hKK.out _ _ hHeld ?_
        clear hHeld
        intro hHeld
        clear hKK KK
        try simp only [pP, pN, pS, pZ, pC]
        obtain ⟨cq7b, hcc⟩ : ∃ cc, w4.heap.size = cc := ⟨_, rfl⟩
        rw [hcc] at q7b hq7bge hq7bc0 hq7bc1 hq7bc2
        try rw [hcc]
        clear hcc
        refine wpAnyH_ready (rs := [2]) (by kernel_rfl) (by simp) ?_
        refine cons' rfl (fun KK hKK => ?_)
        go_simp
        refine (GU.out _ p6 q6 p1 q1 o6 o1).mono ?_
        rintro e w9 ⟨p7, q7, rfl, b1, o7⟩
        have bC := b1
        replace o6 := o6.on bC
        replace o1 := o1.on bC
        replace bT := bT.trans (bC.mono bT.size)
        replace q7b := q7b.later bC
        replace hHeld := (⟨below_cell bC hHeld.1, below_cell bC hHeld.2.1, below_cell bC hHeld.2.2⟩ : _ ∧ _ ∧ _)
        clear bC
        go_wp2_with fail
        clear b1
        refine hKK.out _ _ hHeld ?_
        clear hHeld
        intro hHeld
        clear hKK KK
        try simp only [pP, pN, pS, pZ, pC]
        refine wpAnyH_ready (rs := [4]) (by kernel_rfl) (by simp) ?_
        refine cons' rfl (fun KK hKK => ?_)
        have z0 := q7b.cell 0
        have z1 := q7b.cell 1
        have z2 := q7b.cell 2
        simp only [List.getElem?_toArray, List.getElem?_cons_zero, List.getElem?_cons_succ] at z0 z1 z2
        have fz := fun o => q7b.frozen o
        obtain ⟨c9, q9⟩ := q7b.set3 (.bool (ng U.num)) (.slice p7 (ln (am U.num)) (ln (am U.num))) (.slice q7 (ln U.den) (ln U.den))
        have hno := q7b.no (by simp)
        replace o6 := o6.ch c9 hno
        replace o1 := o1.ch c9 hno
        replace o7 := o7.ch c9 hno
        replace bT := bT.trans (c9.below (by omega))
        have hH2 := (⟨(World.cell?_of_block (w := w9) (a := ⟨w3.heap.size, 0, none⟩) (c9.other (w3.heap.size) (by omega))).trans hHeld.1, (World.cell?_of_block (w := w9) (a := ⟨w3.heap.size, 1, none⟩) (c9.other (w3.heap.size) (by omega))).trans hHeld.2.1, (World.cell?_of_block (w := w9) (a := ⟨w3.heap.size, 2, none⟩) (c9.other (w3.heap.size) (by omega))).trans hHeld.2.2⟩ : _ ∧ _ ∧ _)
        go_simp
        clear z0 z1 z2 fz hno c9
        replace q7b := q9
        refine hKK.out _ _ hH2 ?_
        clear hHeld
        intro hHeld
        clear hKK KK
        try simp only [pP, pN, pS, pZ, pC]
        clear hH2
        generalize (((w9.setCell ⟨cq7b, 0, none⟩ (.bool (ng U.num))).setCell ⟨cq7b, 1, none⟩ (.slice p7 (ln (am U.num)) (ln (am U.num)))).setCell ⟨cq7b, 2, none⟩ (.slice q7 (ln U.den) (ln U.den))) = w10 at bT q7b o6 o1 o7 hHeld ⊢
        refine wpAnyH_done (by kernel_rfl) ?_ _
        go_wp2_with fail
        go_meet
        exact ⟨_, cq7b, p7, q7, rfl, rfl, hq7bge, q7b, o7, bT⟩
      exact AllReadyH.nil
    refine consT rfl (fun KK hKK => ?_) ?_
    · skip
      go_simp
      have q7b := Blk.new w0F #[.bool false, .slice none 0 0, .slice none 0 0] 27
      have bA := below_alloc (w := w0F) (.cells #[.bool false, .slice none 0 0, .slice none 0 0] 27)
      have hq7bge := bT.size
      have hq7bc0 := cell_ltB hHeld.1
      have hq7bc1 := cell_ltB hHeld.2.1
      have hq7bc2 := cell_ltB hHeld.2.2
      generalize w0F.alloc (.cells #[.bool false, .slice none 0 0, .slice none 0 0] 27) = w11 at q7b bA ⊢
      replace o6 := o6.on bA
      replace bT := bT.trans (bA.mono bT.size)
      replace hHeld := (⟨below_cell bA hHeld.1, below_cell bA hHeld.2.1, below_cell bA hHeld.2.2⟩ : _ ∧ _ ∧ _)
      clear bA
      refine hKK.out _ _ hHeld ?_
      clear hHeld
      intro hHeld
      clear hKK KK
      try simp only [pP, pN, pS, pZ, pC]
      obtain ⟨cq7b, hcc⟩ : ∃ cc, w0F.heap.size = cc := ⟨_, rfl⟩
      rw [hcc] at q7b hq7bge hq7bc0 hq7bc1 hq7bc2
      try rw [hcc]
      clear hcc
      refine wpAnyH_ready (rs := [1]) (by kernel_rfl) (by simp) ?_
      refine cons' rfl (fun KK hKK => ?_)
      go_simp
      refine (vwholeQ1 _).mono ?_
      rintro e w12 ⟨p1, q1, rfl, b1, o1⟩
      have bC := b1
      replace o6 := o6.on bC
      replace bT := bT.trans (bC.mono bT.size)
      replace q7b := q7b.later bC
      replace hHeld := (⟨below_cell bC hHeld.1, below_cell bC hHeld.2.1, below_cell bC hHeld.2.2⟩ : _ ∧ _ ∧ _)
      clear bC
      go_wp2_with fail
      clear b1
      refine hKK.out _ _ hHeld ?_
      clear hHeld
      intro hHeld
      clear hKK KK
      try simp only [pP, pN, pS, pZ, pC]
      refine wpAnyH_ready (rs := [2]) (by kernel_rfl) (by simp) ?_
      refine cons' rfl (fun KK hKK => ?_)
      go_simp
      refine (GU.out _ p6 q6 p1 q1 o6 o1).mono ?_
      rintro e w13 ⟨p7, q7, rfl, b1, o7⟩
      have bC := b1
      replace o6 := o6.on bC
      replace o1 := o1.on bC
      replace bT := bT.trans (bC.mono bT.size)
      replace q7b := q7b.later bC
      replace hHeld := (⟨below_cell bC hHeld.1, below_cell bC hHeld.2.1, below_cell bC hHeld.2.2⟩ : _ ∧ _ ∧ _)
      clear bC
      go_wp2_with fail
      clear b1
      refine hKK.out _ _ hHeld ?_
      clear hHeld
      intro hHeld
      clear hKK KK
      try simp only [pP, pN, pS, pZ, pC]
      refine wpAnyH_ready (rs := [4]) (by kernel_rfl) (by simp) ?_
      refine cons' rfl (fun KK hKK => ?_)
      have z0 := q7b.cell 0
      have z1 := q7b.cell 1
      have z2 := q7b.cell 2
      simp only [List.getElem?_toArray, List.getElem?_cons_zero, List.getElem?_cons_succ] at z0 z1 z2
      have fz := fun o => q7b.frozen o
      obtain ⟨c9, q9⟩ := q7b.set3 (.bool (ng U.num)) (.slice p7 (ln (am U.num)) (ln (am U.num))) (.slice q7 (ln U.den) (ln U.den))
      have hno := q7b.no (by simp)
      replace o6 := o6.ch c9 hno
      replace o1 := o1.ch c9 hno
      replace o7 := o7.ch c9 hno
      replace bT := bT.trans (c9.below (by omega))
      have hH2 := (⟨(World.cell?_of_block (w := w13) (a := ⟨w3.heap.size, 0, none⟩) (c9.other (w3.heap.size) (by omega))).trans hHeld.1, (World.cell?_of_block (w := w13) (a := ⟨w3.heap.size, 1, none⟩) (c9.other (w3.heap.size) (by omega))).trans hHeld.2.1, (World.cell?_of_block (w := w13) (a := ⟨w3.heap.size, 2, none⟩) (c9.other (w3.heap.size) (by omega))).trans hHeld.2.2⟩ : _ ∧ _ ∧ _)
      go_simp
      clear z0 z1 z2 fz hno c9
      replace q7b := q9
      refine hKK.out _ _ hH2 ?_
      clear hHeld
      intro hHeld
      clear hKK KK
      try simp only [pP, pN, pS, pZ, pC]
      clear hH2
      generalize (((w13.setCell ⟨cq7b, 0, none⟩ (.bool (ng U.num))).setCell ⟨cq7b, 1, none⟩ (.slice p7 (ln (am U.num)) (ln (am U.num)))).setCell ⟨cq7b, 2, none⟩ (.slice q7 (ln U.den) (ln U.den))) = w14 at bT q7b o6 o1 o7 hHeld ⊢
      refine wpAnyH_done (by kernel_rfl) ?_ _
      go_wp2_with fail
      go_meet
      exact ⟨_, cq7b, p7, q7, rfl, rfl, hq7bge, q7b, o7, bT⟩
    exact AllReadyH.nil
  case rest =>
    obtain ⟨wc15, c7, p7, q7, hwv, rfl, g7, q7b, o7, bT⟩ := hcut
    subst hwv
    replace qa := qa.later bT
    replace qb := qb.later bT
    replace qr := qr.later bT
    replace q6b := q6b.later bT
    replace hA := hA.on bT
    replace hB := hB.on bT
    replace o6 := o6.on bT
    replace bel := bel.trans (bT.mono bel.size)
    clear bT
    clear GU hbs
    have q7b_0 := q7b.cell 0
    have q7b_1 := q7b.cell 1
    have q7b_2 := q7b.cell 2
    have qb_0 := qb.cell 0
    have qb_1 := qb.cell 1
    have qb_2 := qb.cell 2
    simp only [List.getElem?_toArray, List.getElem?_cons_zero, List.getElem?_cons_succ] at q7b_0 q7b_1 q7b_2 qb_0 qb_1 qb_2
    go_wp2_with fail
    clear q7b_0 q7b_1 q7b_2 qb_0 qb_1 qb_2
    refine (GUB.out _ p7 q7 o7 hB).mono ?_
    rintro e w16 ⟨rfl, b1⟩
    have bb := b1
    replace qa := qa.later bb
    replace qb := qb.later bb
    replace qr := qr.later bb
    replace q6b := q6b.later bb
    replace q7b := q7b.later bb
    replace hA := hA.on bb
    replace hB := hB.on bb
    replace o6 := o6.on bb
    replace o7 := o7.on bb
    replace bel := bel.trans (bb.mono bel.size)
    clear bb
    clear b1
    clear GUB
    have qa_0 := qa.cell 0
    have qa_1 := qa.cell 1
    have qa_2 := qa.cell 2
    simp only [List.getElem?_toArray, List.getElem?_cons_zero, List.getElem?_cons_succ] at qa_0 qa_1 qa_2
    go_wp2_with fail
    clear qa_0 qa_1 qa_2
    refine (GSA.out _ hA).mono ?_
    rintro e w17 ⟨rfl, b1⟩
    have bb := b1
    replace qa := qa.later bb
    replace qb := qb.later bb
    replace qr := qr.later bb
    replace q6b := q6b.later bb
    replace q7b := q7b.later bb
    replace hA := hA.on bb
    replace hB := hB.on bb
    replace o6 := o6.on bb
    replace o7 := o7.on bb
    replace bel := bel.trans (bb.mono bel.size)
    clear bb
    clear b1
    have qb_0 := qb.cell 0
    have qb_1 := qb.cell 1
    have qb_2 := qb.cell 2
    simp only [List.getElem?_toArray, List.getElem?_cons_zero, List.getElem?_cons_succ] at qb_0 qb_1 qb_2
    go_wp2_with fail
    clear qb_0 qb_1 qb_2
    refine (GSB.out _ hB).mono ?_
    rintro e w18 ⟨rfl, b1⟩
    have bb := b1
    replace qa := qa.later bb
    replace qb := qb.later bb
    replace qr := qr.later bb
    replace q6b := q6b.later bb
    replace q7b := q7b.later bb
    replace hA := hA.on bb
    replace hB := hB.on bb
    replace o6 := o6.on bb
    replace o7 := o7.on bb
    replace bel := bel.trans (bb.mono bel.size)
    clear bb
    clear b1
    go_wp2_with fail
    refine (GW0.out _).mono ?_
    rintro e w19 ⟨pR, qR, rfl, b1, o9⟩
    have bb := b1
    replace qa := qa.later bb
    replace qb := qb.later bb
    replace qr := qr.later bb
    replace q6b := q6b.later bb
    replace q7b := q7b.later bb
    replace hA := hA.on bb
    replace hB := hB.on bb
    replace o6 := o6.on bb
    replace o7 := o7.on bb
    replace bel := bel.trans (bb.mono bel.size)
    clear bb
    clear b1
    have qr_0 := qr.cell 0
    have qr_1 := qr.cell 1
    have qr_2 := qr.cell 2
    simp only [List.getElem?_toArray, List.getElem?_cons_zero, List.getElem?_cons_succ] at qr_0 qr_1 qr_2
    have fz := fun o => qr.frozen o
    go_wp2
    obtain ⟨c9, q9⟩ := qr.set3 (.bool (ng O.num)) (.slice pR (ln (am O.num)) (ln (am O.num))) (.slice qR (ln O.den) (ln O.den))
    have hno := qr.no (by simp)
    replace qa := qa.ch c9 (by omega)
    replace qb := qb.ch c9 (by omega)
    replace q6b := q6b.ch c9 (by omega)
    replace q7b := q7b.ch c9 (by omega)
    replace hA := hA.ch c9 hno
    replace hB := hB.ch c9 hno
    replace o6 := o6.ch c9 hno
    replace o7 := o7.ch c9 hno
    replace o9 := o9.ch c9 hno
    replace bel := bel.trans (c9.below (by omega))
    clear qr_0 qr_1 qr_2
    clear fz hno
    replace qr := q9
    have qr_0 := qr.cell 0
    have qr_1 := qr.cell 1
    have qr_2 := qr.cell 2
    simp only [List.getElem?_toArray, List.getElem?_cons_zero, List.getElem?_cons_succ] at qr_0 qr_1 qr_2
    refine bodyPost_ret (v := .tuple #[.agg #[.bool (ng O.num), .slice pR (ln (am O.num)) (ln (am O.num)), .slice qR (ln O.den) (ln O.den)], .int .i64 0]) (by rw [results_ct rfl]; go_simp) rfl ?_
    exact ⟨pR, qR, rfl, bel, o9⟩
set_option maxHeartbeats 8000000 in
set_option maxRecDepth 100000 in
theorem vstep2 (A B : RatV) (fl G : Int) (Fq U : Rat) (w : World) (hA : A.ok w) (hB : B.ok w) (hn : A.n ≤ 35184372087808 ∧ A.m ≤ 35184372087808 ∧ B.n ≤ 35184372087808 ∧ B.m ≤ 35184372087808) (hcmp : sR (A.val - B.val) = -1) (hfl : Fl (rn A.s A.X A.Y) ((rd A.Y : Nat) : Int) fl G) (lf : ln (am fl) ≤ 35184372087900) (hF : ((fl : Int) : Rat) = Fq) (hU : Fq + 1 = U) (zFq : sz 35184372088000 Fq) (zU : sz 35184372088000 U) (h1 : sR (U - B.val) = -1) (SA : Int) (h2 : sR A.val = SA) (h3 : 0 ≤ SA) :
    Calls Tryz.prog 9 #[.agg #[.bool A.s, .slice A.a A.n A.c, .slice A.b A.m A.e], .agg #[.bool B.s, .slice B.a B.n B.c, .slice B.b B.m B.e]] w (SQ w U) := by
  have GC := hide' (fun w' k1 k2 => vcmpQ A B w' k1 k2 (by omega) (-1) hcmp)
  have GF := hide' (fun w' k1 => vfloorV A fl G w' k1 ⟨hn.1, hn.2.1⟩ hfl)
  have GI := hide' (fun w' p k1 => vintQ fl p w' lf k1)
  rw [hF] at GI
  have GU := hide' (fun w' p q p1 q1 (k1 : (nR Fq p q).ok w') (k2 : (nR 1 p1 q1).ok w') => vaddQ (nR Fq p q) (nR 1 p1 q1) U w' k1 k2 ⟨zFq.1, zFq.2, by show ln (am 1) ≤ _; rw [show am 1 = 1 from rfl, ln_one]; omega, by show ln 1 ≤ _; rw [ln_one]; omega⟩ (by rw [nR_val, nR_val]; exact hU) zU)
  have GUB := hide' (fun w' p q (k1 : (nR U p q).ok w') k2 => vcmpQ (nR U p q) B w' k1 k2 ⟨zU.1, zU.2, Nat.le_trans hn.2.2.1 (by omega), Nat.le_trans hn.2.2.2 (by omega)⟩ (-1) (by rw [nR_val]; exact h1))
  have GSA := hide' (fun w' k1 => vsignQ A w' k1 SA h2)
  clear hcmp hfl hF hU h1 h2
  have bel : Below w.heap.size w w := Below.refl _ _
  have bb := below_alloc (w := w) (.cells #[.bool A.s, .slice A.a A.n A.c, .slice A.b A.m A.e] 27)
  replace hA := hA.on bb
  replace hB := hB.on bb
  replace bel := bel.trans (bb.mono bel.size)
  clear bb
  have qa := Blk.new w #[.bool A.s, .slice A.a A.n A.c, .slice A.b A.m A.e] 27
  have bb := below_alloc (w := (w.alloc (.cells #[.bool A.s, .slice A.a A.n A.c, .slice A.b A.m A.e] 27))) (.cells #[.bool B.s, .slice B.a B.n B.c, .slice B.b B.m B.e] 27)
  replace qa := qa.later bb
  replace hA := hA.on bb
  replace hB := hB.on bb
  replace bel := bel.trans (bb.mono bel.size)
  clear bb
  have qb := Blk.new (w.alloc (.cells #[.bool A.s, .slice A.a A.n A.c, .slice A.b A.m A.e] 27)) #[.bool B.s, .slice B.a B.n B.c, .slice B.b B.m B.e] 27
  simp only [World.size_alloc] at qb
  have bb := below_alloc (w := ((w.alloc (.cells #[.bool A.s, .slice A.a A.n A.c, .slice A.b A.m A.e] 27)).alloc (.cells #[.bool B.s, .slice B.a B.n B.c, .slice B.b B.m B.e] 27))) (.cells #[.bool false, .slice none 0 0, .slice none 0 0] 27)
  replace qa := qa.later bb
  replace qb := qb.later bb
  replace hA := hA.on bb
  replace hB := hB.on bb
  replace bel := bel.trans (bb.mono bel.size)
  clear bb
  have qr := Blk.new ((w.alloc (.cells #[.bool A.s, .slice A.a A.n A.c, .slice A.b A.m A.e] 27)).alloc (.cells #[.bool B.s, .slice B.a B.n B.c, .slice B.b B.m B.e] 27)) #[.bool false, .slice none 0 0, .slice none 0 0] 27
  simp only [World.size_alloc] at qr
  go_enter Tryz.func9, Tryz.ntmps9
  go_wp2_with fail
  obtain ⟨W0, hW⟩ : ∃ W, (((w.alloc (.cells #[.bool A.s, .slice A.a A.n A.c, .slice A.b A.m A.e] 27)).alloc (.cells #[.bool B.s, .slice B.a B.n B.c, .slice B.b B.m B.e] 27)).alloc (.cells #[.bool false, .slice none 0 0, .slice none 0 0] 27)) = W := ⟨_, rfl⟩
  rw [hW] at bel qa qb qr hA hB ⊢
  clear hW
  have lqr := qr.lt
  refine (GC.out _ hA hB).mono ?_
  rintro e w1 ⟨rfl, b1⟩
  have bb := b1
  replace qa := qa.later bb
  replace qb := qb.later bb
  replace qr := qr.later bb
  replace hA := hA.on bb
  replace hB := hB.on bb
  replace bel := bel.trans (bb.mono bel.size)
  clear bb
  clear b1
  clear GC
  have qa_0 := qa.cell 0
  have qa_1 := qa.cell 1
  have qa_2 := qa.cell 2
  simp only [List.getElem?_toArray, List.getElem?_cons_zero, List.getElem?_cons_succ] at qa_0 qa_1 qa_2
  go_wp2_with fail
  clear qa_0 qa_1 qa_2
  refine (GF.out _ hA).mono ?_
  rintro e w2 ⟨pf, rfl, nf1⟩
  have bb := nf1.below
  replace qa := qa.later bb
  replace qb := qb.later bb
  replace qr := qr.later bb
  replace hA := hA.on bb
  replace hB := hB.on bb
  replace bel := bel.trans (bb.mono bel.size)
  clear bb
  have kf := nf1.seg
  clear nf1
  go_wp2_with fail
  refine (GI.out _ pf kf).mono ?_
  rintro e w3 ⟨p6, q6, rfl, b1, o6⟩
  have bb := b1
  replace qa := qa.later bb
  replace qb := qb.later bb
  replace qr := qr.later bb
  replace kf := kf.later bb
  replace hA := hA.on bb
  replace hB := hB.on bb
  replace bel := bel.trans (bb.mono bel.size)
  clear bb
  clear b1
  clear kf
  have lq6bqa := qa.lt
  have lq6bqb := qb.lt
  have lq6bqr := qr.lt
  have bb := below_alloc (w := w3) (.cells #[.bool (ng Fq.num), .slice p6 (ln (am Fq.num)) (ln (am Fq.num)), .slice q6 (ln Fq.den) (ln Fq.den)] 27)
  replace qa := qa.later bb
  replace qb := qb.later bb
  replace qr := qr.later bb
  replace hA := hA.on bb
  replace hB := hB.on bb
  replace o6 := o6.on bb
  replace bel := bel.trans (bb.mono bel.size)
  clear bb
  have q6b := Blk.new w3 #[.bool (ng Fq.num), .slice p6 (ln (am Fq.num)) (ln (am Fq.num)), .slice q6 (ln Fq.den) (ln Fq.den)] 27
  go_wp2_with fail
  obtain ⟨wB, hW⟩ : ∃ W, (w3.alloc (.cells #[.bool (ng Fq.num), .slice p6 (ln (am Fq.num)) (ln (am Fq.num)), .slice q6 (ln Fq.den) (ln Fq.den)] 27)) = W := ⟨_, rfl⟩
  rw [hW] at bel qa qb qr q6b hA hB o6 ⊢
  clear hW
  have lqrB := qr.lt
  have l6B := q6b.lt
  have hbs := bel.size
  have bT : Below wB.heap.size wB wB := Below.refl _ _
  go_cut [7] from 24 to 26 (fun s7_ wx => ∃ wh9 c7 p7 q7, wh9 = wx ∧ s7_ = .pointer (some ⟨c7, 0, none⟩) ∧ wB.heap.size ≤ c7 ∧ Blk wx c7 #[.bool (ng U.num), .slice p7 (ln (am U.num)) (ln (am U.num)), .slice q7 (ln U.den) (ln U.den)] 27 ∧ (nR U p7 q7).ok wx ∧ Below wB.heap.size wB wx)
  case first =>
    have q6b_0 := q6b.cell 0
    have q6b_1 := q6b.cell 1
    have q6b_2 := q6b.cell 2
    simp only [List.getElem?_toArray, List.getElem?_cons_zero, List.getElem?_cons_succ] at q6b_0 q6b_1 q6b_2
    have bD : Below wB.heap.size wB wB.drew := (Below.refl _ _).drew
    have kq6b_0 := below_cell bD q6b_0
    have kq6b_1 := below_cell bD q6b_1
    have kq6b_2 := below_cell bD q6b_2
    replace hA := hA.on bD
    replace hB := hB.on bD
    replace o6 := o6.on bD
    replace bT := bT.trans (bD.mono bT.size)
    replace qa := qa.later bD
    replace qb := qb.later bD
    replace qr := qr.later bD
    replace q6b := q6b.later bD
    refine wp_region_held_drew (S := fun w' => w'.cell? ⟨w3.heap.size, 0, none⟩ = some (.bool (ng Fq.num)) ∧ w'.cell? ⟨w3.heap.size, 1, none⟩ = some (.slice p6 (ln (am Fq.num)) (ln (am Fq.num))) ∧ w'.cell? ⟨w3.heap.size, 2, none⟩ = some (.slice q6 (ln Fq.den) (ln Fq.den))) (by kernel_rfl) ⟨kq6b_0, kq6b_1, kq6b_2⟩ (fun hHeld => ?_)
    clear kq6b_0 kq6b_1 kq6b_2
    generalize wB.drew = w0F at bD hA hB o6 qa qb qr q6b bT hHeld ⊢
    clear bD q6b_0 q6b_1 q6b_2
    clear qa qb qr q6b hA hB
    refine tk 0 (v := ?_) rfl (Or.inl ⟨by rfl, ?_⟩) ?_
    rotate_left
    · intro w9 hSw
      go_simp
      first | done | with_reducible rfl
    simp only [pP, pN, pS, pZ, pC]
    refine wpAnyH_ready (rs := [1, 3]) (by kernel_rfl) (by simp) ?_
    refine consT rfl (fun KK hKK => ?_) ?_
    · skip
      go_simp
      refine (vwholeQ1 _).mono ?_
      rintro e w4 ⟨p1, q1, rfl, b1, o1⟩
      have bC := b1
      replace o6 := o6.on bC
      replace bT := bT.trans (bC.mono bT.size)
      replace hHeld := (⟨below_cell bC hHeld.1, below_cell bC hHeld.2.1, below_cell bC hHeld.2.2⟩ : _ ∧ _ ∧ _)
      clear bC
      go_wp2_with fail
      clear b1
      refine hKK.out _ _ hHeld ?_
      clear hHeld
      intro hHeld
      clear hKK KK
      try simp only [pP, pN, pS, pZ, pC]
      refine wpAnyH_ready (rs := [2, 3]) (by kernel_rfl) (by simp) ?_
      refine consT rfl (fun KK hKK => ?_) ?_
      · skip
        go_simp
        refine (GU.out _ p6 q6 p1 q1 o6 o1).mono ?_
        rintro e w5 ⟨p7, q7, rfl, b1, o7⟩
        have bC := b1
        replace o6 := o6.on bC
        replace o1 := o1.on bC
        replace bT := bT.trans (bC.mono bT.size)
        replace hHeld := (⟨below_cell bC hHeld.1, below_cell bC hHeld.2.1, below_cell bC hHeld.2.2⟩ : _ ∧ _ ∧ _)
        clear bC
        go_wp2_with fail
        clear b1
        refine hKK.out _ _ hHeld ?_
        clear hHeld
        intro hHeld
        clear hKK KK
        try simp only [pP, pN, pS, pZ, pC]
        refine wpAnyH_ready (rs := [3]) (by kernel_rfl) (by simp) ?_
        refine cons' rfl (fun KK hKK => ?_)
        go_simp
        have q7b := Blk.new w5 #[.bool false, .slice none 0 0, .slice none 0 0] 27
        have bA := below_alloc (w := w5) (.cells #[.bool false, .slice none 0 0, .slice none 0 0] 27)
        have hq7bge := bT.size
        have hq7bc0 := cell_ltB hHeld.1
        have hq7bc1 := cell_ltB hHeld.2.1
        have hq7bc2 := cell_ltB hHeld.2.2
        generalize w5.alloc (.cells #[.bool false, .slice none 0 0, .slice none 0 0] 27) = w6 at q7b bA ⊢
        replace o6 := o6.on bA
        replace o1 := o1.on bA
        replace o7 := o7.on bA
        replace bT := bT.trans (bA.mono bT.size)
        replace hHeld := (⟨below_cell bA hHeld.1, below_cell bA hHeld.2.1, below_cell bA hHeld.2.2⟩ : _ ∧ _ ∧ _)
        clear bA
        refine hKK.out _ _ hHeld ?_
        clear hHeld
        intro hHeld
        clear hKK KK
        try simp only [pP, pN, pS, pZ, pC]
        obtain ⟨cq7b, hcc⟩ : ∃ cc, w5.heap.size = cc := ⟨_, rfl⟩
        rw [hcc] at q7b hq7bge hq7bc0 hq7bc1 hq7bc2
        try rw [hcc]
        clear hcc
        refine wpAnyH_ready (rs := [4]) (by kernel_rfl) (by simp) ?_
        refine cons' rfl (fun KK hKK => ?_)
        have z0 := q7b.cell 0
        have z1 := q7b.cell 1
        have z2 := q7b.cell 2
        simp only [List.getElem?_toArray, List.getElem?_cons_zero, List.getElem?_cons_succ] at z0 z1 z2
        have fz := fun o => q7b.frozen o
        obtain ⟨c9, q9⟩ := q7b.set3 (.bool (ng U.num)) (.slice p7 (ln (am U.num)) (ln (am U.num))) (.slice q7 (ln U.den) (ln U.den))
        have hno := q7b.no (by simp)
        replace o6 := o6.ch c9 hno
        replace o1 := o1.ch c9 hno
        replace o7 := o7.ch c9 hno
        replace bT := bT.trans (c9.below (by omega))
        have hH2 := (⟨(World.cell?_of_block (w := w6) (a := ⟨w3.heap.size, 0, none⟩) (c9.other (w3.heap.size) (by omega))).trans hHeld.1, (World.cell?_of_block (w := w6) (a := ⟨w3.heap.size, 1, none⟩) (c9.other (w3.heap.size) (by omega))).trans hHeld.2.1, (World.cell?_of_block (w := w6) (a := ⟨w3.heap.size, 2, none⟩) (c9.other (w3.heap.size) (by omega))).trans hHeld.2.2⟩ : _ ∧ _ ∧ _)
        go_simp
        clear z0 z1 z2 fz hno c9
        replace q7b := q9
        refine hKK.out _ _ hH2 ?_
        clear hHeld
        intro hHeld
        clear hKK KK
        try simp only [pP, pN, pS, pZ, pC]
        clear hH2
        generalize (((w6.setCell ⟨cq7b, 0, none⟩ (.bool (ng U.num))).setCell ⟨cq7b, 1, none⟩ (.slice p7 (ln (am U.num)) (ln (am U.num)))).setCell ⟨cq7b, 2, none⟩ (.slice q7 (ln U.den) (ln U.den))) = w7 at bT q7b o6 o1 o7 hHeld ⊢
        refine wpAnyH_done (by kernel_rfl) ?_ _
        go_wp2_with fail
        go_meet
        exact ⟨_, cq7b, p7, q7, rfl, rfl, hq7bge, q7b, o7, bT⟩
      refine consT rfl (fun KK hKK => ?_) ?_
      · skip
        go_simp
        have q7b := Blk.new w4 #[.bool false, .slice none 0 0, .slice none 0 0] 27
        have bA := below_alloc (w := w4) (.cells #[.bool false, .slice none 0 0, .slice none 0 0] 27)
        have hq7bge := bT.size
        have hq7bc0 := cell_ltB hHeld.1
        have hq7bc1 := cell_ltB hHeld.2.1
        have hq7bc2 := cell_ltB hHeld.2.2
        generalize w4.alloc (.cells #[.bool false, .slice none 0 0, .slice none 0 0] 27) = w8 at q7b bA ⊢
        replace o6 := o6.on bA
        replace o1 := o1.on bA
        replace bT := bT.trans (bA.mono bT.size)
        replace hHeld := (⟨below_cell bA hHeld.1, below_cell bA hHeld.2.1, below_cell bA hHeld.2.2⟩ : _ ∧ _ ∧ _)
        clear bA
        refine hKK.out _ _ hHeld ?_
        clear hHeld
        intro hHeld
        clear hKK KK
        try simp only [pP, pN, pS, pZ, pC]
        obtain ⟨cq7b, hcc⟩ : ∃ cc, w4.heap.size = cc := ⟨_, rfl⟩
        rw [hcc] at q7b hq7bge hq7bc0 hq7bc1 hq7bc2
        try rw [hcc]
        clear hcc
        refine wpAnyH_ready (rs := [2]) (by kernel_rfl) (by simp) ?_
        refine cons' rfl (fun KK hKK => ?_)
        go_simp
        refine (GU.out _ p6 q6 p1 q1 o6 o1).mono ?_
        rintro e w9 ⟨p7, q7, rfl, b1, o7⟩
        have bC := b1
        replace o6 := o6.on bC
        replace o1 := o1.on bC
        replace bT := bT.trans (bC.mono bT.size)
        replace q7b := q7b.later bC
        replace hHeld := (⟨below_cell bC hHeld.1, below_cell bC hHeld.2.1, below_cell bC hHeld.2.2⟩ : _ ∧ _ ∧ _)
        clear bC
        go_wp2_with fail
        clear b1
        refine hKK.out _ _ hHeld ?_
        clear hHeld
        intro hHeld
        clear hKK KK
        try simp only [pP, pN, pS, pZ, pC]
        refine wpAnyH_ready (rs := [4]) (by kernel_rfl) (by simp) ?_
        refine cons' rfl (fun KK hKK => ?_)
        have z0 := q7b.cell 0
        have z1 := q7b.cell 1
        have z2 := q7b.cell 2
        simp only [List.getElem?_toArray, List.getElem?_cons_zero, List.getElem?_cons_succ] at z0 z1 z2
        have fz := fun o => q7b.frozen o
        obtain ⟨c9, q9⟩ := q7b.set3 (.bool (ng U.num)) (.slice p7 (ln (am U.num)) (ln (am U.num))) (.slice q7 (ln U.den) (ln U.den))
        have hno := q7b.no (by simp)
        replace o6 := o6.ch c9 hno
        replace o1 := o1.ch c9 hno
        replace o7 := o7.ch c9 hno
        replace bT := bT.trans (c9.below (by omega))
        have hH2 := (⟨(World.cell?_of_block (w := w9) (a := ⟨w3.heap.size, 0, none⟩) (c9.other (w3.heap.size) (by omega))).trans hHeld.1, (World.cell?_of_block (w := w9) (a := ⟨w3.heap.size, 1, none⟩) (c9.other (w3.heap.size) (by omega))).trans hHeld.2.1, (World.cell?_of_block (w := w9) (a := ⟨w3.heap.size, 2, none⟩) (c9.other (w3.heap.size) (by omega))).trans hHeld.2.2⟩ : _ ∧ _ ∧ _)
        go_simp
        clear z0 z1 z2 fz hno c9
        replace q7b := q9
        refine hKK.out _ _ hH2 ?_
        clear hHeld
        intro hHeld
        clear hKK KK
        try simp only [pP, pN, pS, pZ, pC]
        clear hH2
        generalize (((w9.setCell ⟨cq7b, 0, none⟩ (.bool (ng U.num))).setCell ⟨cq7b, 1, none⟩ (.slice p7 (ln (am U.num)) (ln (am U.num)))).setCell ⟨cq7b, 2, none⟩ (.slice q7 (ln U.den) (ln U.den))) = w10 at bT q7b o6 o1 o7 hHeld ⊢
        refine wpAnyH_done (by kernel_rfl) ?_ _
        go_wp2_with fail
        go_meet
        exact ⟨_, cq7b, p7, q7, rfl, rfl, hq7bge, q7b, o7, bT⟩
      exact AllReadyH.nil
    refine consT rfl (fun KK hKK => ?_) ?_
    · skip
      go_simp
      have q7b := Blk.new w0F #[.bool false, .slice none 0 0, .slice none 0 0] 27
      have bA := below_alloc (w := w0F) (.cells #[.bool false, .slice none 0 0, .slice none 0 0] 27)
      have hq7bge := bT.size
      have hq7bc0 := cell_ltB hHeld.1
      have hq7bc1 := cell_ltB hHeld.2.1
      have hq7bc2 := cell_ltB hHeld.2.2
      generalize w0F.alloc (.cells #[.bool false, .slice none 0 0, .slice none 0 0] 27) = w11 at q7b bA ⊢
      replace o6 := o6.on bA
      replace bT := bT.trans (bA.mono bT.size)
      replace hHeld := (⟨below_cell bA hHeld.1, below_cell bA hHeld.2.1, below_cell bA hHeld.2.2⟩ : _ ∧ _ ∧ _)
      clear bA
      refine hKK.out _ _ hHeld ?_
      clear hHeld
      intro hHeld
      clear hKK KK
      try simp only [pP, pN, pS, pZ, pC]
      obtain ⟨cq7b, hcc⟩ : ∃ cc, w0F.heap.size = cc := ⟨_, rfl⟩
      rw [hcc] at q7b hq7bge hq7bc0 hq7bc1 hq7bc2
      try rw [hcc]
      clear hcc
      refine wpAnyH_ready (rs := [1]) (by kernel_rfl) (by simp) ?_
      refine cons' rfl (fun KK hKK => ?_)
      go_simp
      refine (vwholeQ1 _).mono ?_
      rintro e w12 ⟨p1, q1, rfl, b1, o1⟩
      have bC := b1
      replace o6 := o6.on bC
      replace bT := bT.trans (bC.mono bT.size)
      replace q7b := q7b.later bC
      replace hHeld := (⟨below_cell bC hHeld.1, below_cell bC hHeld.2.1, below_cell bC hHeld.2.2⟩ : _ ∧ _ ∧ _)
      clear bC
      go_wp2_with fail
      clear b1
      refine hKK.out _ _ hHeld ?_
      clear hHeld
      intro hHeld
      clear hKK KK
      try simp only [pP, pN, pS, pZ, pC]
      refine wpAnyH_ready (rs := [2]) (by kernel_rfl) (by simp) ?_
      refine cons' rfl (fun KK hKK => ?_)
      go_simp
      refine (GU.out _ p6 q6 p1 q1 o6 o1).mono ?_
      rintro e w13 ⟨p7, q7, rfl, b1, o7⟩
      have bC := b1
      replace o6 := o6.on bC
      replace o1 := o1.on bC
      replace bT := bT.trans (bC.mono bT.size)
      replace q7b := q7b.later bC
      replace hHeld := (⟨below_cell bC hHeld.1, below_cell bC hHeld.2.1, below_cell bC hHeld.2.2⟩ : _ ∧ _ ∧ _)
      clear bC
      go_wp2_with fail
      clear b1
      refine hKK.out _ _ hHeld ?_
      clear hHeld
      intro hHeld
      clear hKK KK
      try simp only [pP, pN, pS, pZ, pC]
      refine wpAnyH_ready (rs := [4]) (by kernel_rfl) (by simp) ?_
      refine cons' rfl (fun KK hKK => ?_)
      have z0 := q7b.cell 0
      have z1 := q7b.cell 1
      have z2 := q7b.cell 2
      simp only [List.getElem?_toArray, List.getElem?_cons_zero, List.getElem?_cons_succ] at z0 z1 z2
      have fz := fun o => q7b.frozen o
      obtain ⟨c9, q9⟩ := q7b.set3 (.bool (ng U.num)) (.slice p7 (ln (am U.num)) (ln (am U.num))) (.slice q7 (ln U.den) (ln U.den))
      have hno := q7b.no (by simp)
      replace o6 := o6.ch c9 hno
      replace o1 := o1.ch c9 hno
      replace o7 := o7.ch c9 hno
      replace bT := bT.trans (c9.below (by omega))
      have hH2 := (⟨(World.cell?_of_block (w := w13) (a := ⟨w3.heap.size, 0, none⟩) (c9.other (w3.heap.size) (by omega))).trans hHeld.1, (World.cell?_of_block (w := w13) (a := ⟨w3.heap.size, 1, none⟩) (c9.other (w3.heap.size) (by omega))).trans hHeld.2.1, (World.cell?_of_block (w := w13) (a := ⟨w3.heap.size, 2, none⟩) (c9.other (w3.heap.size) (by omega))).trans hHeld.2.2⟩ : _ ∧ _ ∧ _)
      go_simp
      clear z0 z1 z2 fz hno c9
      replace q7b := q9
      refine hKK.out _ _ hH2 ?_
      clear hHeld
      intro hHeld
      clear hKK KK
      try simp only [pP, pN, pS, pZ, pC]
      clear hH2
      generalize (((w13.setCell ⟨cq7b, 0, none⟩ (.bool (ng U.num))).setCell ⟨cq7b, 1, none⟩ (.slice p7 (ln (am U.num)) (ln (am U.num)))).setCell ⟨cq7b, 2, none⟩ (.slice q7 (ln U.den) (ln U.den))) = w14 at bT q7b o6 o1 o7 hHeld ⊢
      refine wpAnyH_done (by kernel_rfl) ?_ _
      go_wp2_with fail
      go_meet
      exact ⟨_, cq7b, p7, q7, rfl, rfl, hq7bge, q7b, o7, bT⟩
    exact AllReadyH.nil
  case rest =>
    obtain ⟨wc15, c7, p7, q7, hwv, rfl, g7, q7b, o7, bT⟩ := hcut
    subst hwv
    replace qa := qa.later bT
    replace qb := qb.later bT
    replace qr := qr.later bT
    replace q6b := q6b.later bT
    replace hA := hA.on bT
    replace hB := hB.on bT
    replace o6 := o6.on bT
    replace bel := bel.trans (bT.mono bel.size)
    clear bT
    clear GU hbs
    have q7b_0 := q7b.cell 0
    have q7b_1 := q7b.cell 1
    have q7b_2 := q7b.cell 2
    have qb_0 := qb.cell 0
    have qb_1 := qb.cell 1
    have qb_2 := qb.cell 2
    simp only [List.getElem?_toArray, List.getElem?_cons_zero, List.getElem?_cons_succ] at q7b_0 q7b_1 q7b_2 qb_0 qb_1 qb_2
    go_wp2_with fail
    clear q7b_0 q7b_1 q7b_2 qb_0 qb_1 qb_2
    refine (GUB.out _ p7 q7 o7 hB).mono ?_
    rintro e w16 ⟨rfl, b1⟩
    have bb := b1
    replace qa := qa.later bb
    replace qb := qb.later bb
    replace qr := qr.later bb
    replace q6b := q6b.later bb
    replace q7b := q7b.later bb
    replace hA := hA.on bb
    replace hB := hB.on bb
    replace o6 := o6.on bb
    replace o7 := o7.on bb
    replace bel := bel.trans (bb.mono bel.size)
    clear bb
    clear b1
    clear GUB
    have h5 : ¬ (SA < 0) := by omega
    have qa_0 := qa.cell 0
    have qa_1 := qa.cell 1
    have qa_2 := qa.cell 2
    simp only [List.getElem?_toArray, List.getElem?_cons_zero, List.getElem?_cons_succ] at qa_0 qa_1 qa_2
    go_wp2_with fail
    clear qa_0 qa_1 qa_2
    refine (GSA.out _ hA).mono ?_
    rintro e w17 ⟨rfl, b1⟩
    have bb := b1
    replace qa := qa.later bb
    replace qb := qb.later bb
    replace qr := qr.later bb
    replace q6b := q6b.later bb
    replace q7b := q7b.later bb
    replace hA := hA.on bb
    replace hB := hB.on bb
    replace o6 := o6.on bb
    replace o7 := o7.on bb
    replace bel := bel.trans (bb.mono bel.size)
    clear bb
    clear b1
    have qa_0 := qa.cell 0
    have qa_1 := qa.cell 1
    have qa_2 := qa.cell 2
    simp only [List.getElem?_toArray, List.getElem?_cons_zero, List.getElem?_cons_succ] at qa_0 qa_1 qa_2
    go_wp2_with fail
    clear qa_0 qa_1 qa_2
    refine (GSA.out _ hA).mono ?_
    rintro e w18 ⟨rfl, b1⟩
    have bb := b1
    replace qa := qa.later bb
    replace qb := qb.later bb
    replace qr := qr.later bb
    replace q6b := q6b.later bb
    replace q7b := q7b.later bb
    replace hA := hA.on bb
    replace hB := hB.on bb
    replace o6 := o6.on bb
    replace o7 := o7.on bb
    replace bel := bel.trans (bb.mono bel.size)
    clear bb
    clear b1
    have q7b_0 := q7b.cell 0
    have q7b_1 := q7b.cell 1
    have q7b_2 := q7b.cell 2
    simp only [List.getElem?_toArray, List.getElem?_cons_zero, List.getElem?_cons_succ] at q7b_0 q7b_1 q7b_2
    have qr_0 := qr.cell 0
    have qr_1 := qr.cell 1
    have qr_2 := qr.cell 2
    simp only [List.getElem?_toArray, List.getElem?_cons_zero, List.getElem?_cons_succ] at qr_0 qr_1 qr_2
    have fz := fun o => qr.frozen o
    go_wp2
    obtain ⟨c9, q9⟩ := qr.set3 (.bool (ng U.num)) (.slice p7 (ln (am U.num)) (ln (am U.num))) (.slice q7 (ln U.den) (ln U.den))
    have hno := qr.no (by simp)
    replace qa := qa.ch c9 (by omega)
    replace qb := qb.ch c9 (by omega)
    replace q6b := q6b.ch c9 (by omega)
    replace q7b := q7b.ch c9 (by omega)
    replace hA := hA.ch c9 hno
    replace hB := hB.ch c9 hno
    replace o6 := o6.ch c9 hno
    replace o7 := o7.ch c9 hno
    replace bel := bel.trans (c9.below (by omega))
    clear qr_0 qr_1 qr_2
    clear fz hno
    replace qr := q9
    have qr_0 := qr.cell 0
    have qr_1 := qr.cell 1
    have qr_2 := qr.cell 2
    simp only [List.getElem?_toArray, List.getElem?_cons_zero, List.getElem?_cons_succ] at qr_0 qr_1 qr_2
    refine bodyPost_ret (v := .tuple #[.agg #[.bool (ng U.num), .slice p7 (ln (am U.num)) (ln (am U.num)), .slice q7 (ln U.den) (ln U.den)], .int .i64 0]) (by rw [results_ct rfl]; go_simp) rfl ?_
    exact ⟨p7, q7, rfl, bel, o7⟩
set_option maxHeartbeats 8000000 in
set_option maxRecDepth 100000 in
theorem vstep3 (A B : RatV) (fl G : Int) (Fq U : Rat) (w : World) (hA : A.ok w) (hB : B.ok w) (hn : A.n ≤ 35184372087808 ∧ A.m ≤ 35184372087808 ∧ B.n ≤ 35184372087808 ∧ B.m ≤ 35184372087808) (hcmp : sR (A.val - B.val) = -1) (hfl : Fl (rn A.s A.X A.Y) ((rd A.Y : Nat) : Int) fl G) (lf : ln (am fl) ≤ 35184372087900) (hF : ((fl : Int) : Rat) = Fq) (hU : Fq + 1 = U) (zFq : sz 35184372088000 Fq) (zU : sz 35184372088000 U) (h1 : sR (U - B.val) = -1) (h2 : sR A.val = -1) (SB : Int) (h3 : sR B.val = SB) (h4 : SB ≤ 0) (Z H M : Int) (hce : Fl (-(rn B.s B.X B.Y)) ((rd B.Y : Nat) : Int) Z H) (hM : -Z = M) (lM : ln (am M) ≤ 35184372087900) (Mq S : Rat) (hMq : ((M : Int) : Rat) = Mq) (hS : Mq - 1 = S) (zMq : sz 35184372088000 Mq) (zS : sz 35184372088000 S) :
    Calls Tryz.prog 9 #[.agg #[.bool A.s, .slice A.a A.n A.c, .slice A.b A.m A.e], .agg #[.bool B.s, .slice B.a B.n B.c, .slice B.b B.m B.e]] w (SQ w S) := by
  have GC := hide' (fun w' k1 k2 => vcmpQ A B w' k1 k2 (by omega) (-1) hcmp)
  have GF := hide' (fun w' k1 => vfloorV A fl G w' k1 ⟨hn.1, hn.2.1⟩ hfl)
  have GI := hide' (fun w' p k1 => vintQ fl p w' lf k1)
  rw [hF] at GI
  have GU := hide' (fun w' p q p1 q1 (k1 : (nR Fq p q).ok w') (k2 : (nR 1 p1 q1).ok w') => vaddQ (nR Fq p q) (nR 1 p1 q1) U w' k1 k2 ⟨zFq.1, zFq.2, by show ln (am 1) ≤ _; rw [show am 1 = 1 from rfl, ln_one]; omega, by show ln 1 ≤ _; rw [ln_one]; omega⟩ (by rw [nR_val, nR_val]; exact hU) zU)
  have GUB := hide' (fun w' p q (k1 : (nR U p q).ok w') k2 => vcmpQ (nR U p q) B w' k1 k2 ⟨zU.1, zU.2, Nat.le_trans hn.2.2.1 (by omega), Nat.le_trans hn.2.2.2 (by omega)⟩ (-1) (by rw [nR_val]; exact h1))
  have GSA := hide' (fun w' k1 => vsignQ A w' k1 (-1) h2)
  have GSB := hide' (fun w' k1 => vsignQ B w' k1 SB h3)
  have GCE := hide' (fun w' k1 => vceilV B Z H M w' k1 ⟨hn.2.2.1, hn.2.2.2⟩ hce hM)
  have GMI := hide' (fun w' p k1 => vintQ M p w' lM k1)
  rw [hMq] at GMI
  have GMS := hide' (fun w' p q p1 q1 (k1 : (nR Mq p q).ok w') (k2 : (nR 1 p1 q1).ok w') => vsubQ (nR Mq p q) (nR 1 p1 q1) S w' k1 k2 ⟨zMq.1, zMq.2, by show ln (am 1) ≤ _; rw [show am 1 = 1 from rfl, ln_one]; omega, by show ln 1 ≤ _; rw [ln_one]; omega⟩ (by rw [nR_val, nR_val]; exact hS) zS)
  clear hcmp hfl hF hU h1 h2 h3 hce hM hMq hS
  have h5 : ¬ (0 < SB) := by omega
  have bel : Below w.heap.size w w := Below.refl _ _
  have bb := below_alloc (w := w) (.cells #[.bool A.s, .slice A.a A.n A.c, .slice A.b A.m A.e] 27)
  replace hA := hA.on bb
  replace hB := hB.on bb
  replace bel := bel.trans (bb.mono bel.size)
  clear bb
  have qa := Blk.new w #[.bool A.s, .slice A.a A.n A.c, .slice A.b A.m A.e] 27
  have bb := below_alloc (w := (w.alloc (.cells #[.bool A.s, .slice A.a A.n A.c, .slice A.b A.m A.e] 27))) (.cells #[.bool B.s, .slice B.a B.n B.c, .slice B.b B.m B.e] 27)
  replace qa := qa.later bb
  replace hA := hA.on bb
  replace hB := hB.on bb
  replace bel := bel.trans (bb.mono bel.size)
  clear bb
  have qb := Blk.new (w.alloc (.cells #[.bool A.s, .slice A.a A.n A.c, .slice A.b A.m A.e] 27)) #[.bool B.s, .slice B.a B.n B.c, .slice B.b B.m B.e] 27
  simp only [World.size_alloc] at qb
  have bb := below_alloc (w := ((w.alloc (.cells #[.bool A.s, .slice A.a A.n A.c, .slice A.b A.m A.e] 27)).alloc (.cells #[.bool B.s, .slice B.a B.n B.c, .slice B.b B.m B.e] 27))) (.cells #[.bool false, .slice none 0 0, .slice none 0 0] 27)
  replace qa := qa.later bb
  replace qb := qb.later bb
  replace hA := hA.on bb
  replace hB := hB.on bb
  replace bel := bel.trans (bb.mono bel.size)
  clear bb
  have qr := Blk.new ((w.alloc (.cells #[.bool A.s, .slice A.a A.n A.c, .slice A.b A.m A.e] 27)).alloc (.cells #[.bool B.s, .slice B.a B.n B.c, .slice B.b B.m B.e] 27)) #[.bool false, .slice none 0 0, .slice none 0 0] 27
  simp only [World.size_alloc] at qr
  go_enter Tryz.func9, Tryz.ntmps9
  go_wp2_with fail
  obtain ⟨W0, hW⟩ : ∃ W, (((w.alloc (.cells #[.bool A.s, .slice A.a A.n A.c, .slice A.b A.m A.e] 27)).alloc (.cells #[.bool B.s, .slice B.a B.n B.c, .slice B.b B.m B.e] 27)).alloc (.cells #[.bool false, .slice none 0 0, .slice none 0 0] 27)) = W := ⟨_, rfl⟩
  rw [hW] at bel qa qb qr hA hB ⊢
  clear hW
  have lqr := qr.lt
  refine (GC.out _ hA hB).mono ?_
  rintro e w1 ⟨rfl, b1⟩
  have bb := b1
  replace qa := qa.later bb
  replace qb := qb.later bb
  replace qr := qr.later bb
  replace hA := hA.on bb
  replace hB := hB.on bb
  replace bel := bel.trans (bb.mono bel.size)
  clear bb
  clear b1
  clear GC
  have qa_0 := qa.cell 0
  have qa_1 := qa.cell 1
  have qa_2 := qa.cell 2
  simp only [List.getElem?_toArray, List.getElem?_cons_zero, List.getElem?_cons_succ] at qa_0 qa_1 qa_2
  go_wp2_with fail
  clear qa_0 qa_1 qa_2
  refine (GF.out _ hA).mono ?_
  rintro e w2 ⟨pf, rfl, nf1⟩
  have bb := nf1.below
  replace qa := qa.later bb
  replace qb := qb.later bb
  replace qr := qr.later bb
  replace hA := hA.on bb
  replace hB := hB.on bb
  replace bel := bel.trans (bb.mono bel.size)
  clear bb
  have kf := nf1.seg
  clear nf1
  go_wp2_with fail
  refine (GI.out _ pf kf).mono ?_
  rintro e w3 ⟨p6, q6, rfl, b1, o6⟩
  have bb := b1
  replace qa := qa.later bb
  replace qb := qb.later bb
  replace qr := qr.later bb
  replace kf := kf.later bb
  replace hA := hA.on bb
  replace hB := hB.on bb
  replace bel := bel.trans (bb.mono bel.size)
  clear bb
  clear b1
  clear kf
  have lq6bqa := qa.lt
  have lq6bqb := qb.lt
  have lq6bqr := qr.lt
  have bb := below_alloc (w := w3) (.cells #[.bool (ng Fq.num), .slice p6 (ln (am Fq.num)) (ln (am Fq.num)), .slice q6 (ln Fq.den) (ln Fq.den)] 27)
  replace qa := qa.later bb
  replace qb := qb.later bb
  replace qr := qr.later bb
  replace hA := hA.on bb
  replace hB := hB.on bb
  replace o6 := o6.on bb
  replace bel := bel.trans (bb.mono bel.size)
  clear bb
  have q6b := Blk.new w3 #[.bool (ng Fq.num), .slice p6 (ln (am Fq.num)) (ln (am Fq.num)), .slice q6 (ln Fq.den) (ln Fq.den)] 27
  go_wp2_with fail
  obtain ⟨wB, hW⟩ : ∃ W, (w3.alloc (.cells #[.bool (ng Fq.num), .slice p6 (ln (am Fq.num)) (ln (am Fq.num)), .slice q6 (ln Fq.den) (ln Fq.den)] 27)) = W := ⟨_, rfl⟩
  rw [hW] at bel qa qb qr q6b hA hB o6 ⊢
  clear hW
  have lqrB := qr.lt
  have l6B := q6b.lt
  have hbs := bel.size
  have bT : Below wB.heap.size wB wB := Below.refl _ _
  go_cut [7] from 24 to 26 (fun s7_ wx => ∃ wh9 c7 p7 q7, wh9 = wx ∧ s7_ = .pointer (some ⟨c7, 0, none⟩) ∧ wB.heap.size ≤ c7 ∧ Blk wx c7 #[.bool (ng U.num), .slice p7 (ln (am U.num)) (ln (am U.num)), .slice q7 (ln U.den) (ln U.den)] 27 ∧ (nR U p7 q7).ok wx ∧ Below wB.heap.size wB wx)
  case first =>
    have q6b_0 := q6b.cell 0
    have q6b_1 := q6b.cell 1
    have q6b_2 := q6b.cell 2
    simp only [List.getElem?_toArray, List.getElem?_cons_zero, List.getElem?_cons_succ] at q6b_0 q6b_1 q6b_2
    have bD : Below wB.heap.size wB wB.drew := (Below.refl _ _).drew
    have kq6b_0 := below_cell bD q6b_0
    have kq6b_1 := below_cell bD q6b_1
    have kq6b_2 := below_cell bD q6b_2
    replace hA := hA.on bD
    replace hB := hB.on bD
    replace o6 := o6.on bD
    replace bT := bT.trans (bD.mono bT.size)
    replace qa := qa.later bD
    replace qb := qb.later bD
    replace qr := qr.later bD
    replace q6b := q6b.later bD
    refine wp_region_held_drew (S := fun w' => w'.cell? ⟨w3.heap.size, 0, none⟩ = some (.bool (ng Fq.num)) ∧ w'.cell? ⟨w3.heap.size, 1, none⟩ = some (.slice p6 (ln (am Fq.num)) (ln (am Fq.num))) ∧ w'.cell? ⟨w3.heap.size, 2, none⟩ = some (.slice q6 (ln Fq.den) (ln Fq.den))) (by kernel_rfl) ⟨kq6b_0, kq6b_1, kq6b_2⟩ (fun hHeld => ?_)
    clear kq6b_0 kq6b_1 kq6b_2
    generalize wB.drew = w0F at bD hA hB o6 qa qb qr q6b bT hHeld ⊢
    clear bD q6b_0 q6b_1 q6b_2
    clear qa qb qr q6b hA hB
    refine tk 0 (v := ?_) rfl (Or.inl ⟨by rfl, ?_⟩) ?_
    rotate_left
    · intro w9 hSw
      go_simp
      first | done | with_reducible rfl
    simp only [pP, pN, pS, pZ, pC]
    refine wpAnyH_ready (rs := [1, 3]) (by kernel_rfl) (by simp) ?_
    refine consT rfl (fun KK hKK => ?_) ?_
    · skip
      go_simp
      refine (vwholeQ1 _).mono ?_
      rintro e w4 ⟨p1, q1, rfl, b1, o1⟩
      have bC := b1
      replace o6 := o6.on bC
      replace bT := bT.trans (bC.mono bT.size)
      replace hHeld := (⟨below_cell bC hHeld.1, below_cell bC hHeld.2.1, below_cell bC hHeld.2.2⟩ : _ ∧ _ ∧ _)
      clear bC
      go_wp2_with fail
      clear b1
      refine hKK.out _ _ hHeld ?_
      clear hHeld
      intro hHeld
      clear hKK KK
      try simp only [pP, pN, pS, pZ, pC]
      refine wpAnyH_ready (rs := [2, 3]) (by kernel_rfl) (by simp) ?_
      refine consT rfl (fun KK hKK => ?_) ?_
      · skip
        go_simp
        refine (GU.out _ p6 q6 p1 q1 o6 o1).mono ?_
        rintro e w5 ⟨p7, q7, rfl, b1, o7⟩
        have bC := b1
        replace o6 := o6.on bC
        replace o1 := o1.on bC
        replace bT := bT.trans (bC.mono bT.size)
        replace hHeld := (⟨below_cell bC hHeld.1, below_cell bC hHeld.2.1, below_cell bC hHeld.2.2⟩ : _ ∧ _ ∧ _)
        clear bC
        go_wp2_with fail
        clear b1
        refine hKK.out _ _ hHeld ?_
        clear hHeld
        intro hHeld
        clear hKK KK
        try simp only [pP, pN, pS, pZ, pC]
        refine wpAnyH_ready (rs := [3]) (by kernel_rfl) (by simp) ?_
        refine cons' rfl (fun KK hKK => ?_)
        go_simp
        have q7b := Blk.new w5 #[.bool false, .slice none 0 0, .slice none 0 0] 27
        have bA := below_alloc (w := w5) (.cells #[.bool false, .slice none 0 0, .slice none 0 0] 27)
        have hq7bge := bT.size
        have hq7bc0 := cell_ltB hHeld.1
        have hq7bc1 := cell_ltB hHeld.2.1
        have hq7bc2 := cell_ltB hHeld.2.2
        generalize w5.alloc (.cells #[.bool false, .slice none 0 0, .slice none 0 0] 27) = w6 at q7b bA ⊢
        replace o6 := o6.on bA
        replace o1 := o1.on bA
        replace o7 := o7.on bA
        replace bT := bT.trans (bA.mono bT.size)
        replace hHeld := (⟨below_cell bA hHeld.1, below_cell bA hHeld.2.1, below_cell bA hHeld.2.2⟩ : _ ∧ _ ∧ _)
        clear bA
        refine hKK.out _ _ hHeld ?_
        clear hHeld
        intro hHeld
        clear hKK KK
        try simp only [pP, pN, pS, pZ, pC]
        obtain ⟨cq7b, hcc⟩ : ∃ cc, w5.heap.size = cc := ⟨_, rfl⟩
        rw [hcc] at q7b hq7bge hq7bc0 hq7bc1 hq7bc2
        try rw [hcc]
        clear hcc
        refine wpAnyH_ready (rs := [4]) (by kernel_rfl) (by simp) ?_
        refine cons' rfl (fun KK hKK => ?_)
        have z0 := q7b.cell 0
        have z1 := q7b.cell 1
        have z2 := q7b.cell 2
        simp only [List.getElem?_toArray, List.getElem?_cons_zero, List.getElem?_cons_succ] at z0 z1 z2
        have fz := fun o => q7b.frozen o
        obtain ⟨c9, q9⟩ := q7b.set3 (.bool (ng U.num)) (.slice p7 (ln (am U.num)) (ln (am U.num))) (.slice q7 (ln U.den) (ln U.den))
        have hno := q7b.no (by simp)
        replace o6 := o6.ch c9 hno
        replace o1 := o1.ch c9 hno
        replace o7 := o7.ch c9 hno
        replace bT := bT.trans (c9.below (by omega))
        have hH2 := (⟨(World.cell?_of_block (w := w6) (a := ⟨w3.heap.size, 0, none⟩) (c9.other (w3.heap.size) (by omega))).trans hHeld.1, (World.cell?_of_block (w := w6) (a := ⟨w3.heap.size, 1, none⟩) (c9.other (w3.heap.size) (by omega))).trans hHeld.2.1, (World.cell?_of_block (w := w6) (a := ⟨w3.heap.size, 2, none⟩) (c9.other (w3.heap.size) (by omega))).trans hHeld.2.2⟩ : _ ∧ _ ∧ _)
        go_simp
        clear z0 z1 z2 fz hno c9
        replace q7b := q9
        refine hKK.out _ _ hH2 ?_
        clear hHeld
        intro hHeld
        clear hKK KK
        try simp only [pP, pN, pS, pZ, pC]
        clear hH2
        generalize (((w6.setCell ⟨cq7b, 0, none⟩ (.bool (ng U.num))).setCell ⟨cq7b, 1, none⟩ (.slice p7 (ln (am U.num)) (ln (am U.num)))).setCell ⟨cq7b, 2, none⟩ (.slice q7 (ln U.den) (ln U.den))) = w7 at bT q7b o6 o1 o7 hHeld ⊢
        refine wpAnyH_done (by kernel_rfl) ?_ _
        go_wp2_with fail
        go_meet
        exact ⟨_, cq7b, p7, q7, rfl, rfl, hq7bge, q7b, o7, bT⟩
      refine consT rfl (fun KK hKK => ?_) ?_
      · skip
        go_simp
        have q7b := Blk.new w4 #[.bool false, .slice none 0 0, .slice none 0 0] 27
        have bA := below_alloc (w := w4) (.cells #[.bool false, .slice none 0 0, .slice none 0 0] 27)
        have hq7bge := bT.size
        have hq7bc0 := cell_ltB hHeld.1
        have hq7bc1 := cell_ltB hHeld.2.1
        have hq7bc2 := cell_ltB hHeld.2.2
        generalize w4.alloc (.cells #[.bool false, .slice none 0 0, .slice none 0 0] 27) = w8 at q7b bA ⊢
        replace o6 := o6.on bA
        replace o1 := o1.on bA
        replace bT := bT.trans (bA.mono bT.size)
        replace hHeld := (⟨below_cell bA hHeld.1, below_cell bA hHeld.2.1, below_cell bA hHeld.2.2⟩ : _ ∧ _ ∧ _)
        clear bA
        refine hKK.out _ _ hHeld ?_
        clear hHeld
        intro hHeld
        clear hKK KK
        try simp only [pP, pN, pS, pZ, pC]
        obtain ⟨cq7b, hcc⟩ : ∃ cc, w4.heap.size = cc := ⟨_, rfl⟩
        rw [hcc] at q7b hq7bge hq7bc0 hq7bc1 hq7bc2
        try rw [hcc]
        clear hcc
        refine wpAnyH_ready (rs := [2]) (by kernel_rfl) (by simp) ?_
        refine cons' rfl (fun KK hKK => ?_)
        go_simp
        refine (GU.out _ p6 q6 p1 q1 o6 o1).mono ?_
        rintro e w9 ⟨p7, q7, rfl, b1, o7⟩
        have bC := b1
        replace o6 := o6.on bC
        replace o1 := o1.on bC
        replace bT := bT.trans (bC.mono bT.size)
        replace q7b := q7b.later bC
        replace hHeld := (⟨below_cell bC hHeld.1, below_cell bC hHeld.2.1, below_cell bC hHeld.2.2⟩ : _ ∧ _ ∧ _)
        clear bC
        go_wp2_with fail
        clear b1
        refine hKK.out _ _ hHeld ?_
        clear hHeld
        intro hHeld
        clear hKK KK
        try simp only [pP, pN, pS, pZ, pC]
        refine wpAnyH_ready (rs := [4]) (by kernel_rfl) (by simp) ?_
        refine cons' rfl (fun KK hKK => ?_)
        have z0 := q7b.cell 0
        have z1 := q7b.cell 1
        have z2 := q7b.cell 2
        simp only [List.getElem?_toArray, List.getElem?_cons_zero, List.getElem?_cons_succ] at z0 z1 z2
        have fz := fun o => q7b.frozen o
        obtain ⟨c9, q9⟩ := q7b.set3 (.bool (ng U.num)) (.slice p7 (ln (am U.num)) (ln (am U.num))) (.slice q7 (ln U.den) (ln U.den))
        have hno := q7b.no (by simp)
        replace o6 := o6.ch c9 hno
        replace o1 := o1.ch c9 hno
        replace o7 := o7.ch c9 hno
        replace bT := bT.trans (c9.below (by omega))
        have hH2 := (⟨(World.cell?_of_block (w := w9) (a := ⟨w3.heap.size, 0, none⟩) (c9.other (w3.heap.size) (by omega))).trans hHeld.1, (World.cell?_of_block (w := w9) (a := ⟨w3.heap.size, 1, none⟩) (c9.other (w3.heap.size) (by omega))).trans hHeld.2.1, (World.cell?_of_block (w := w9) (a := ⟨w3.heap.size, 2, none⟩) (c9.other (w3.heap.size) (by omega))).trans hHeld.2.2⟩ : _ ∧ _ ∧ _)
        go_simp
        clear z0 z1 z2 fz hno c9
        replace q7b := q9
        refine hKK.out _ _ hH2 ?_
        clear hHeld
        intro hHeld
        clear hKK KK
        try simp only [pP, pN, pS, pZ, pC]
        clear hH2
        generalize (((w9.setCell ⟨cq7b, 0, none⟩ (.bool (ng U.num))).setCell ⟨cq7b, 1, none⟩ (.slice p7 (ln (am U.num)) (ln (am U.num)))).setCell ⟨cq7b, 2, none⟩ (.slice q7 (ln U.den) (ln U.den))) = w10 at bT q7b o6 o1 o7 hHeld ⊢
        refine wpAnyH_done (by kernel_rfl) ?_ _
        go_wp2_with fail
        go_meet
        exact ⟨_, cq7b, p7, q7, rfl, rfl, hq7bge, q7b, o7, bT⟩
      exact AllReadyH.nil
    refine consT rfl (fun KK hKK => ?_) ?_
    · skip
      go_simp
      have q7b := Blk.new w0F #[.bool false, .slice none 0 0, .slice none 0 0] 27
      have bA := below_alloc (w := w0F) (.cells #[.bool false, .slice none 0 0, .slice none 0 0] 27)
      have hq7bge := bT.size
      have hq7bc0 := cell_ltB hHeld.1
      have hq7bc1 := cell_ltB hHeld.2.1
      have hq7bc2 := cell_ltB hHeld.2.2
      generalize w0F.alloc (.cells #[.bool false, .slice none 0 0, .slice none 0 0] 27) = w11 at q7b bA ⊢
      replace o6 := o6.on bA
      replace bT := bT.trans (bA.mono bT.size)
      replace hHeld := (⟨below_cell bA hHeld.1, below_cell bA hHeld.2.1, below_cell bA hHeld.2.2⟩ : _ ∧ _ ∧ _)
      clear bA
      refine hKK.out _ _ hHeld ?_
      clear hHeld
      intro hHeld
      clear hKK KK
      try simp only [pP, pN, pS, pZ, pC]
      obtain ⟨cq7b, hcc⟩ : ∃ cc, w0F.heap.size = cc := ⟨_, rfl⟩
      rw [hcc] at q7b hq7bge hq7bc0 hq7bc1 hq7bc2
      try rw [hcc]
      clear hcc
      refine wpAnyH_ready (rs := [1]) (by kernel_rfl) (by simp) ?_
      refine cons' rfl (fun KK hKK => ?_)
      go_simp
      refine (vwholeQ1 _).mono ?_
      rintro e w12 ⟨p1, q1, rfl, b1, o1⟩
      have bC := b1
      replace o6 := o6.on bC
      replace bT := bT.trans (bC.mono bT.size)
      replace q7b := q7b.later bC
      replace hHeld := (⟨below_cell bC hHeld.1, below_cell bC hHeld.2.1, below_cell bC hHeld.2.2⟩ : _ ∧ _ ∧ _)
      clear bC
      go_wp2_with fail
      clear b1
      refine hKK.out _ _ hHeld ?_
      clear hHeld
      intro hHeld
      clear hKK KK
      try simp only [pP, pN, pS, pZ, pC]
      refine wpAnyH_ready (rs := [2]) (by kernel_rfl) (by simp) ?_
      refine cons' rfl (fun KK hKK => ?_)
      go_simp
      refine (GU.out _ p6 q6 p1 q1 o6 o1).mono ?_
      rintro e w13 ⟨p7, q7, rfl, b1, o7⟩
      have bC := b1
      replace o6 := o6.on bC
      replace o1 := o1.on bC
      replace bT := bT.trans (bC.mono bT.size)
      replace q7b := q7b.later bC
      replace hHeld := (⟨below_cell bC hHeld.1, below_cell bC hHeld.2.1, below_cell bC hHeld.2.2⟩ : _ ∧ _ ∧ _)
      clear bC
      go_wp2_with fail
      clear b1
      refine hKK.out _ _ hHeld ?_
      clear hHeld
      intro hHeld
      clear hKK KK
      try simp only [pP, pN, pS, pZ, pC]
      refine wpAnyH_ready (rs := [4]) (by kernel_rfl) (by simp) ?_
      refine cons' rfl (fun KK hKK => ?_)
      have z0 := q7b.cell 0
      have z1 := q7b.cell 1
      have z2 := q7b.cell 2
      simp only [List.getElem?_toArray, List.getElem?_cons_zero, List.getElem?_cons_succ] at z0 z1 z2
      have fz := fun o => q7b.frozen o
      obtain ⟨c9, q9⟩ := q7b.set3 (.bool (ng U.num)) (.slice p7 (ln (am U.num)) (ln (am U.num))) (.slice q7 (ln U.den) (ln U.den))
      have hno := q7b.no (by simp)
      replace o6 := o6.ch c9 hno
      replace o1 := o1.ch c9 hno
      replace o7 := o7.ch c9 hno
      replace bT := bT.trans (c9.below (by omega))
      have hH2 := (⟨(World.cell?_of_block (w := w13) (a := ⟨w3.heap.size, 0, none⟩) (c9.other (w3.heap.size) (by omega))).trans hHeld.1, (World.cell?_of_block (w := w13) (a := ⟨w3.heap.size, 1, none⟩) (c9.other (w3.heap.size) (by omega))).trans hHeld.2.1, (World.cell?_of_block (w := w13) (a := ⟨w3.heap.size, 2, none⟩) (c9.other (w3.heap.size) (by omega))).trans hHeld.2.2⟩ : _ ∧ _ ∧ _)
      go_simp
      clear z0 z1 z2 fz hno c9
      replace q7b := q9
      refine hKK.out _ _ hH2 ?_
      clear hHeld
      intro hHeld
      clear hKK KK
      try simp only [pP, pN, pS, pZ, pC]
      clear hH2
      generalize (((w13.setCell ⟨cq7b, 0, none⟩ (.bool (ng U.num))).setCell ⟨cq7b, 1, none⟩ (.slice p7 (ln (am U.num)) (ln (am U.num)))).setCell ⟨cq7b, 2, none⟩ (.slice q7 (ln U.den) (ln U.den))) = w14 at bT q7b o6 o1 o7 hHeld ⊢
      refine wpAnyH_done (by kernel_rfl) ?_ _
      go_wp2_with fail
      go_meet
      exact ⟨_, cq7b, p7, q7, rfl, rfl, hq7bge, q7b, o7, bT⟩
    exact AllReadyH.nil
  case rest =>
    obtain ⟨wc15, c7, p7, q7, hwv, rfl, g7, q7b, o7, bT⟩ := hcut
    subst hwv
    replace qa := qa.later bT
    replace qb := qb.later bT
    replace qr := qr.later bT
    replace q6b := q6b.later bT
    replace hA := hA.on bT
    replace hB := hB.on bT
    replace o6 := o6.on bT
    replace bel := bel.trans (bT.mono bel.size)
    clear bT
    clear GU hbs
    have q7b_0 := q7b.cell 0
    have q7b_1 := q7b.cell 1
    have q7b_2 := q7b.cell 2
    have qb_0 := qb.cell 0
    have qb_1 := qb.cell 1
    have qb_2 := qb.cell 2
    simp only [List.getElem?_toArray, List.getElem?_cons_zero, List.getElem?_cons_succ] at q7b_0 q7b_1 q7b_2 qb_0 qb_1 qb_2
    go_wp2_with fail
    clear q7b_0 q7b_1 q7b_2 qb_0 qb_1 qb_2
    refine (GUB.out _ p7 q7 o7 hB).mono ?_
    rintro e w16 ⟨rfl, b1⟩
    have bb := b1
    replace qa := qa.later bb
    replace qb := qb.later bb
    replace qr := qr.later bb
    replace q6b := q6b.later bb
    replace q7b := q7b.later bb
    replace hA := hA.on bb
    replace hB := hB.on bb
    replace o6 := o6.on bb
    replace o7 := o7.on bb
    replace bel := bel.trans (bb.mono bel.size)
    clear bb
    clear b1
    clear GUB
    have qa_0 := qa.cell 0
    have qa_1 := qa.cell 1
    have qa_2 := qa.cell 2
    simp only [List.getElem?_toArray, List.getElem?_cons_zero, List.getElem?_cons_succ] at qa_0 qa_1 qa_2
    go_wp2_with fail
    clear qa_0 qa_1 qa_2
    refine (GSA.out _ hA).mono ?_
    rintro e w17 ⟨rfl, b1⟩
    have bb := b1
    replace qa := qa.later bb
    replace qb := qb.later bb
    replace qr := qr.later bb
    replace q6b := q6b.later bb
    replace q7b := q7b.later bb
    replace hA := hA.on bb
    replace hB := hB.on bb
    replace o6 := o6.on bb
    replace o7 := o7.on bb
    replace bel := bel.trans (bb.mono bel.size)
    clear bb
    clear b1
    have qb_0 := qb.cell 0
    have qb_1 := qb.cell 1
    have qb_2 := qb.cell 2
    simp only [List.getElem?_toArray, List.getElem?_cons_zero, List.getElem?_cons_succ] at qb_0 qb_1 qb_2
    go_wp2_with fail
    clear qb_0 qb_1 qb_2
    refine (GSB.out _ hB).mono ?_
    rintro e w18 ⟨rfl, b1⟩
    have bb := b1
    replace qa := qa.later bb
    replace qb := qb.later bb
    replace qr := qr.later bb
    replace q6b := q6b.later bb
    replace q7b := q7b.later bb
    replace hA := hA.on bb
    replace hB := hB.on bb
    replace o6 := o6.on bb
    replace o7 := o7.on bb
    replace bel := bel.trans (bb.mono bel.size)
    clear bb
    clear b1
    have qa_0 := qa.cell 0
    have qa_1 := qa.cell 1
    have qa_2 := qa.cell 2
    simp only [List.getElem?_toArray, List.getElem?_cons_zero, List.getElem?_cons_succ] at qa_0 qa_1 qa_2
    go_wp2_with fail
    clear qa_0 qa_1 qa_2
    refine (GSA.out _ hA).mono ?_
    rintro e w19 ⟨rfl, b1⟩
    have bb := b1
    replace qa := qa.later bb
    replace qb := qb.later bb
    replace qr := qr.later bb
    replace q6b := q6b.later bb
    replace q7b := q7b.later bb
    replace hA := hA.on bb
    replace hB := hB.on bb
    replace o6 := o6.on bb
    replace o7 := o7.on bb
    replace bel := bel.trans (bb.mono bel.size)
    clear bb
    clear b1
    have qb_0 := qb.cell 0
    have qb_1 := qb.cell 1
    have qb_2 := qb.cell 2
    simp only [List.getElem?_toArray, List.getElem?_cons_zero, List.getElem?_cons_succ] at qb_0 qb_1 qb_2
    go_wp2_with fail
    clear qb_0 qb_1 qb_2
    refine (GCE.out _ hB).mono ?_
    rintro e w20 ⟨pm, rfl, nm1⟩
    have bb := nm1.below
    replace qa := qa.later bb
    replace qb := qb.later bb
    replace qr := qr.later bb
    replace q6b := q6b.later bb
    replace q7b := q7b.later bb
    replace hA := hA.on bb
    replace hB := hB.on bb
    replace o6 := o6.on bb
    replace o7 := o7.on bb
    replace bel := bel.trans (bb.mono bel.size)
    clear bb
    have km := nm1.seg
    clear nm1
    go_wp2_with fail
    refine (GMI.out _ pm km).mono ?_
    rintro e w21 ⟨p8, q8, rfl, b1, o8⟩
    have bb := b1
    replace qa := qa.later bb
    replace qb := qb.later bb
    replace qr := qr.later bb
    replace q6b := q6b.later bb
    replace q7b := q7b.later bb
    replace km := km.later bb
    replace hA := hA.on bb
    replace hB := hB.on bb
    replace o6 := o6.on bb
    replace o7 := o7.on bb
    replace bel := bel.trans (bb.mono bel.size)
    clear bb
    clear b1
    go_wp2_with fail
    refine (vwholeQ1 _).mono ?_
    rintro e w22 ⟨p1, q1, rfl, b1, o1⟩
    have bb := b1
    replace qa := qa.later bb
    replace qb := qb.later bb
    replace qr := qr.later bb
    replace q6b := q6b.later bb
    replace q7b := q7b.later bb
    replace km := km.later bb
    replace hA := hA.on bb
    replace hB := hB.on bb
    replace o6 := o6.on bb
    replace o7 := o7.on bb
    replace o8 := o8.on bb
    replace bel := bel.trans (bb.mono bel.size)
    clear bb
    clear b1
    go_wp2_with fail
    refine (GMS.out _ p8 q8 p1 q1 o8 o1).mono ?_
    rintro e w23 ⟨pR, qR, rfl, b1, o9⟩
    have bb := b1
    replace qa := qa.later bb
    replace qb := qb.later bb
    replace qr := qr.later bb
    replace q6b := q6b.later bb
    replace q7b := q7b.later bb
    replace km := km.later bb
    replace hA := hA.on bb
    replace hB := hB.on bb
    replace o6 := o6.on bb
    replace o7 := o7.on bb
    replace o8 := o8.on bb
    replace o1 := o1.on bb
    replace bel := bel.trans (bb.mono bel.size)
    clear bb
    clear b1
    have qr_0 := qr.cell 0
    have qr_1 := qr.cell 1
    have qr_2 := qr.cell 2
    simp only [List.getElem?_toArray, List.getElem?_cons_zero, List.getElem?_cons_succ] at qr_0 qr_1 qr_2
    have fz := fun o => qr.frozen o
    go_wp2
    obtain ⟨c9, q9⟩ := qr.set3 (.bool (ng S.num)) (.slice pR (ln (am S.num)) (ln (am S.num))) (.slice qR (ln S.den) (ln S.den))
    have hno := qr.no (by simp)
    replace qa := qa.ch c9 (by omega)
    replace qb := qb.ch c9 (by omega)
    replace q6b := q6b.ch c9 (by omega)
    replace q7b := q7b.ch c9 (by omega)
    replace km := km.ch c9 hno
    replace hA := hA.ch c9 hno
    replace hB := hB.ch c9 hno
    replace o6 := o6.ch c9 hno
    replace o7 := o7.ch c9 hno
    replace o8 := o8.ch c9 hno
    replace o1 := o1.ch c9 hno
    replace o9 := o9.ch c9 hno
    replace bel := bel.trans (c9.below (by omega))
    clear qr_0 qr_1 qr_2
    clear fz hno
    replace qr := q9
    have qr_0 := qr.cell 0
    have qr_1 := qr.cell 1
    have qr_2 := qr.cell 2
    simp only [List.getElem?_toArray, List.getElem?_cons_zero, List.getElem?_cons_succ] at qr_0 qr_1 qr_2
    refine bodyPost_ret (v := .tuple #[.agg #[.bool (ng S.num), .slice pR (ln (am S.num)) (ln (am S.num)), .slice qR (ln S.den) (ln S.den)], .int .i64 0]) (by rw [results_ct rfl]; go_simp) rfl ?_
    exact ⟨pR, qR, rfl, bel, o9⟩
set_option maxHeartbeats 8000000 in
set_option maxRecDepth 100000 in
theorem vstep4 (A B : RatV) (fl G : Int) (Fq U : Rat) (w : World) (hA : A.ok w) (hB : B.ok w) (hn : A.n ≤ 35184372087808 ∧ A.m ≤ 35184372087808 ∧ B.n ≤ 35184372087808 ∧ B.m ≤ 35184372087808) (hcmp : sR (A.val - B.val) = -1) (hfl : Fl (rn A.s A.X A.Y) ((rd A.Y : Nat) : Int) fl G) (lf : ln (am fl) ≤ 35184372087900) (hF : ((fl : Int) : Rat) = Fq) (hU : Fq + 1 = U) (zFq : sz 35184372088000 Fq) (zU : sz 35184372088000 U) (C1 : Int) (h1 : sR (U - B.val) = C1) (h2 : 0 ≤ C1) (LW HF LE Y XI S : Rat) (hLW : A.val - Fq = LW) (hHF : B.val - Fq = HF) (hH0 : HF ≠ 0) (hLE : HF⁻¹ = LE) (hY0 : Y ≠ 0) (hXI : Y⁻¹ = XI) (hS : Fq + XI = S) (zLW : sz 35184372088000 LW) (zHF : sz 35184372088000 HF) (zLE : sz 35184372087808 LE) (zY : sz 35184372088000 Y) (zXI : sz 35184372088000 XI) (zS : sz 35184372088000 S) (h3 : sR LW = 0) (M2 G2 : Int) (hM2 : Fl LE.num (LE.den : Int) M2 G2) (lM2 : ln (am M2) ≤ 35184372087900) (Mq : Rat) (hMq : ((M2 : Int) : Rat) = Mq) (hY : Mq + 1 = Y) (zMq : sz 35184372088000 Mq) :
    Calls Tryz.prog 9 #[.agg #[.bool A.s, .slice A.a A.n A.c, .slice A.b A.m A.e], .agg #[.bool B.s, .slice B.a B.n B.c, .slice B.b B.m B.e]] w (SQ w S) := by
  have GC := hide' (fun w' k1 k2 => vcmpQ A B w' k1 k2 (by omega) (-1) hcmp)
  have GF := hide' (fun w' k1 => vfloorV A fl G w' k1 ⟨hn.1, hn.2.1⟩ hfl)
  have GI := hide' (fun w' p k1 => vintQ fl p w' lf k1)
  rw [hF] at GI
  have GU := hide' (fun w' p q p1 q1 (k1 : (nR Fq p q).ok w') (k2 : (nR 1 p1 q1).ok w') => vaddQ (nR Fq p q) (nR 1 p1 q1) U w' k1 k2 ⟨zFq.1, zFq.2, by show ln (am 1) ≤ _; rw [show am 1 = 1 from rfl, ln_one]; omega, by show ln 1 ≤ _; rw [ln_one]; omega⟩ (by rw [nR_val, nR_val]; exact hU) zU)
  have GUB := hide' (fun w' p q (k1 : (nR U p q).ok w') k2 => vcmpQ (nR U p q) B w' k1 k2 ⟨zU.1, zU.2, Nat.le_trans hn.2.2.1 (by omega), Nat.le_trans hn.2.2.2 (by omega)⟩ C1 (by rw [nR_val]; exact h1))
  have GLW := hide' (fun w' p q k1 (k2 : (nR Fq p q).ok w') => vsubQ A (nR Fq p q) LW w' k1 k2 ⟨Nat.le_trans hn.1 (by omega), Nat.le_trans hn.2.1 (by omega), zFq.1, zFq.2⟩ (by rw [nR_val]; exact hLW) zLW)
  have GHF := hide' (fun w' p q k1 (k2 : (nR Fq p q).ok w') => vsubQ B (nR Fq p q) HF w' k1 k2 ⟨Nat.le_trans hn.2.2.1 (by omega), Nat.le_trans hn.2.2.2 (by omega), zFq.1, zFq.2⟩ (by rw [nR_val]; exact hHF) zHF)
  have GLE := hide' (fun w' p q (k1 : (nR HF p q).ok w') => vinvQ (nR HF p q) LE w' k1 ⟨zHF.1, zHF.2⟩ (by rw [nR_val]; exact hH0) (by rw [nR_val]; exact hLE) (zLE.mono (by omega)))
  have GSL := hide' (fun w' p q (k1 : (nR LW p q).ok w') => vsignQ (nR LW p q) w' k1 0 (by rw [nR_val]; exact h3))
  have GXI := hide' (fun w' p q (k1 : (nR Y p q).ok w') => vinvQ (nR Y p q) XI w' k1 ⟨zY.1, zY.2⟩ (by rw [nR_val]; exact hY0) (by rw [nR_val]; exact hXI) zXI)
  have GS := hide' (fun w' p q p1 q1 (k1 : (nR Fq p q).ok w') (k2 : (nR XI p1 q1).ok w') => vaddQ (nR Fq p q) (nR XI p1 q1) S w' k1 k2 ⟨zFq.1, zFq.2, zXI.1, zXI.2⟩ (by rw [nR_val, nR_val]; exact hS) zS)
  have GM2 := hide' (fun w' p q (k1 : (nR LE p q).ok w') => vfloorQ LE p q M2 G2 w' k1 zLE hM2)
  have GMI := hide' (fun w' p k1 => vintQ M2 p w' lM2 k1)
  rw [hMq] at GMI
  have GY := hide' (fun w' p q p1 q1 (k1 : (nR Mq p q).ok w') (k2 : (nR 1 p1 q1).ok w') => vaddQ (nR Mq p q) (nR 1 p1 q1) Y w' k1 k2 ⟨zMq.1, zMq.2, by show ln (am 1) ≤ _; rw [show am 1 = 1 from rfl, ln_one]; omega, by show ln 1 ≤ _; rw [ln_one]; omega⟩ (by rw [nR_val, nR_val]; exact hY) zY)
  clear hcmp hfl hF hU h1 h3 hLW hHF hH0 hLE hY0 hXI hS hM2 hMq hY
  have bel : Below w.heap.size w w := Below.refl _ _
  have bb := below_alloc (w := w) (.cells #[.bool A.s, .slice A.a A.n A.c, .slice A.b A.m A.e] 27)
  replace hA := hA.on bb
  replace hB := hB.on bb
  replace bel := bel.trans (bb.mono bel.size)
  clear bb
  have qa := Blk.new w #[.bool A.s, .slice A.a A.n A.c, .slice A.b A.m A.e] 27
  have bb := below_alloc (w := (w.alloc (.cells #[.bool A.s, .slice A.a A.n A.c, .slice A.b A.m A.e] 27))) (.cells #[.bool B.s, .slice B.a B.n B.c, .slice B.b B.m B.e] 27)
  replace qa := qa.later bb
  replace hA := hA.on bb
  replace hB := hB.on bb
  replace bel := bel.trans (bb.mono bel.size)
  clear bb
  have qb := Blk.new (w.alloc (.cells #[.bool A.s, .slice A.a A.n A.c, .slice A.b A.m A.e] 27)) #[.bool B.s, .slice B.a B.n B.c, .slice B.b B.m B.e] 27
  simp only [World.size_alloc] at qb
  have bb := below_alloc (w := ((w.alloc (.cells #[.bool A.s, .slice A.a A.n A.c, .slice A.b A.m A.e] 27)).alloc (.cells #[.bool B.s, .slice B.a B.n B.c, .slice B.b B.m B.e] 27))) (.cells #[.bool false, .slice none 0 0, .slice none 0 0] 27)
  replace qa := qa.later bb
  replace qb := qb.later bb
  replace hA := hA.on bb
  replace hB := hB.on bb
  replace bel := bel.trans (bb.mono bel.size)
  clear bb
  have qr := Blk.new ((w.alloc (.cells #[.bool A.s, .slice A.a A.n A.c, .slice A.b A.m A.e] 27)).alloc (.cells #[.bool B.s, .slice B.a B.n B.c, .slice B.b B.m B.e] 27)) #[.bool false, .slice none 0 0, .slice none 0 0] 27
  simp only [World.size_alloc] at qr
  go_enter Tryz.func9, Tryz.ntmps9
  go_wp2_with fail
  obtain ⟨W0, hW⟩ : ∃ W, (((w.alloc (.cells #[.bool A.s, .slice A.a A.n A.c, .slice A.b A.m A.e] 27)).alloc (.cells #[.bool B.s, .slice B.a B.n B.c, .slice B.b B.m B.e] 27)).alloc (.cells #[.bool false, .slice none 0 0, .slice none 0 0] 27)) = W := ⟨_, rfl⟩
  rw [hW] at bel qa qb qr hA hB ⊢
  clear hW
  have lqr := qr.lt
  refine (GC.out _ hA hB).mono ?_
  rintro e w1 ⟨rfl, b1⟩
  have bb := b1
  replace qa := qa.later bb
  replace qb := qb.later bb
  replace qr := qr.later bb
  replace hA := hA.on bb
  replace hB := hB.on bb
  replace bel := bel.trans (bb.mono bel.size)
  clear bb
  clear b1
  clear GC
  have qa_0 := qa.cell 0
  have qa_1 := qa.cell 1
  have qa_2 := qa.cell 2
  simp only [List.getElem?_toArray, List.getElem?_cons_zero, List.getElem?_cons_succ] at qa_0 qa_1 qa_2
  go_wp2_with fail
  clear qa_0 qa_1 qa_2
  refine (GF.out _ hA).mono ?_
  rintro e w2 ⟨pf, rfl, nf1⟩
  have bb := nf1.below
  replace qa := qa.later bb
  replace qb := qb.later bb
  replace qr := qr.later bb
  replace hA := hA.on bb
  replace hB := hB.on bb
  replace bel := bel.trans (bb.mono bel.size)
  clear bb
  have kf := nf1.seg
  clear nf1
  go_wp2_with fail
  refine (GI.out _ pf kf).mono ?_
  rintro e w3 ⟨p6, q6, rfl, b1, o6⟩
  have bb := b1
  replace qa := qa.later bb
  replace qb := qb.later bb
  replace qr := qr.later bb
  replace kf := kf.later bb
  replace hA := hA.on bb
  replace hB := hB.on bb
  replace bel := bel.trans (bb.mono bel.size)
  clear bb
  clear b1
  clear kf
  have lq6bqa := qa.lt
  have lq6bqb := qb.lt
  have lq6bqr := qr.lt
  have bb := below_alloc (w := w3) (.cells #[.bool (ng Fq.num), .slice p6 (ln (am Fq.num)) (ln (am Fq.num)), .slice q6 (ln Fq.den) (ln Fq.den)] 27)
  replace qa := qa.later bb
  replace qb := qb.later bb
  replace qr := qr.later bb
  replace hA := hA.on bb
  replace hB := hB.on bb
  replace o6 := o6.on bb
  replace bel := bel.trans (bb.mono bel.size)
  clear bb
  have q6b := Blk.new w3 #[.bool (ng Fq.num), .slice p6 (ln (am Fq.num)) (ln (am Fq.num)), .slice q6 (ln Fq.den) (ln Fq.den)] 27
  go_wp2_with fail
  obtain ⟨wB, hW⟩ : ∃ W, (w3.alloc (.cells #[.bool (ng Fq.num), .slice p6 (ln (am Fq.num)) (ln (am Fq.num)), .slice q6 (ln Fq.den) (ln Fq.den)] 27)) = W := ⟨_, rfl⟩
  rw [hW] at bel qa qb qr q6b hA hB o6 ⊢
  clear hW
  have lqrB := qr.lt
  have l6B := q6b.lt
  have hbs := bel.size
  have bT : Below wB.heap.size wB wB := Below.refl _ _
  go_cut [7] from 24 to 26 (fun s7_ wx => ∃ wh9 c7 p7 q7, wh9 = wx ∧ s7_ = .pointer (some ⟨c7, 0, none⟩) ∧ wB.heap.size ≤ c7 ∧ Blk wx c7 #[.bool (ng U.num), .slice p7 (ln (am U.num)) (ln (am U.num)), .slice q7 (ln U.den) (ln U.den)] 27 ∧ (nR U p7 q7).ok wx ∧ Below wB.heap.size wB wx)
  case first =>
    have q6b_0 := q6b.cell 0
    have q6b_1 := q6b.cell 1
    have q6b_2 := q6b.cell 2
    simp only [List.getElem?_toArray, List.getElem?_cons_zero, List.getElem?_cons_succ] at q6b_0 q6b_1 q6b_2
    have bD : Below wB.heap.size wB wB.drew := (Below.refl _ _).drew
    have kq6b_0 := below_cell bD q6b_0
    have kq6b_1 := below_cell bD q6b_1
    have kq6b_2 := below_cell bD q6b_2
    replace hA := hA.on bD
    replace hB := hB.on bD
    replace o6 := o6.on bD
    replace bT := bT.trans (bD.mono bT.size)
    replace qa := qa.later bD
    replace qb := qb.later bD
    replace qr := qr.later bD
    replace q6b := q6b.later bD
    refine wp_region_held_drew (S := fun w' => w'.cell? ⟨w3.heap.size, 0, none⟩ = some (.bool (ng Fq.num)) ∧ w'.cell? ⟨w3.heap.size, 1, none⟩ = some (.slice p6 (ln (am Fq.num)) (ln (am Fq.num))) ∧ w'.cell? ⟨w3.heap.size, 2, none⟩ = some (.slice q6 (ln Fq.den) (ln Fq.den))) (by kernel_rfl) ⟨kq6b_0, kq6b_1, kq6b_2⟩ (fun hHeld => ?_)
    clear kq6b_0 kq6b_1 kq6b_2
    generalize wB.drew = w0F at bD hA hB o6 qa qb qr q6b bT hHeld ⊢
    clear bD q6b_0 q6b_1 q6b_2
    clear qa qb qr q6b hA hB
    refine tk 0 (v := ?_) rfl (Or.inl ⟨by rfl, ?_⟩) ?_
    rotate_left
    · intro w9 hSw
      go_simp
      first | done | with_reducible rfl
    simp only [pP, pN, pS, pZ, pC]
    refine wpAnyH_ready (rs := [1, 3]) (by kernel_rfl) (by simp) ?_
    refine consT rfl (fun KK hKK => ?_) ?_
    · skip
      go_simp
      refine (vwholeQ1 _).mono ?_
      rintro e w4 ⟨p1, q1, rfl, b1, o1⟩
      have bC := b1
      replace o6 := o6.on bC
      replace bT := bT.trans (bC.mono bT.size)
      replace hHeld := (⟨below_cell bC hHeld.1, below_cell bC hHeld.2.1, below_cell bC hHeld.2.2⟩ : _ ∧ _ ∧ _)
      clear bC
      go_wp2_with fail
      clear b1
      refine hKK.out _ _ hHeld ?_
      clear hHeld
      intro hHeld
      clear hKK KK
      try simp only [pP, pN, pS, pZ, pC]
      refine wpAnyH_ready (rs := [2, 3]) (by kernel_rfl) (by simp) ?_
      refine consT rfl (fun KK hKK => ?_) ?_
      · skip
        go_simp
        refine (GU.out _ p6 q6 p1 q1 o6 o1).mono ?_
        rintro e w5 ⟨p7, q7, rfl, b1, o7⟩
        have bC := b1
        replace o6 := o6.on bC
        replace o1 := o1.on bC
        replace bT := bT.trans (bC.mono bT.size)
        replace hHeld := (⟨below_cell bC hHeld.1, below_cell bC hHeld.2.1, below_cell bC hHeld.2.2⟩ : _ ∧ _ ∧ _)
        clear bC
        go_wp2_with fail
        clear b1
        refine hKK.out _ _ hHeld ?_
        clear hHeld
        intro hHeld
        clear hKK KK
        try simp only [pP, pN, pS, pZ, pC]
        refine wpAnyH_ready (rs := [3]) (by kernel_rfl) (by simp) ?_
        refine cons' rfl (fun KK hKK => ?_)
        go_simp
        have q7b := Blk.new w5 #[.bool false, .slice none 0 0, .slice none 0 0] 27
        have bA := below_alloc (w := w5) (.cells #[.bool false, .slice none 0 0, .slice none 0 0] 27)
        have hq7bge := bT.size
        have hq7bc0 := cell_ltB hHeld.1
        have hq7bc1 := cell_ltB hHeld.2.1
        have hq7bc2 := cell_ltB hHeld.2.2
        generalize w5.alloc (.cells #[.bool false, .slice none 0 0, .slice none 0 0] 27) = w6 at q7b bA ⊢
        replace o6 := o6.on bA
        replace o1 := o1.on bA
        replace o7 := o7.on bA
        replace bT := bT.trans (bA.mono bT.size)
        replace hHeld := (⟨below_cell bA hHeld.1, below_cell bA hHeld.2.1, below_cell bA hHeld.2.2⟩ : _ ∧ _ ∧ _)
        clear bA
        refine hKK.out _ _ hHeld ?_
        clear hHeld
        intro hHeld
        clear hKK KK
        try simp only [pP, pN, pS, pZ, pC]
        obtain ⟨cq7b, hcc⟩ : ∃ cc, w5.heap.size = cc := ⟨_, rfl⟩
        rw [hcc] at q7b hq7bge hq7bc0 hq7bc1 hq7bc2
        try rw [hcc]
        clear hcc
        refine wpAnyH_ready (rs := [4]) (by kernel_rfl) (by simp) ?_
        refine cons' rfl (fun KK hKK => ?_)
        have z0 := q7b.cell 0
        have z1 := q7b.cell 1
        have z2 := q7b.cell 2
        simp only [List.getElem?_toArray, List.getElem?_cons_zero, List.getElem?_cons_succ] at z0 z1 z2
        have fz := fun o => q7b.frozen o
        obtain ⟨c9, q9⟩ := q7b.set3 (.bool (ng U.num)) (.slice p7 (ln (am U.num)) (ln (am U.num))) (.slice q7 (ln U.den) (ln U.den))
        have hno := q7b.no (by simp)
        replace o6 := o6.ch c9 hno
        replace o1 := o1.ch c9 hno
        replace o7 := o7.ch c9 hno
        replace bT := bT.trans (c9.below (by omega))
        have hH2 := (⟨(World.cell?_of_block (w := w6) (a := ⟨w3.heap.size, 0, none⟩) (c9.other (w3.heap.size) (by omega))).trans hHeld.1, (World.cell?_of_block (w := w6) (a := ⟨w3.heap.size, 1, none⟩) (c9.other (w3.heap.size) (by omega))).trans hHeld.2.1, (World.cell?_of_block (w := w6) (a := ⟨w3.heap.size, 2, none⟩) (c9.other (w3.heap.size) (by omega))).trans hHeld.2.2⟩ : _ ∧ _ ∧ _)
        go_simp
        clear z0 z1 z2 fz hno c9
        replace q7b := q9
        refine hKK.out _ _ hH2 ?_
        clear hHeld
        intro hHeld
        clear hKK KK
        try simp only [pP, pN, pS, pZ, pC]
        clear hH2
        generalize (((w6.setCell ⟨cq7b, 0, none⟩ (.bool (ng U.num))).setCell ⟨cq7b, 1, none⟩ (.slice p7 (ln (am U.num)) (ln (am U.num)))).setCell ⟨cq7b, 2, none⟩ (.slice q7 (ln U.den) (ln U.den))) = w7 at bT q7b o6 o1 o7 hHeld ⊢
        refine wpAnyH_done (by kernel_rfl) ?_ _
        go_wp2_with fail
        go_meet
        exact ⟨_, cq7b, p7, q7, rfl, rfl, hq7bge, q7b, o7, bT⟩
      refine consT rfl (fun KK hKK => ?_) ?_
      · skip
        go_simp
        have q7b := Blk.new w4 #[.bool false, .slice none 0 0, .slice none 0 0] 27
        have bA := below_alloc (w := w4) (.cells #[.bool false, .slice none 0 0, .slice none 0 0] 27)
        have hq7bge := bT.size
        have hq7bc0 := cell_ltB hHeld.1
        have hq7bc1 := cell_ltB hHeld.2.1
        have hq7bc2 := cell_ltB hHeld.2.2
        generalize w4.alloc (.cells #[.bool false, .slice none 0 0, .slice none 0 0] 27) = w8 at q7b bA ⊢
        replace o6 := o6.on bA
        replace o1 := o1.on bA
        replace bT := bT.trans (bA.mono bT.size)
        replace hHeld := (⟨below_cell bA hHeld.1, below_cell bA hHeld.2.1, below_cell bA hHeld.2.2⟩ : _ ∧ _ ∧ _)
        clear bA
        refine hKK.out _ _ hHeld ?_
        clear hHeld
        intro hHeld
        clear hKK KK
        try simp only [pP, pN, pS, pZ, pC]
        obtain ⟨cq7b, hcc⟩ : ∃ cc, w4.heap.size = cc := ⟨_, rfl⟩
        rw [hcc] at q7b hq7bge hq7bc0 hq7bc1 hq7bc2
        try rw [hcc]
        clear hcc
        refine wpAnyH_ready (rs := [2]) (by kernel_rfl) (by simp) ?_
        refine cons' rfl (fun KK hKK => ?_)
        go_simp
        refine (GU.out _ p6 q6 p1 q1 o6 o1).mono ?_
        rintro e w9 ⟨p7, q7, rfl, b1, o7⟩
        have bC := b1
        replace o6 := o6.on bC
        replace o1 := o1.on bC
        replace bT := bT.trans (bC.mono bT.size)
        replace q7b := q7b.later bC
        replace hHeld := (⟨below_cell bC hHeld.1, below_cell bC hHeld.2.1, below_cell bC hHeld.2.2⟩ : _ ∧ _ ∧ _)
        clear bC
        go_wp2_with fail
        clear b1
        refine hKK.out _ _ hHeld ?_
        clear hHeld
        intro hHeld
        clear hKK KK
        try simp only [pP, pN, pS, pZ, pC]
        refine wpAnyH_ready (rs := [4]) (by kernel_rfl) (by simp) ?_
        refine cons' rfl (fun KK hKK => ?_)
        have z0 := q7b.cell 0
        have z1 := q7b.cell 1
        have z2 := q7b.cell 2
        simp only [List.getElem?_toArray, List.getElem?_cons_zero, List.getElem?_cons_succ] at z0 z1 z2
        have fz := fun o => q7b.frozen o
        obtain ⟨c9, q9⟩ := q7b.set3 (.bool (ng U.num)) (.slice p7 (ln (am U.num)) (ln (am U.num))) (.slice q7 (ln U.den) (ln U.den))
        have hno := q7b.no (by simp)
        replace o6 := o6.ch c9 hno
        replace o1 := o1.ch c9 hno
        replace o7 := o7.ch c9 hno
        replace bT := bT.trans (c9.below (by omega))
        have hH2 := (⟨(World.cell?_of_block (w := w9) (a := ⟨w3.heap.size, 0, none⟩) (c9.other (w3.heap.size) (by omega))).trans hHeld.1, (World.cell?_of_block (w := w9) (a := ⟨w3.heap.size, 1, none⟩) (c9.other (w3.heap.size) (by omega))).trans hHeld.2.1, (World.cell?_of_block (w := w9) (a := ⟨w3.heap.size, 2, none⟩) (c9.other (w3.heap.size) (by omega))).trans hHeld.2.2⟩ : _ ∧ _ ∧ _)
        go_simp
        clear z0 z1 z2 fz hno c9
        replace q7b := q9
        refine hKK.out _ _ hH2 ?_
        clear hHeld
        intro hHeld
        clear hKK KK
        try simp only [pP, pN, pS, pZ, pC]
        clear hH2
        generalize (((w9.setCell ⟨cq7b, 0, none⟩ (.bool (ng U.num))).setCell ⟨cq7b, 1, none⟩ (.slice p7 (ln (am U.num)) (ln (am U.num)))).setCell ⟨cq7b, 2, none⟩ (.slice q7 (ln U.den) (ln U.den))) = w10 at bT q7b o6 o1 o7 hHeld ⊢
        refine wpAnyH_done (by kernel_rfl) ?_ _
        go_wp2_with fail
        go_meet
        exact ⟨_, cq7b, p7, q7, rfl, rfl, hq7bge, q7b, o7, bT⟩
      exact AllReadyH.nil
    refine consT rfl (fun KK hKK => ?_) ?_
    · skip
      go_simp
      have q7b := Blk.new w0F #[.bool false, .slice none 0 0, .slice none 0 0] 27
      have bA := below_alloc (w := w0F) (.cells #[.bool false, .slice none 0 0, .slice none 0 0] 27)
      have hq7bge := bT.size
      have hq7bc0 := cell_ltB hHeld.1
      have hq7bc1 := cell_ltB hHeld.2.1
      have hq7bc2 := cell_ltB hHeld.2.2
      generalize w0F.alloc (.cells #[.bool false, .slice none 0 0, .slice none 0 0] 27) = w11 at q7b bA ⊢
      replace o6 := o6.on bA
      replace bT := bT.trans (bA.mono bT.size)
      replace hHeld := (⟨below_cell bA hHeld.1, below_cell bA hHeld.2.1, below_cell bA hHeld.2.2⟩ : _ ∧ _ ∧ _)
      clear bA
      refine hKK.out _ _ hHeld ?_
      clear hHeld
      intro hHeld
      clear hKK KK
      try simp only [pP, pN, pS, pZ, pC]
      obtain ⟨cq7b, hcc⟩ : ∃ cc, w0F.heap.size = cc := ⟨_, rfl⟩
      rw [hcc] at q7b hq7bge hq7bc0 hq7bc1 hq7bc2
      try rw [hcc]
      clear hcc
      refine wpAnyH_ready (rs := [1]) (by kernel_rfl) (by simp) ?_
      refine cons' rfl (fun KK hKK => ?_)
      go_simp
      refine (vwholeQ1 _).mono ?_
      rintro e w12 ⟨p1, q1, rfl, b1, o1⟩
      have bC := b1
      replace o6 := o6.on bC
      replace bT := bT.trans (bC.mono bT.size)
      replace q7b := q7b.later bC
      replace hHeld := (⟨below_cell bC hHeld.1, below_cell bC hHeld.2.1, below_cell bC hHeld.2.2⟩ : _ ∧ _ ∧ _)
      clear bC
      go_wp2_with fail
      clear b1
      refine hKK.out _ _ hHeld ?_
      clear hHeld
      intro hHeld
      clear hKK KK
      try simp only [pP, pN, pS, pZ, pC]
      refine wpAnyH_ready (rs := [2]) (by kernel_rfl) (by simp) ?_
      refine cons' rfl (fun KK hKK => ?_)
      go_simp
      refine (GU.out _ p6 q6 p1 q1 o6 o1).mono ?_
      rintro e w13 ⟨p7, q7, rfl, b1, o7⟩
      have bC := b1
      replace o6 := o6.on bC
      replace o1 := o1.on bC
      replace bT := bT.trans (bC.mono bT.size)
      replace q7b := q7b.later bC
      replace hHeld := (⟨below_cell bC hHeld.1, below_cell bC hHeld.2.1, below_cell bC hHeld.2.2⟩ : _ ∧ _ ∧ _)
      clear bC
      go_wp2_with fail
      clear b1
      refine hKK.out _ _ hHeld ?_
      clear hHeld
      intro hHeld
      clear hKK KK
      try simp only [pP, pN, pS, pZ, pC]
      refine wpAnyH_ready (rs := [4]) (by kernel_rfl) (by simp) ?_
      refine cons' rfl (fun KK hKK => ?_)
      have z0 := q7b.cell 0
      have z1 := q7b.cell 1
      have z2 := q7b.cell 2
      simp only [List.getElem?_toArray, List.getElem?_cons_zero, List.getElem?_cons_succ] at z0 z1 z2
      have fz := fun o => q7b.frozen o
      obtain ⟨c9, q9⟩ := q7b.set3 (.bool (ng U.num)) (.slice p7 (ln (am U.num)) (ln (am U.num))) (.slice q7 (ln U.den) (ln U.den))
      have hno := q7b.no (by simp)
      replace o6 := o6.ch c9 hno
      replace o1 := o1.ch c9 hno
      replace o7 := o7.ch c9 hno
      replace bT := bT.trans (c9.below (by omega))
      have hH2 := (⟨(World.cell?_of_block (w := w13) (a := ⟨w3.heap.size, 0, none⟩) (c9.other (w3.heap.size) (by omega))).trans hHeld.1, (World.cell?_of_block (w := w13) (a := ⟨w3.heap.size, 1, none⟩) (c9.other (w3.heap.size) (by omega))).trans hHeld.2.1, (World.cell?_of_block (w := w13) (a := ⟨w3.heap.size, 2, none⟩) (c9.other (w3.heap.size) (by omega))).trans hHeld.2.2⟩ : _ ∧ _ ∧ _)
      go_simp
      clear z0 z1 z2 fz hno c9
      replace q7b := q9
      refine hKK.out _ _ hH2 ?_
      clear hHeld
      intro hHeld
      clear hKK KK
      try simp only [pP, pN, pS, pZ, pC]
      clear hH2
      generalize (((w13.setCell ⟨cq7b, 0, none⟩ (.bool (ng U.num))).setCell ⟨cq7b, 1, none⟩ (.slice p7 (ln (am U.num)) (ln (am U.num)))).setCell ⟨cq7b, 2, none⟩ (.slice q7 (ln U.den) (ln U.den))) = w14 at bT q7b o6 o1 o7 hHeld ⊢
      refine wpAnyH_done (by kernel_rfl) ?_ _
      go_wp2_with fail
      go_meet
      exact ⟨_, cq7b, p7, q7, rfl, rfl, hq7bge, q7b, o7, bT⟩
    exact AllReadyH.nil
  case rest =>
    obtain ⟨wc15, c7, p7, q7, hwv, rfl, g7, q7b, o7, bT⟩ := hcut
    subst hwv
    replace qa := qa.later bT
    replace qb := qb.later bT
    replace qr := qr.later bT
    replace q6b := q6b.later bT
    replace hA := hA.on bT
    replace hB := hB.on bT
    replace o6 := o6.on bT
    replace bel := bel.trans (bT.mono bel.size)
    clear bT
    clear GU hbs
    have q7b_0 := q7b.cell 0
    have q7b_1 := q7b.cell 1
    have q7b_2 := q7b.cell 2
    have qb_0 := qb.cell 0
    have qb_1 := qb.cell 1
    have qb_2 := qb.cell 2
    simp only [List.getElem?_toArray, List.getElem?_cons_zero, List.getElem?_cons_succ] at q7b_0 q7b_1 q7b_2 qb_0 qb_1 qb_2
    go_wp2_with fail
    clear q7b_0 q7b_1 q7b_2 qb_0 qb_1 qb_2
    refine (GUB.out _ p7 q7 o7 hB).mono ?_
    rintro e w16 ⟨rfl, b1⟩
    have bb := b1
    replace qa := qa.later bb
    replace qb := qb.later bb
    replace qr := qr.later bb
    replace q6b := q6b.later bb
    replace q7b := q7b.later bb
    replace hA := hA.on bb
    replace hB := hB.on bb
    replace o6 := o6.on bb
    replace o7 := o7.on bb
    replace bel := bel.trans (bb.mono bel.size)
    clear bb
    clear b1
    clear GUB
    have h6 : ¬ (C1 < 0) := by omega
    clear q7b o7
    have qa_0 := qa.cell 0
    have qa_1 := qa.cell 1
    have qa_2 := qa.cell 2
    have q6b_0 := q6b.cell 0
    have q6b_1 := q6b.cell 1
    have q6b_2 := q6b.cell 2
    simp only [List.getElem?_toArray, List.getElem?_cons_zero, List.getElem?_cons_succ] at qa_0 qa_1 qa_2 q6b_0 q6b_1 q6b_2
    go_wp2_with fail
    clear qa_0 qa_1 qa_2 q6b_0 q6b_1 q6b_2
    refine (GLW.out _ p6 q6 hA o6).mono ?_
    rintro e w17 ⟨p8, q8, rfl, b1, o8⟩
    have bb := b1
    replace qa := qa.later bb
    replace qb := qb.later bb
    replace qr := qr.later bb
    replace q6b := q6b.later bb
    replace hA := hA.on bb
    replace hB := hB.on bb
    replace o6 := o6.on bb
    replace bel := bel.trans (bb.mono bel.size)
    clear bb
    clear b1
    have qb_0 := qb.cell 0
    have qb_1 := qb.cell 1
    have qb_2 := qb.cell 2
    have q6b_0 := q6b.cell 0
    have q6b_1 := q6b.cell 1
    have q6b_2 := q6b.cell 2
    simp only [List.getElem?_toArray, List.getElem?_cons_zero, List.getElem?_cons_succ] at qb_0 qb_1 qb_2 q6b_0 q6b_1 q6b_2
    have lq8bqa := qa.lt
    have lq8bqb := qb.lt
    have lq8bqr := qr.lt
    have lq8bq6b := q6b.lt
    have bb := below_alloc (w := w17) (.cells #[.bool (ng LW.num), .slice p8 (ln (am LW.num)) (ln (am LW.num)), .slice q8 (ln LW.den) (ln LW.den)] 27)
    replace qa := qa.later bb
    replace qb := qb.later bb
    replace qr := qr.later bb
    replace q6b := q6b.later bb
    replace hA := hA.on bb
    replace hB := hB.on bb
    replace o6 := o6.on bb
    replace o8 := o8.on bb
    replace bel := bel.trans (bb.mono bel.size)
    clear bb
    have q8b := Blk.new w17 #[.bool (ng LW.num), .slice p8 (ln (am LW.num)) (ln (am LW.num)), .slice q8 (ln LW.den) (ln LW.den)] 27
    go_wp2_with fail
    clear qb_0 qb_1 qb_2 q6b_0 q6b_1 q6b_2
    obtain ⟨wC, hW⟩ : ∃ W, (w17.alloc (.cells #[.bool (ng LW.num), .slice p8 (ln (am LW.num)) (ln (am LW.num)), .slice q8 (ln LW.den) (ln LW.den)] 27)) = W := ⟨_, rfl⟩
    rw [hW] at bel qa qb qr q6b q8b hA hB o6 o8 ⊢
    clear hW
    refine (GHF.out _ p6 q6 hB o6).mono ?_
    rintro e w18 ⟨pH, qH, rfl, b1, oH⟩
    have bb := b1
    replace qa := qa.later bb
    replace qb := qb.later bb
    replace qr := qr.later bb
    replace q6b := q6b.later bb
    replace q8b := q8b.later bb
    replace hA := hA.on bb
    replace hB := hB.on bb
    replace o6 := o6.on bb
    replace o8 := o8.on bb
    replace bel := bel.trans (bb.mono bel.size)
    clear bb
    clear b1
    go_wp2_with fail
    refine (GLE.out _ pH qH oH).mono ?_
    rintro e w19 ⟨pE, qE, rfl, b1, o9⟩
    have bb := b1
    replace qa := qa.later bb
    replace qb := qb.later bb
    replace qr := qr.later bb
    replace q6b := q6b.later bb
    replace q8b := q8b.later bb
    replace hA := hA.on bb
    replace hB := hB.on bb
    replace o6 := o6.on bb
    replace o8 := o8.on bb
    replace oH := oH.on bb
    replace bel := bel.trans (bb.mono bel.size)
    clear bb
    clear b1
    clear oH
    have q8b_0 := q8b.cell 0
    have q8b_1 := q8b.cell 1
    have q8b_2 := q8b.cell 2
    simp only [List.getElem?_toArray, List.getElem?_cons_zero, List.getElem?_cons_succ] at q8b_0 q8b_1 q8b_2
    have lq9bqa := qa.lt
    have lq9bqb := qb.lt
    have lq9bqr := qr.lt
    have lq9bq6b := q6b.lt
    have lq9bq8b := q8b.lt
    have bb := below_alloc (w := w19) (.cells #[.bool (ng LE.num), .slice pE (ln (am LE.num)) (ln (am LE.num)), .slice qE (ln LE.den) (ln LE.den)] 27)
    replace qa := qa.later bb
    replace qb := qb.later bb
    replace qr := qr.later bb
    replace q6b := q6b.later bb
    replace q8b := q8b.later bb
    replace hA := hA.on bb
    replace hB := hB.on bb
    replace o6 := o6.on bb
    replace o8 := o8.on bb
    replace o9 := o9.on bb
    replace bel := bel.trans (bb.mono bel.size)
    clear bb
    have q9b := Blk.new w19 #[.bool (ng LE.num), .slice pE (ln (am LE.num)) (ln (am LE.num)), .slice qE (ln LE.den) (ln LE.den)] 27
    have lq11qa := qa.lt
    simp only [World.size_alloc] at lq11qa
    have lq11qb := qb.lt
    simp only [World.size_alloc] at lq11qb
    have lq11qr := qr.lt
    simp only [World.size_alloc] at lq11qr
    have lq11q6b := q6b.lt
    simp only [World.size_alloc] at lq11q6b
    have lq11q8b := q8b.lt
    simp only [World.size_alloc] at lq11q8b
    have lq11q9b := q9b.lt
    simp only [World.size_alloc] at lq11q9b
    have bb := below_alloc (w := (w19.alloc (.cells #[.bool (ng LE.num), .slice pE (ln (am LE.num)) (ln (am LE.num)), .slice qE (ln LE.den) (ln LE.den)] 27))) (.cells #[.bool false, .slice none 0 0, .slice none 0 0] 27)
    replace qa := qa.later bb
    replace qb := qb.later bb
    replace qr := qr.later bb
    replace q6b := q6b.later bb
    replace q8b := q8b.later bb
    replace q9b := q9b.later bb
    replace hA := hA.on bb
    replace hB := hB.on bb
    replace o6 := o6.on bb
    replace o8 := o8.on bb
    replace o9 := o9.on bb
    replace bel := bel.trans (bb.mono bel.size)
    clear bb
    have q11 := Blk.new (w19.alloc (.cells #[.bool (ng LE.num), .slice pE (ln (am LE.num)) (ln (am LE.num)), .slice qE (ln LE.den) (ln LE.den)] 27)) #[.bool false, .slice none 0 0, .slice none 0 0] 27
    simp only [World.size_alloc] at q11
    go_wp2_with fail
    clear q8b_0 q8b_1 q8b_2
    obtain ⟨wD, hW⟩ : ∃ W, ((w19.alloc (.cells #[.bool (ng LE.num), .slice pE (ln (am LE.num)) (ln (am LE.num)), .slice qE (ln LE.den) (ln LE.den)] 27)).alloc (.cells #[.bool false, .slice none 0 0, .slice none 0 0] 27)) = W := ⟨_, rfl⟩
    rw [hW] at bel qa qb qr q6b q8b q9b q11 hA hB o6 o8 o9 ⊢
    clear hW
    have l11 := q11.lt
    have l9 := q9b.lt
    refine (GSL.out _ p8 q8 o8).mono ?_
    rintro e w20 ⟨rfl, b1⟩
    have bb := b1
    replace qa := qa.later bb
    replace qb := qb.later bb
    replace qr := qr.later bb
    replace q6b := q6b.later bb
    replace q8b := q8b.later bb
    replace q9b := q9b.later bb
    replace q11 := q11.later bb
    replace hA := hA.on bb
    replace hB := hB.on bb
    replace o6 := o6.on bb
    replace o8 := o8.on bb
    replace o9 := o9.on bb
    replace bel := bel.trans (bb.mono bel.size)
    clear bb
    clear b1
    have q9b_0 := q9b.cell 0
    have q9b_1 := q9b.cell 1
    have q9b_2 := q9b.cell 2
    simp only [List.getElem?_toArray, List.getElem?_cons_zero, List.getElem?_cons_succ] at q9b_0 q9b_1 q9b_2
    go_wp2_with fail
    clear q9b_0 q9b_1 q9b_2
    refine (GM2.out _ pE qE o9).mono ?_
    rintro e w21 ⟨pm, rfl, nm1⟩
    have bb := nm1.below
    replace qa := qa.later bb
    replace qb := qb.later bb
    replace qr := qr.later bb
    replace q6b := q6b.later bb
    replace q8b := q8b.later bb
    replace q9b := q9b.later bb
    replace q11 := q11.later bb
    replace hA := hA.on bb
    replace hB := hB.on bb
    replace o6 := o6.on bb
    replace o8 := o8.on bb
    replace o9 := o9.on bb
    replace bel := bel.trans (bb.mono bel.size)
    clear bb
    have km := nm1.seg
    clear nm1
    go_wp2_with fail
    refine (GMI.out _ pm km).mono ?_
    rintro e w22 ⟨pM, qM, rfl, b1, oM⟩
    have bb := b1
    replace qa := qa.later bb
    replace qb := qb.later bb
    replace qr := qr.later bb
    replace q6b := q6b.later bb
    replace q8b := q8b.later bb
    replace q9b := q9b.later bb
    replace q11 := q11.later bb
    replace km := km.later bb
    replace hA := hA.on bb
    replace hB := hB.on bb
    replace o6 := o6.on bb
    replace o8 := o8.on bb
    replace o9 := o9.on bb
    replace bel := bel.trans (bb.mono bel.size)
    clear bb
    clear b1
    go_wp2_with fail
    clear km
    refine (vwholeQ1 _).mono ?_
    rintro e w23 ⟨p1, q1, rfl, b1, o1⟩
    have bb := b1
    replace qa := qa.later bb
    replace qb := qb.later bb
    replace qr := qr.later bb
    replace q6b := q6b.later bb
    replace q8b := q8b.later bb
    replace q9b := q9b.later bb
    replace q11 := q11.later bb
    replace hA := hA.on bb
    replace hB := hB.on bb
    replace o6 := o6.on bb
    replace o8 := o8.on bb
    replace o9 := o9.on bb
    replace oM := oM.on bb
    replace bel := bel.trans (bb.mono bel.size)
    clear bb
    clear b1
    go_wp2_with fail
    refine (GY.out _ pM qM p1 q1 oM o1).mono ?_
    rintro e w24 ⟨pY, qY, rfl, b1, oY⟩
    have bb := b1
    replace qa := qa.later bb
    replace qb := qb.later bb
    replace qr := qr.later bb
    replace q6b := q6b.later bb
    replace q8b := q8b.later bb
    replace q9b := q9b.later bb
    replace q11 := q11.later bb
    replace hA := hA.on bb
    replace hB := hB.on bb
    replace o6 := o6.on bb
    replace o8 := o8.on bb
    replace o9 := o9.on bb
    replace oM := oM.on bb
    replace o1 := o1.on bb
    replace bel := bel.trans (bb.mono bel.size)
    clear bb
    clear b1
    clear oM o1
    clear o8 o9 q8b q9b
    have q11_0 := q11.cell 0
    have q11_1 := q11.cell 1
    have q11_2 := q11.cell 2
    simp only [List.getElem?_toArray, List.getElem?_cons_zero, List.getElem?_cons_succ] at q11_0 q11_1 q11_2
    have fz := fun o => q11.frozen o
    go_wp2_with fail
    obtain ⟨c9, q9⟩ := q11.set3 (.bool (ng Y.num)) (.slice pY (ln (am Y.num)) (ln (am Y.num))) (.slice qY (ln Y.den) (ln Y.den))
    have hno := q11.no (by simp)
    replace qa := qa.ch c9 (by omega)
    replace qb := qb.ch c9 (by omega)
    replace qr := qr.ch c9 (by omega)
    replace q6b := q6b.ch c9 (by omega)
    replace hA := hA.ch c9 hno
    replace hB := hB.ch c9 hno
    replace o6 := o6.ch c9 hno
    replace oY := oY.ch c9 hno
    replace bel := bel.trans (c9.below (by omega))
    clear q11_0 q11_1 q11_2
    clear fz hno
    replace q11 := q9
    refine (GXI.out _ pY qY oY).mono ?_
    rintro e w25 ⟨pX, qX, rfl, b1, oX⟩
    have bb := b1
    replace qa := qa.later bb
    replace qb := qb.later bb
    replace qr := qr.later bb
    replace q6b := q6b.later bb
    replace q11 := q11.later bb
    replace hA := hA.on bb
    replace hB := hB.on bb
    replace o6 := o6.on bb
    replace oY := oY.on bb
    replace bel := bel.trans (bb.mono bel.size)
    clear bb
    clear b1
    clear oY q11
    have q6b_0 := q6b.cell 0
    have q6b_1 := q6b.cell 1
    have q6b_2 := q6b.cell 2
    simp only [List.getElem?_toArray, List.getElem?_cons_zero, List.getElem?_cons_succ] at q6b_0 q6b_1 q6b_2
    have lq14qa := qa.lt
    have lq14qb := qb.lt
    have lq14qr := qr.lt
    have lq14q6b := q6b.lt
    have bb := below_alloc (w := w25) (.cells #[.bool (ng XI.num), .slice pX (ln (am XI.num)) (ln (am XI.num)), .slice qX (ln XI.den) (ln XI.den)] 27)
    replace qa := qa.later bb
    replace qb := qb.later bb
    replace qr := qr.later bb
    replace q6b := q6b.later bb
    replace hA := hA.on bb
    replace hB := hB.on bb
    replace o6 := o6.on bb
    replace oX := oX.on bb
    replace bel := bel.trans (bb.mono bel.size)
    clear bb
    have q14 := Blk.new w25 #[.bool (ng XI.num), .slice pX (ln (am XI.num)) (ln (am XI.num)), .slice qX (ln XI.den) (ln XI.den)] 27
    go_wp2_with fail
    clear q6b_0 q6b_1 q6b_2
    obtain ⟨wG, hW⟩ : ∃ W, (w25.alloc (.cells #[.bool (ng XI.num), .slice pX (ln (am XI.num)) (ln (am XI.num)), .slice qX (ln XI.den) (ln XI.den)] 27)) = W := ⟨_, rfl⟩
    rw [hW] at bel qa qb qr q6b q14 hA hB o6 oX ⊢
    clear hW
    refine (GS.out _ p6 q6 pX qX o6 oX).mono ?_
    rintro e w26 ⟨pR, qR, rfl, b1, oR⟩
    have bb := b1
    replace qa := qa.later bb
    replace qb := qb.later bb
    replace qr := qr.later bb
    replace q6b := q6b.later bb
    replace q14 := q14.later bb
    replace hA := hA.on bb
    replace hB := hB.on bb
    replace o6 := o6.on bb
    replace oX := oX.on bb
    replace bel := bel.trans (bb.mono bel.size)
    clear bb
    clear b1
    clear q14 oX o6 q6b qa qb hA hB
    have qr_0 := qr.cell 0
    have qr_1 := qr.cell 1
    have qr_2 := qr.cell 2
    simp only [List.getElem?_toArray, List.getElem?_cons_zero, List.getElem?_cons_succ] at qr_0 qr_1 qr_2
    have fz := fun o => qr.frozen o
    go_wp2
    obtain ⟨c9, q9⟩ := qr.set3 (.bool (ng S.num)) (.slice pR (ln (am S.num)) (ln (am S.num))) (.slice qR (ln S.den) (ln S.den))
    have hno := qr.no (by simp)
    replace oR := oR.ch c9 hno
    replace bel := bel.trans (c9.below (by omega))
    clear qr_0 qr_1 qr_2
    clear fz hno
    replace qr := q9
    have qr_0 := qr.cell 0
    have qr_1 := qr.cell 1
    have qr_2 := qr.cell 2
    simp only [List.getElem?_toArray, List.getElem?_cons_zero, List.getElem?_cons_succ] at qr_0 qr_1 qr_2
    refine bodyPost_ret (v := .tuple #[.agg #[.bool (ng S.num), .slice pR (ln (am S.num)) (ln (am S.num)), .slice qR (ln S.den) (ln S.den)], .int .i64 0]) (by rw [results_ct rfl]; go_simp) rfl ?_
    exact ⟨pR, qR, rfl, bel, oR⟩
set_option maxHeartbeats 8000000 in
set_option maxRecDepth 100000 in
theorem vstep5 (A B : RatV) (fl G : Int) (Fq U : Rat) (w : World) (hA : A.ok w) (hB : B.ok w) (hn : A.n ≤ 35184372087808 ∧ A.m ≤ 35184372087808 ∧ B.n ≤ 35184372087808 ∧ B.m ≤ 35184372087808) (hcmp : sR (A.val - B.val) = -1) (hfl : Fl (rn A.s A.X A.Y) ((rd A.Y : Nat) : Int) fl G) (lf : ln (am fl) ≤ 35184372087900) (hF : ((fl : Int) : Rat) = Fq) (hU : Fq + 1 = U) (zFq : sz 35184372088000 Fq) (zU : sz 35184372088000 U) (C1 : Int) (h1 : sR (U - B.val) = C1) (h2 : 0 ≤ C1) (LW HF LE Y XI S : Rat) (hLW : A.val - Fq = LW) (hHF : B.val - Fq = HF) (hH0 : HF ≠ 0) (hLE : HF⁻¹ = LE) (hY0 : Y ≠ 0) (hXI : Y⁻¹ = XI) (hS : Fq + XI = S) (zLW : sz 35184372088000 LW) (zHF : sz 35184372088000 HF) (zLE : sz 35184372087808 LE) (zY : sz 35184372088000 Y) (zXI : sz 35184372088000 XI) (zS : sz 35184372088000 S) (h3 : sR LW = 1) (MO : Rat) (hL0 : LW ≠ 0) (hMO : LW⁻¹ = MO) (zMO : sz 35184372088000 MO) (hrec : ∀ w' p q p2 q2, (nR LE p q).ok w' → (nR MO p2 q2).ok w' → Calls Tryz.prog 9 #[.agg #[.bool (ng LE.num), .slice p (ln (am LE.num)) (ln (am LE.num)), .slice q (ln LE.den) (ln LE.den)], .agg #[.bool (ng MO.num), .slice p2 (ln (am MO.num)) (ln (am MO.num)), .slice q2 (ln MO.den) (ln MO.den)]] w' (SQ w' Y)) :
    Calls Tryz.prog 9 #[.agg #[.bool A.s, .slice A.a A.n A.c, .slice A.b A.m A.e], .agg #[.bool B.s, .slice B.a B.n B.c, .slice B.b B.m B.e]] w (SQ w S) := by
  have GC := hide' (fun w' k1 k2 => vcmpQ A B w' k1 k2 (by omega) (-1) hcmp)
  have GF := hide' (fun w' k1 => vfloorV A fl G w' k1 ⟨hn.1, hn.2.1⟩ hfl)
  have GI := hide' (fun w' p k1 => vintQ fl p w' lf k1)
  rw [hF] at GI
  have GU := hide' (fun w' p q p1 q1 (k1 : (nR Fq p q).ok w') (k2 : (nR 1 p1 q1).ok w') => vaddQ (nR Fq p q) (nR 1 p1 q1) U w' k1 k2 ⟨zFq.1, zFq.2, by show ln (am 1) ≤ _; rw [show am 1 = 1 from rfl, ln_one]; omega, by show ln 1 ≤ _; rw [ln_one]; omega⟩ (by rw [nR_val, nR_val]; exact hU) zU)
  have GUB := hide' (fun w' p q (k1 : (nR U p q).ok w') k2 => vcmpQ (nR U p q) B w' k1 k2 ⟨zU.1, zU.2, Nat.le_trans hn.2.2.1 (by omega), Nat.le_trans hn.2.2.2 (by omega)⟩ C1 (by rw [nR_val]; exact h1))
  have GLW := hide' (fun w' p q k1 (k2 : (nR Fq p q).ok w') => vsubQ A (nR Fq p q) LW w' k1 k2 ⟨Nat.le_trans hn.1 (by omega), Nat.le_trans hn.2.1 (by omega), zFq.1, zFq.2⟩ (by rw [nR_val]; exact hLW) zLW)
  have GHF := hide' (fun w' p q k1 (k2 : (nR Fq p q).ok w') => vsubQ B (nR Fq p q) HF w' k1 k2 ⟨Nat.le_trans hn.2.2.1 (by omega), Nat.le_trans hn.2.2.2 (by omega), zFq.1, zFq.2⟩ (by rw [nR_val]; exact hHF) zHF)
  have GLE := hide' (fun w' p q (k1 : (nR HF p q).ok w') => vinvQ (nR HF p q) LE w' k1 ⟨zHF.1, zHF.2⟩ (by rw [nR_val]; exact hH0) (by rw [nR_val]; exact hLE) (zLE.mono (by omega)))
  have GSL := hide' (fun w' p q (k1 : (nR LW p q).ok w') => vsignQ (nR LW p q) w' k1 1 (by rw [nR_val]; exact h3))
  have GXI := hide' (fun w' p q (k1 : (nR Y p q).ok w') => vinvQ (nR Y p q) XI w' k1 ⟨zY.1, zY.2⟩ (by rw [nR_val]; exact hY0) (by rw [nR_val]; exact hXI) zXI)
  have GS := hide' (fun w' p q p1 q1 (k1 : (nR Fq p q).ok w') (k2 : (nR XI p1 q1).ok w') => vaddQ (nR Fq p q) (nR XI p1 q1) S w' k1 k2 ⟨zFq.1, zFq.2, zXI.1, zXI.2⟩ (by rw [nR_val, nR_val]; exact hS) zS)
  have GMO := hide' (fun w' p q (k1 : (nR LW p q).ok w') => vinvQ (nR LW p q) MO w' k1 ⟨zLW.1, zLW.2⟩ (by rw [nR_val]; exact hL0) (by rw [nR_val]; exact hMO) zMO)
  have GRC := hide' (hrec)
  clear hcmp hfl hF hU h1 h3 hLW hHF hH0 hLE hY0 hXI hS hL0 hMO hrec
  have bel : Below w.heap.size w w := Below.refl _ _
  have bb := below_alloc (w := w) (.cells #[.bool A.s, .slice A.a A.n A.c, .slice A.b A.m A.e] 27)
  replace hA := hA.on bb
  replace hB := hB.on bb
  replace bel := bel.trans (bb.mono bel.size)
  clear bb
  have qa := Blk.new w #[.bool A.s, .slice A.a A.n A.c, .slice A.b A.m A.e] 27
  have bb := below_alloc (w := (w.alloc (.cells #[.bool A.s, .slice A.a A.n A.c, .slice A.b A.m A.e] 27))) (.cells #[.bool B.s, .slice B.a B.n B.c, .slice B.b B.m B.e] 27)
  replace qa := qa.later bb
  replace hA := hA.on bb
  replace hB := hB.on bb
  replace bel := bel.trans (bb.mono bel.size)
  clear bb
  have qb := Blk.new (w.alloc (.cells #[.bool A.s, .slice A.a A.n A.c, .slice A.b A.m A.e] 27)) #[.bool B.s, .slice B.a B.n B.c, .slice B.b B.m B.e] 27
  simp only [World.size_alloc] at qb
  have bb := below_alloc (w := ((w.alloc (.cells #[.bool A.s, .slice A.a A.n A.c, .slice A.b A.m A.e] 27)).alloc (.cells #[.bool B.s, .slice B.a B.n B.c, .slice B.b B.m B.e] 27))) (.cells #[.bool false, .slice none 0 0, .slice none 0 0] 27)
  replace qa := qa.later bb
  replace qb := qb.later bb
  replace hA := hA.on bb
  replace hB := hB.on bb
  replace bel := bel.trans (bb.mono bel.size)
  clear bb
  have qr := Blk.new ((w.alloc (.cells #[.bool A.s, .slice A.a A.n A.c, .slice A.b A.m A.e] 27)).alloc (.cells #[.bool B.s, .slice B.a B.n B.c, .slice B.b B.m B.e] 27)) #[.bool false, .slice none 0 0, .slice none 0 0] 27
  simp only [World.size_alloc] at qr
  go_enter Tryz.func9, Tryz.ntmps9
  go_wp2_with fail
  obtain ⟨W0, hW⟩ : ∃ W, (((w.alloc (.cells #[.bool A.s, .slice A.a A.n A.c, .slice A.b A.m A.e] 27)).alloc (.cells #[.bool B.s, .slice B.a B.n B.c, .slice B.b B.m B.e] 27)).alloc (.cells #[.bool false, .slice none 0 0, .slice none 0 0] 27)) = W := ⟨_, rfl⟩
  rw [hW] at bel qa qb qr hA hB ⊢
  clear hW
  have lqr := qr.lt
  refine (GC.out _ hA hB).mono ?_
  rintro e w1 ⟨rfl, b1⟩
  have bb := b1
  replace qa := qa.later bb
  replace qb := qb.later bb
  replace qr := qr.later bb
  replace hA := hA.on bb
  replace hB := hB.on bb
  replace bel := bel.trans (bb.mono bel.size)
  clear bb
  clear b1
  clear GC
  have qa_0 := qa.cell 0
  have qa_1 := qa.cell 1
  have qa_2 := qa.cell 2
  simp only [List.getElem?_toArray, List.getElem?_cons_zero, List.getElem?_cons_succ] at qa_0 qa_1 qa_2
  go_wp2_with fail
  clear qa_0 qa_1 qa_2
  refine (GF.out _ hA).mono ?_
  rintro e w2 ⟨pf, rfl, nf1⟩
  have bb := nf1.below
  replace qa := qa.later bb
  replace qb := qb.later bb
  replace qr := qr.later bb
  replace hA := hA.on bb
  replace hB := hB.on bb
  replace bel := bel.trans (bb.mono bel.size)
  clear bb
  have kf := nf1.seg
  clear nf1
  go_wp2_with fail
  refine (GI.out _ pf kf).mono ?_
  rintro e w3 ⟨p6, q6, rfl, b1, o6⟩
  have bb := b1
  replace qa := qa.later bb
  replace qb := qb.later bb
  replace qr := qr.later bb
  replace kf := kf.later bb
  replace hA := hA.on bb
  replace hB := hB.on bb
  replace bel := bel.trans (bb.mono bel.size)
  clear bb
  clear b1
  clear kf
  have lq6bqa := qa.lt
  have lq6bqb := qb.lt
  have lq6bqr := qr.lt
  have bb := below_alloc (w := w3) (.cells #[.bool (ng Fq.num), .slice p6 (ln (am Fq.num)) (ln (am Fq.num)), .slice q6 (ln Fq.den) (ln Fq.den)] 27)
  replace qa := qa.later bb
  replace qb := qb.later bb
  replace qr := qr.later bb
  replace hA := hA.on bb
  replace hB := hB.on bb
  replace o6 := o6.on bb
  replace bel := bel.trans (bb.mono bel.size)
  clear bb
  have q6b := Blk.new w3 #[.bool (ng Fq.num), .slice p6 (ln (am Fq.num)) (ln (am Fq.num)), .slice q6 (ln Fq.den) (ln Fq.den)] 27
  go_wp2_with fail
  obtain ⟨wB, hW⟩ : ∃ W, (w3.alloc (.cells #[.bool (ng Fq.num), .slice p6 (ln (am Fq.num)) (ln (am Fq.num)), .slice q6 (ln Fq.den) (ln Fq.den)] 27)) = W := ⟨_, rfl⟩
  rw [hW] at bel qa qb qr q6b hA hB o6 ⊢
  clear hW
  have lqrB := qr.lt
  have l6B := q6b.lt
  have hbs := bel.size
  have bT : Below wB.heap.size wB wB := Below.refl _ _
  go_cut [7] from 24 to 26 (fun s7_ wx => ∃ wh9 c7 p7 q7, wh9 = wx ∧ s7_ = .pointer (some ⟨c7, 0, none⟩) ∧ wB.heap.size ≤ c7 ∧ Blk wx c7 #[.bool (ng U.num), .slice p7 (ln (am U.num)) (ln (am U.num)), .slice q7 (ln U.den) (ln U.den)] 27 ∧ (nR U p7 q7).ok wx ∧ Below wB.heap.size wB wx)
  case first =>
    have q6b_0 := q6b.cell 0
    have q6b_1 := q6b.cell 1
    have q6b_2 := q6b.cell 2
    simp only [List.getElem?_toArray, List.getElem?_cons_zero, List.getElem?_cons_succ] at q6b_0 q6b_1 q6b_2
    have bD : Below wB.heap.size wB wB.drew := (Below.refl _ _).drew
    have kq6b_0 := below_cell bD q6b_0
    have kq6b_1 := below_cell bD q6b_1
    have kq6b_2 := below_cell bD q6b_2
    replace hA := hA.on bD
    replace hB := hB.on bD
    replace o6 := o6.on bD
    replace bT := bT.trans (bD.mono bT.size)
    replace qa := qa.later bD
    replace qb := qb.later bD
    replace qr := qr.later bD
    replace q6b := q6b.later bD
    refine wp_region_held_drew (S := fun w' => w'.cell? ⟨w3.heap.size, 0, none⟩ = some (.bool (ng Fq.num)) ∧ w'.cell? ⟨w3.heap.size, 1, none⟩ = some (.slice p6 (ln (am Fq.num)) (ln (am Fq.num))) ∧ w'.cell? ⟨w3.heap.size, 2, none⟩ = some (.slice q6 (ln Fq.den) (ln Fq.den))) (by kernel_rfl) ⟨kq6b_0, kq6b_1, kq6b_2⟩ (fun hHeld => ?_)
    clear kq6b_0 kq6b_1 kq6b_2
    generalize wB.drew = w0F at bD hA hB o6 qa qb qr q6b bT hHeld ⊢
    clear bD q6b_0 q6b_1 q6b_2
    clear qa qb qr q6b hA hB
    refine tk 0 (v := ?_) rfl (Or.inl ⟨by rfl, ?_⟩) ?_
    rotate_left
    · intro w9 hSw
      go_simp
      first | done | with_reducible rfl
    simp only [pP, pN, pS, pZ, pC]
    refine wpAnyH_ready (rs := [1, 3]) (by kernel_rfl) (by simp) ?_
    refine consT rfl (fun KK hKK => ?_) ?_
    · skip
      go_simp
      refine (vwholeQ1 _).mono ?_
      rintro e w4 ⟨p1, q1, rfl, b1, o1⟩
      have bC := b1
      replace o6 := o6.on bC
      replace bT := bT.trans (bC.mono bT.size)
      replace hHeld := (⟨below_cell bC hHeld.1, below_cell bC hHeld.2.1, below_cell bC hHeld.2.2⟩ : _ ∧ _ ∧ _)
      clear bC
      go_wp2_with fail
      clear b1
      refine hKK.out _ _ hHeld ?_
      clear hHeld
      intro hHeld
      clear hKK KK
      try simp only [pP, pN, pS, pZ, pC]
      refine wpAnyH_ready (rs := [2, 3]) (by kernel_rfl) (by simp) ?_
      refine consT rfl (fun KK hKK => ?_) ?_
      · skip
        go_simp
        refine (GU.out _ p6 q6 p1 q1 o6 o1).mono ?_
        rintro e w5 ⟨p7, q7, rfl, b1, o7⟩
        have bC := b1
        replace o6 := o6.on bC
        replace o1 := o1.on bC
        replace bT := bT.trans (bC.mono bT.size)
        replace hHeld := (⟨below_cell bC hHeld.1, below_cell bC hHeld.2.1, below_cell bC hHeld.2.2⟩ : _ ∧ _ ∧ _)
        clear bC
        go_wp2_with fail
        clear b1
        refine hKK.out _ _ hHeld ?_
        clear hHeld
        intro hHeld
        clear hKK KK
        try simp only [pP, pN, pS, pZ, pC]
        refine wpAnyH_ready (rs := [3]) (by kernel_rfl) (by simp) ?_
        refine cons' rfl (fun KK hKK => ?_)
        go_simp
        have q7b := Blk.new w5 #[.bool false, .slice none 0 0, .slice none 0 0] 27
        have bA := below_alloc (w := w5) (.cells #[.bool false, .slice none 0 0, .slice none 0 0] 27)
        have hq7bge := bT.size
        have hq7bc0 := cell_ltB hHeld.1
        have hq7bc1 := cell_ltB hHeld.2.1
        have hq7bc2 := cell_ltB hHeld.2.2
        generalize w5.alloc (.cells #[.bool false, .slice none 0 0, .slice none 0 0] 27) = w6 at q7b bA ⊢
        replace o6 := o6.on bA
        replace o1 := o1.on bA
        replace o7 := o7.on bA
        replace bT := bT.trans (bA.mono bT.size)
        replace hHeld := (⟨below_cell bA hHeld.1, below_cell bA hHeld.2.1, below_cell bA hHeld.2.2⟩ : _ ∧ _ ∧ _)
        clear bA
        refine hKK.out _ _ hHeld ?_
        clear hHeld
        intro hHeld
        clear hKK KK
        try simp only [pP, pN, pS, pZ, pC]
        obtain ⟨cq7b, hcc⟩ : ∃ cc, w5.heap.size = cc := ⟨_, rfl⟩
        rw [hcc] at q7b hq7bge hq7bc0 hq7bc1 hq7bc2
        try rw [hcc]
        clear hcc
        refine wpAnyH_ready (rs := [4]) (by kernel_rfl) (by simp) ?_
        refine cons' rfl (fun KK hKK => ?_)
        have z0 := q7b.cell 0
        have z1 := q7b.cell 1
        have z2 := q7b.cell 2
        simp only [List.getElem?_toArray, List.getElem?_cons_zero, List.getElem?_cons_succ] at z0 z1 z2
        have fz := fun o => q7b.frozen o
        obtain ⟨c9, q9⟩ := q7b.set3 (.bool (ng U.num)) (.slice p7 (ln (am U.num)) (ln (am U.num))) (.slice q7 (ln U.den) (ln U.den))
        have hno := q7b.no (by simp)
        replace o6 := o6.ch c9 hno
        replace o1 := o1.ch c9 hno
        replace o7 := o7.ch c9 hno
        replace bT := bT.trans (c9.below (by omega))
        have hH2 := (⟨(World.cell?_of_block (w := w6) (a := ⟨w3.heap.size, 0, none⟩) (c9.other (w3.heap.size) (by omega))).trans hHeld.1, (World.cell?_of_block (w := w6) (a := ⟨w3.heap.size, 1, none⟩) (c9.other (w3.heap.size) (by omega))).trans hHeld.2.1, (World.cell?_of_block (w := w6) (a := ⟨w3.heap.size, 2, none⟩) (c9.other (w3.heap.size) (by omega))).trans hHeld.2.2⟩ : _ ∧ _ ∧ _)
        go_simp
        clear z0 z1 z2 fz hno c9
        replace q7b := q9
        refine hKK.out _ _ hH2 ?_
        clear hHeld
        intro hHeld
        clear hKK KK
        try simp only [pP, pN, pS, pZ, pC]
        clear hH2
        generalize (((w6.setCell ⟨cq7b, 0, none⟩ (.bool (ng U.num))).setCell ⟨cq7b, 1, none⟩ (.slice p7 (ln (am U.num)) (ln (am U.num)))).setCell ⟨cq7b, 2, none⟩ (.slice q7 (ln U.den) (ln U.den))) = w7 at bT q7b o6 o1 o7 hHeld ⊢
        refine wpAnyH_done (by kernel_rfl) ?_ _
        go_wp2_with fail
        go_meet
        exact ⟨_, cq7b, p7, q7, rfl, rfl, hq7bge, q7b, o7, bT⟩
      refine consT rfl (fun KK hKK => ?_) ?_
      · skip
        go_simp
        have q7b := Blk.new w4 #[.bool false, .slice none 0 0, .slice none 0 0] 27
        have bA := below_alloc (w := w4) (.cells #[.bool false, .slice none 0 0, .slice none 0 0] 27)
        have hq7bge := bT.size
        have hq7bc0 := cell_ltB hHeld.1
        have hq7bc1 := cell_ltB hHeld.2.1
        have hq7bc2 := cell_ltB hHeld.2.2
        generalize w4.alloc (.cells #[.bool false, .slice none 0 0, .slice none 0 0] 27) = w8 at q7b bA ⊢
        replace o6 := o6.on bA
        replace o1 := o1.on bA
        replace bT := bT.trans (bA.mono bT.size)
        replace hHeld := (⟨below_cell bA hHeld.1, below_cell bA hHeld.2.1, below_cell bA hHeld.2.2⟩ : _ ∧ _ ∧ _)
        clear bA
        refine hKK.out _ _ hHeld ?_
        clear hHeld
        intro hHeld
        clear hKK KK
        try simp only [pP, pN, pS, pZ, pC]
        obtain ⟨cq7b, hcc⟩ : ∃ cc, w4.heap.size = cc := ⟨_, rfl⟩
        rw [hcc] at q7b hq7bge hq7bc0 hq7bc1 hq7bc2
        try rw [hcc]
        clear hcc
        refine wpAnyH_ready (rs := [2]) (by kernel_rfl) (by simp) ?_
        refine cons' rfl (fun KK hKK => ?_)
        go_simp
        refine (GU.out _ p6 q6 p1 q1 o6 o1).mono ?_
        rintro e w9 ⟨p7, q7, rfl, b1, o7⟩
        have bC := b1
        replace o6 := o6.on bC
        replace o1 := o1.on bC
        replace bT := bT.trans (bC.mono bT.size)
        replace q7b := q7b.later bC
        replace hHeld := (⟨below_cell bC hHeld.1, below_cell bC hHeld.2.1, below_cell bC hHeld.2.2⟩ : _ ∧ _ ∧ _)
        clear bC
        go_wp2_with fail
        clear b1
        refine hKK.out _ _ hHeld ?_
        clear hHeld
        intro hHeld
        clear hKK KK
        try simp only [pP, pN, pS, pZ, pC]
        refine wpAnyH_ready (rs := [4]) (by kernel_rfl) (by simp) ?_
        refine cons' rfl (fun KK hKK => ?_)
        have z0 := q7b.cell 0
        have z1 := q7b.cell 1
        have z2 := q7b.cell 2
        simp only [List.getElem?_toArray, List.getElem?_cons_zero, List.getElem?_cons_succ] at z0 z1 z2
        have fz := fun o => q7b.frozen o
        obtain ⟨c9, q9⟩ := q7b.set3 (.bool (ng U.num)) (.slice p7 (ln (am U.num)) (ln (am U.num))) (.slice q7 (ln U.den) (ln U.den))
        have hno := q7b.no (by simp)
        replace o6 := o6.ch c9 hno
        replace o1 := o1.ch c9 hno
        replace o7 := o7.ch c9 hno
        replace bT := bT.trans (c9.below (by omega))
        have hH2 := (⟨(World.cell?_of_block (w := w9) (a := ⟨w3.heap.size, 0, none⟩) (c9.other (w3.heap.size) (by omega))).trans hHeld.1, (World.cell?_of_block (w := w9) (a := ⟨w3.heap.size, 1, none⟩) (c9.other (w3.heap.size) (by omega))).trans hHeld.2.1, (World.cell?_of_block (w := w9) (a := ⟨w3.heap.size, 2, none⟩) (c9.other (w3.heap.size) (by omega))).trans hHeld.2.2⟩ : _ ∧ _ ∧ _)
        go_simp
        clear z0 z1 z2 fz hno c9
        replace q7b := q9
        refine hKK.out _ _ hH2 ?_
        clear hHeld
        intro hHeld
        clear hKK KK
        try simp only [pP, pN, pS, pZ, pC]
        clear hH2
        generalize (((w9.setCell ⟨cq7b, 0, none⟩ (.bool (ng U.num))).setCell ⟨cq7b, 1, none⟩ (.slice p7 (ln (am U.num)) (ln (am U.num)))).setCell ⟨cq7b, 2, none⟩ (.slice q7 (ln U.den) (ln U.den))) = w10 at bT q7b o6 o1 o7 hHeld ⊢
        refine wpAnyH_done (by kernel_rfl) ?_ _
        go_wp2_with fail
        go_meet
        exact ⟨_, cq7b, p7, q7, rfl, rfl, hq7bge, q7b, o7, bT⟩
      exact AllReadyH.nil
    refine consT rfl (fun KK hKK => ?_) ?_
    · skip
      go_simp
      have q7b := Blk.new w0F #[.bool false, .slice none 0 0, .slice none 0 0] 27
      have bA := below_alloc (w := w0F) (.cells #[.bool false, .slice none 0 0, .slice none 0 0] 27)
      have hq7bge := bT.size
      have hq7bc0 := cell_ltB hHeld.1
      have hq7bc1 := cell_ltB hHeld.2.1
      have hq7bc2 := cell_ltB hHeld.2.2
      generalize w0F.alloc (.cells #[.bool false, .slice none 0 0, .slice none 0 0] 27) = w11 at q7b bA ⊢
      replace o6 := o6.on bA
      replace bT := bT.trans (bA.mono bT.size)
      replace hHeld := (⟨below_cell bA hHeld.1, below_cell bA hHeld.2.1, below_cell bA hHeld.2.2⟩ : _ ∧ _ ∧ _)
      clear bA
      refine hKK.out _ _ hHeld ?_
      clear hHeld
      intro hHeld
      clear hKK KK
      try simp only [pP, pN, pS, pZ, pC]
      obtain ⟨cq7b, hcc⟩ : ∃ cc, w0F.heap.size = cc := ⟨_, rfl⟩
      rw [hcc] at q7b hq7bge hq7bc0 hq7bc1 hq7bc2
      try rw [hcc]
      clear hcc
      refine wpAnyH_ready (rs := [1]) (by kernel_rfl) (by simp) ?_
      refine cons' rfl (fun KK hKK => ?_)
      go_simp
      refine (vwholeQ1 _).mono ?_
      rintro e w12 ⟨p1, q1, rfl, b1, o1⟩
      have bC := b1
      replace o6 := o6.on bC
      replace bT := bT.trans (bC.mono bT.size)
      replace q7b := q7b.later bC
      replace hHeld := (⟨below_cell bC hHeld.1, below_cell bC hHeld.2.1, below_cell bC hHeld.2.2⟩ : _ ∧ _ ∧ _)
      clear bC
      go_wp2_with fail
      clear b1
      refine hKK.out _ _ hHeld ?_
      clear hHeld
      intro hHeld
      clear hKK KK
      try simp only [pP, pN, pS, pZ, pC]
      refine wpAnyH_ready (rs := [2]) (by kernel_rfl) (by simp) ?_
      refine cons' rfl (fun KK hKK => ?_)
      go_simp
      refine (GU.out _ p6 q6 p1 q1 o6 o1).mono ?_
      rintro e w13 ⟨p7, q7, rfl, b1, o7⟩
      have bC := b1
      replace o6 := o6.on bC
      replace o1 := o1.on bC
      replace bT := bT.trans (bC.mono bT.size)
      replace q7b := q7b.later bC
      replace hHeld := (⟨below_cell bC hHeld.1, below_cell bC hHeld.2.1, below_cell bC hHeld.2.2⟩ : _ ∧ _ ∧ _)
      clear bC
      go_wp2_with fail
      clear b1
      refine hKK.out _ _ hHeld ?_
      clear hHeld
      intro hHeld
      clear hKK KK
      try simp only [pP, pN, pS, pZ, pC]
      refine wpAnyH_ready (rs := [4]) (by kernel_rfl) (by simp) ?_
      refine cons' rfl (fun KK hKK => ?_)
      have z0 := q7b.cell 0
      have z1 := q7b.cell 1
      have z2 := q7b.cell 2
      simp only [List.getElem?_toArray, List.getElem?_cons_zero, List.getElem?_cons_succ] at z0 z1 z2
      have fz := fun o => q7b.frozen o
      obtain ⟨c9, q9⟩ := q7b.set3 (.bool (ng U.num)) (.slice p7 (ln (am U.num)) (ln (am U.num))) (.slice q7 (ln U.den) (ln U.den))
      have hno := q7b.no (by simp)
      replace o6 := o6.ch c9 hno
      replace o1 := o1.ch c9 hno
      replace o7 := o7.ch c9 hno
      replace bT := bT.trans (c9.below (by omega))
      have hH2 := (⟨(World.cell?_of_block (w := w13) (a := ⟨w3.heap.size, 0, none⟩) (c9.other (w3.heap.size) (by omega))).trans hHeld.1, (World.cell?_of_block (w := w13) (a := ⟨w3.heap.size, 1, none⟩) (c9.other (w3.heap.size) (by omega))).trans hHeld.2.1, (World.cell?_of_block (w := w13) (a := ⟨w3.heap.size, 2, none⟩) (c9.other (w3.heap.size) (by omega))).trans hHeld.2.2⟩ : _ ∧ _ ∧ _)
      go_simp
      clear z0 z1 z2 fz hno c9
      replace q7b := q9
      refine hKK.out _ _ hH2 ?_
      clear hHeld
      intro hHeld
      clear hKK KK
      try simp only [pP, pN, pS, pZ, pC]
      clear hH2
      generalize (((w13.setCell ⟨cq7b, 0, none⟩ (.bool (ng U.num))).setCell ⟨cq7b, 1, none⟩ (.slice p7 (ln (am U.num)) (ln (am U.num)))).setCell ⟨cq7b, 2, none⟩ (.slice q7 (ln U.den) (ln U.den))) = w14 at bT q7b o6 o1 o7 hHeld ⊢
      refine wpAnyH_done (by kernel_rfl) ?_ _
      go_wp2_with fail
      go_meet
      exact ⟨_, cq7b, p7, q7, rfl, rfl, hq7bge, q7b, o7, bT⟩
    exact AllReadyH.nil
  case rest =>
    obtain ⟨wc15, c7, p7, q7, hwv, rfl, g7, q7b, o7, bT⟩ := hcut
    subst hwv
    replace qa := qa.later bT
    replace qb := qb.later bT
    replace qr := qr.later bT
    replace q6b := q6b.later bT
    replace hA := hA.on bT
    replace hB := hB.on bT
    replace o6 := o6.on bT
    replace bel := bel.trans (bT.mono bel.size)
    clear bT
    clear GU hbs
    have q7b_0 := q7b.cell 0
    have q7b_1 := q7b.cell 1
    have q7b_2 := q7b.cell 2
    have qb_0 := qb.cell 0
    have qb_1 := qb.cell 1
    have qb_2 := qb.cell 2
    simp only [List.getElem?_toArray, List.getElem?_cons_zero, List.getElem?_cons_succ] at q7b_0 q7b_1 q7b_2 qb_0 qb_1 qb_2
    go_wp2_with fail
    clear q7b_0 q7b_1 q7b_2 qb_0 qb_1 qb_2
    refine (GUB.out _ p7 q7 o7 hB).mono ?_
    rintro e w16 ⟨rfl, b1⟩
    have bb := b1
    replace qa := qa.later bb
    replace qb := qb.later bb
    replace qr := qr.later bb
    replace q6b := q6b.later bb
    replace q7b := q7b.later bb
    replace hA := hA.on bb
    replace hB := hB.on bb
    replace o6 := o6.on bb
    replace o7 := o7.on bb
    replace bel := bel.trans (bb.mono bel.size)
    clear bb
    clear b1
    clear GUB
    have h6 : ¬ (C1 < 0) := by omega
    clear q7b o7
    have qa_0 := qa.cell 0
    have qa_1 := qa.cell 1
    have qa_2 := qa.cell 2
    have q6b_0 := q6b.cell 0
    have q6b_1 := q6b.cell 1
    have q6b_2 := q6b.cell 2
    simp only [List.getElem?_toArray, List.getElem?_cons_zero, List.getElem?_cons_succ] at qa_0 qa_1 qa_2 q6b_0 q6b_1 q6b_2
    go_wp2_with fail
    clear qa_0 qa_1 qa_2 q6b_0 q6b_1 q6b_2
    refine (GLW.out _ p6 q6 hA o6).mono ?_
    rintro e w17 ⟨p8, q8, rfl, b1, o8⟩
    have bb := b1
    replace qa := qa.later bb
    replace qb := qb.later bb
    replace qr := qr.later bb
    replace q6b := q6b.later bb
    replace hA := hA.on bb
    replace hB := hB.on bb
    replace o6 := o6.on bb
    replace bel := bel.trans (bb.mono bel.size)
    clear bb
    clear b1
    have qb_0 := qb.cell 0
    have qb_1 := qb.cell 1
    have qb_2 := qb.cell 2
    have q6b_0 := q6b.cell 0
    have q6b_1 := q6b.cell 1
    have q6b_2 := q6b.cell 2
    simp only [List.getElem?_toArray, List.getElem?_cons_zero, List.getElem?_cons_succ] at qb_0 qb_1 qb_2 q6b_0 q6b_1 q6b_2
    have lq8bqa := qa.lt
    have lq8bqb := qb.lt
    have lq8bqr := qr.lt
    have lq8bq6b := q6b.lt
    have bb := below_alloc (w := w17) (.cells #[.bool (ng LW.num), .slice p8 (ln (am LW.num)) (ln (am LW.num)), .slice q8 (ln LW.den) (ln LW.den)] 27)
    replace qa := qa.later bb
    replace qb := qb.later bb
    replace qr := qr.later bb
    replace q6b := q6b.later bb
    replace hA := hA.on bb
    replace hB := hB.on bb
    replace o6 := o6.on bb
    replace o8 := o8.on bb
    replace bel := bel.trans (bb.mono bel.size)
    clear bb
    have q8b := Blk.new w17 #[.bool (ng LW.num), .slice p8 (ln (am LW.num)) (ln (am LW.num)), .slice q8 (ln LW.den) (ln LW.den)] 27
    go_wp2_with fail
    clear qb_0 qb_1 qb_2 q6b_0 q6b_1 q6b_2
    obtain ⟨wC, hW⟩ : ∃ W, (w17.alloc (.cells #[.bool (ng LW.num), .slice p8 (ln (am LW.num)) (ln (am LW.num)), .slice q8 (ln LW.den) (ln LW.den)] 27)) = W := ⟨_, rfl⟩
    rw [hW] at bel qa qb qr q6b q8b hA hB o6 o8 ⊢
    clear hW
    refine (GHF.out _ p6 q6 hB o6).mono ?_
    rintro e w18 ⟨pH, qH, rfl, b1, oH⟩
    have bb := b1
    replace qa := qa.later bb
    replace qb := qb.later bb
    replace qr := qr.later bb
    replace q6b := q6b.later bb
    replace q8b := q8b.later bb
    replace hA := hA.on bb
    replace hB := hB.on bb
    replace o6 := o6.on bb
    replace o8 := o8.on bb
    replace bel := bel.trans (bb.mono bel.size)
    clear bb
    clear b1
    go_wp2_with fail
    refine (GLE.out _ pH qH oH).mono ?_
    rintro e w19 ⟨pE, qE, rfl, b1, o9⟩
    have bb := b1
    replace qa := qa.later bb
    replace qb := qb.later bb
    replace qr := qr.later bb
    replace q6b := q6b.later bb
    replace q8b := q8b.later bb
    replace hA := hA.on bb
    replace hB := hB.on bb
    replace o6 := o6.on bb
    replace o8 := o8.on bb
    replace oH := oH.on bb
    replace bel := bel.trans (bb.mono bel.size)
    clear bb
    clear b1
    clear oH
    have q8b_0 := q8b.cell 0
    have q8b_1 := q8b.cell 1
    have q8b_2 := q8b.cell 2
    simp only [List.getElem?_toArray, List.getElem?_cons_zero, List.getElem?_cons_succ] at q8b_0 q8b_1 q8b_2
    have lq9bqa := qa.lt
    have lq9bqb := qb.lt
    have lq9bqr := qr.lt
    have lq9bq6b := q6b.lt
    have lq9bq8b := q8b.lt
    have bb := below_alloc (w := w19) (.cells #[.bool (ng LE.num), .slice pE (ln (am LE.num)) (ln (am LE.num)), .slice qE (ln LE.den) (ln LE.den)] 27)
    replace qa := qa.later bb
    replace qb := qb.later bb
    replace qr := qr.later bb
    replace q6b := q6b.later bb
    replace q8b := q8b.later bb
    replace hA := hA.on bb
    replace hB := hB.on bb
    replace o6 := o6.on bb
    replace o8 := o8.on bb
    replace o9 := o9.on bb
    replace bel := bel.trans (bb.mono bel.size)
    clear bb
    have q9b := Blk.new w19 #[.bool (ng LE.num), .slice pE (ln (am LE.num)) (ln (am LE.num)), .slice qE (ln LE.den) (ln LE.den)] 27
    have lq11qa := qa.lt
    simp only [World.size_alloc] at lq11qa
    have lq11qb := qb.lt
    simp only [World.size_alloc] at lq11qb
    have lq11qr := qr.lt
    simp only [World.size_alloc] at lq11qr
    have lq11q6b := q6b.lt
    simp only [World.size_alloc] at lq11q6b
    have lq11q8b := q8b.lt
    simp only [World.size_alloc] at lq11q8b
    have lq11q9b := q9b.lt
    simp only [World.size_alloc] at lq11q9b
    have bb := below_alloc (w := (w19.alloc (.cells #[.bool (ng LE.num), .slice pE (ln (am LE.num)) (ln (am LE.num)), .slice qE (ln LE.den) (ln LE.den)] 27))) (.cells #[.bool false, .slice none 0 0, .slice none 0 0] 27)
    replace qa := qa.later bb
    replace qb := qb.later bb
    replace qr := qr.later bb
    replace q6b := q6b.later bb
    replace q8b := q8b.later bb
    replace q9b := q9b.later bb
    replace hA := hA.on bb
    replace hB := hB.on bb
    replace o6 := o6.on bb
    replace o8 := o8.on bb
    replace o9 := o9.on bb
    replace bel := bel.trans (bb.mono bel.size)
    clear bb
    have q11 := Blk.new (w19.alloc (.cells #[.bool (ng LE.num), .slice pE (ln (am LE.num)) (ln (am LE.num)), .slice qE (ln LE.den) (ln LE.den)] 27)) #[.bool false, .slice none 0 0, .slice none 0 0] 27
    simp only [World.size_alloc] at q11
    go_wp2_with fail
    clear q8b_0 q8b_1 q8b_2
    obtain ⟨wD, hW⟩ : ∃ W, ((w19.alloc (.cells #[.bool (ng LE.num), .slice pE (ln (am LE.num)) (ln (am LE.num)), .slice qE (ln LE.den) (ln LE.den)] 27)).alloc (.cells #[.bool false, .slice none 0 0, .slice none 0 0] 27)) = W := ⟨_, rfl⟩
    rw [hW] at bel qa qb qr q6b q8b q9b q11 hA hB o6 o8 o9 ⊢
    clear hW
    have l11 := q11.lt
    have l9 := q9b.lt
    refine (GSL.out _ p8 q8 o8).mono ?_
    rintro e w20 ⟨rfl, b1⟩
    have bb := b1
    replace qa := qa.later bb
    replace qb := qb.later bb
    replace qr := qr.later bb
    replace q6b := q6b.later bb
    replace q8b := q8b.later bb
    replace q9b := q9b.later bb
    replace q11 := q11.later bb
    replace hA := hA.on bb
    replace hB := hB.on bb
    replace o6 := o6.on bb
    replace o8 := o8.on bb
    replace o9 := o9.on bb
    replace bel := bel.trans (bb.mono bel.size)
    clear bb
    clear b1
    have q8b_0 := q8b.cell 0
    have q8b_1 := q8b.cell 1
    have q8b_2 := q8b.cell 2
    simp only [List.getElem?_toArray, List.getElem?_cons_zero, List.getElem?_cons_succ] at q8b_0 q8b_1 q8b_2
    go_wp2_with fail
    clear q8b_0 q8b_1 q8b_2
    refine (GMO.out _ p8 q8 o8).mono ?_
    rintro e w21 ⟨pO, qO, rfl, b1, oO⟩
    have bb := b1
    replace qa := qa.later bb
    replace qb := qb.later bb
    replace qr := qr.later bb
    replace q6b := q6b.later bb
    replace q8b := q8b.later bb
    replace q9b := q9b.later bb
    replace q11 := q11.later bb
    replace hA := hA.on bb
    replace hB := hB.on bb
    replace o6 := o6.on bb
    replace o8 := o8.on bb
    replace o9 := o9.on bb
    replace bel := bel.trans (bb.mono bel.size)
    clear bb
    clear b1
    have q9b_0 := q9b.cell 0
    have q9b_1 := q9b.cell 1
    have q9b_2 := q9b.cell 2
    simp only [List.getElem?_toArray, List.getElem?_cons_zero, List.getElem?_cons_succ] at q9b_0 q9b_1 q9b_2
    have lq12qa := qa.lt
    have lq12qb := qb.lt
    have lq12qr := qr.lt
    have lq12q6b := q6b.lt
    have lq12q8b := q8b.lt
    have lq12q9b := q9b.lt
    have lq12q11 := q11.lt
    have bb := below_alloc (w := w21) (.cells #[.bool (ng MO.num), .slice pO (ln (am MO.num)) (ln (am MO.num)), .slice qO (ln MO.den) (ln MO.den)] 27)
    replace qa := qa.later bb
    replace qb := qb.later bb
    replace qr := qr.later bb
    replace q6b := q6b.later bb
    replace q8b := q8b.later bb
    replace q9b := q9b.later bb
    replace q11 := q11.later bb
    replace hA := hA.on bb
    replace hB := hB.on bb
    replace o6 := o6.on bb
    replace o8 := o8.on bb
    replace o9 := o9.on bb
    replace oO := oO.on bb
    replace bel := bel.trans (bb.mono bel.size)
    clear bb
    have q12 := Blk.new w21 #[.bool (ng MO.num), .slice pO (ln (am MO.num)) (ln (am MO.num)), .slice qO (ln MO.den) (ln MO.den)] 27
    go_wp2_with fail
    clear q9b_0 q9b_1 q9b_2
    obtain ⟨wE, hW⟩ : ∃ W, (w21.alloc (.cells #[.bool (ng MO.num), .slice pO (ln (am MO.num)) (ln (am MO.num)), .slice qO (ln MO.den) (ln MO.den)] 27)) = W := ⟨_, rfl⟩
    rw [hW] at bel qa qb qr q6b q8b q9b q11 q12 hA hB o6 o8 o9 oO ⊢
    clear hW
    refine (GRC.out _ pE qE pO qO o9 oO).mono ?_
    rintro e w22 ⟨pY, qY, rfl, b1, oY⟩
    have bb := b1
    replace qa := qa.later bb
    replace qb := qb.later bb
    replace qr := qr.later bb
    replace q6b := q6b.later bb
    replace q8b := q8b.later bb
    replace q9b := q9b.later bb
    replace q11 := q11.later bb
    replace q12 := q12.later bb
    replace hA := hA.on bb
    replace hB := hB.on bb
    replace o6 := o6.on bb
    replace o8 := o8.on bb
    replace o9 := o9.on bb
    replace oO := oO.on bb
    replace bel := bel.trans (bb.mono bel.size)
    clear bb
    clear b1
    clear oO q12
    clear o8 o9 q8b q9b
    have q11_0 := q11.cell 0
    have q11_1 := q11.cell 1
    have q11_2 := q11.cell 2
    simp only [List.getElem?_toArray, List.getElem?_cons_zero, List.getElem?_cons_succ] at q11_0 q11_1 q11_2
    have fz := fun o => q11.frozen o
    go_wp2_with fail
    obtain ⟨c9, q9⟩ := q11.set3 (.bool (ng Y.num)) (.slice pY (ln (am Y.num)) (ln (am Y.num))) (.slice qY (ln Y.den) (ln Y.den))
    have hno := q11.no (by simp)
    replace qa := qa.ch c9 (by omega)
    replace qb := qb.ch c9 (by omega)
    replace qr := qr.ch c9 (by omega)
    replace q6b := q6b.ch c9 (by omega)
    replace hA := hA.ch c9 hno
    replace hB := hB.ch c9 hno
    replace o6 := o6.ch c9 hno
    replace oY := oY.ch c9 hno
    replace bel := bel.trans (c9.below (by omega))
    clear q11_0 q11_1 q11_2
    clear fz hno
    replace q11 := q9
    refine (GXI.out _ pY qY oY).mono ?_
    rintro e w23 ⟨pX, qX, rfl, b1, oX⟩
    have bb := b1
    replace qa := qa.later bb
    replace qb := qb.later bb
    replace qr := qr.later bb
    replace q6b := q6b.later bb
    replace q11 := q11.later bb
    replace hA := hA.on bb
    replace hB := hB.on bb
    replace o6 := o6.on bb
    replace oY := oY.on bb
    replace bel := bel.trans (bb.mono bel.size)
    clear bb
    clear b1
    clear oY q11
    have q6b_0 := q6b.cell 0
    have q6b_1 := q6b.cell 1
    have q6b_2 := q6b.cell 2
    simp only [List.getElem?_toArray, List.getElem?_cons_zero, List.getElem?_cons_succ] at q6b_0 q6b_1 q6b_2
    have lq14qa := qa.lt
    have lq14qb := qb.lt
    have lq14qr := qr.lt
    have lq14q6b := q6b.lt
    have bb := below_alloc (w := w23) (.cells #[.bool (ng XI.num), .slice pX (ln (am XI.num)) (ln (am XI.num)), .slice qX (ln XI.den) (ln XI.den)] 27)
    replace qa := qa.later bb
    replace qb := qb.later bb
    replace qr := qr.later bb
    replace q6b := q6b.later bb
    replace hA := hA.on bb
    replace hB := hB.on bb
    replace o6 := o6.on bb
    replace oX := oX.on bb
    replace bel := bel.trans (bb.mono bel.size)
    clear bb
    have q14 := Blk.new w23 #[.bool (ng XI.num), .slice pX (ln (am XI.num)) (ln (am XI.num)), .slice qX (ln XI.den) (ln XI.den)] 27
    go_wp2_with fail
    clear q6b_0 q6b_1 q6b_2
    obtain ⟨wG, hW⟩ : ∃ W, (w23.alloc (.cells #[.bool (ng XI.num), .slice pX (ln (am XI.num)) (ln (am XI.num)), .slice qX (ln XI.den) (ln XI.den)] 27)) = W := ⟨_, rfl⟩
    rw [hW] at bel qa qb qr q6b q14 hA hB o6 oX ⊢
    clear hW
    refine (GS.out _ p6 q6 pX qX o6 oX).mono ?_
    rintro e w24 ⟨pR, qR, rfl, b1, oR⟩
    have bb := b1
    replace qa := qa.later bb
    replace qb := qb.later bb
    replace qr := qr.later bb
    replace q6b := q6b.later bb
    replace q14 := q14.later bb
    replace hA := hA.on bb
    replace hB := hB.on bb
    replace o6 := o6.on bb
    replace oX := oX.on bb
    replace bel := bel.trans (bb.mono bel.size)
    clear bb
    clear b1
    clear q14 oX o6 q6b qa qb hA hB
    have qr_0 := qr.cell 0
    have qr_1 := qr.cell 1
    have qr_2 := qr.cell 2
    simp only [List.getElem?_toArray, List.getElem?_cons_zero, List.getElem?_cons_succ] at qr_0 qr_1 qr_2
    have fz := fun o => qr.frozen o
    go_wp2
    obtain ⟨c9, q9⟩ := qr.set3 (.bool (ng S.num)) (.slice pR (ln (am S.num)) (ln (am S.num))) (.slice qR (ln S.den) (ln S.den))
    have hno := qr.no (by simp)
    replace oR := oR.ch c9 hno
    replace bel := bel.trans (c9.below (by omega))
    clear qr_0 qr_1 qr_2
    clear fz hno
    replace qr := q9
    have qr_0 := qr.cell 0
    have qr_1 := qr.cell 1
    have qr_2 := qr.cell 2
    simp only [List.getElem?_toArray, List.getElem?_cons_zero, List.getElem?_cons_succ] at qr_0 qr_1 qr_2
    refine bodyPost_ret (v := .tuple #[.agg #[.bool (ng S.num), .slice pR (ln (am S.num)) (ln (am S.num)), .slice qR (ln S.den) (ln S.den)], .int .i64 0]) (by rw [results_ct rfl]; go_simp) rfl ?_
    exact ⟨pR, qR, rfl, bel, oR⟩
end Go.Proofs.YtejlnodillnoaaaGreatDoor
