import Derived.Test.YtejlnodillnoaaaGreatDoorWSE
import Derived.Test.YtejlnodillnoaaaGreatDoorWSI
import Derived.Test.YtejlnodillnoaaaGreatDoorWQA
import Derived.Test.YtejlnodillnoaaaGreatDoorWH3
set_option linter.unusedSimpArgs false
namespace Go.Proofs.YtejlnodillnoaaaGreatDoor
open Go.RowKit
set_option linter.unusedVariables false
set_option maxHeartbeats 2000000 in
set_option maxRecDepth 100000 in
theorem vstep0 (A B : RatV) (w : World) (hA : A.ok w) (hB : B.ok w) (hn : A.n ≤ 35184372088000 ∧ A.m ≤ 35184372088000 ∧ B.n ≤ 35184372088000 ∧ B.m ≤ 35184372088000) (C : Int) (hcmp : sR (A.val - B.val) = C) (h0 : 0 ≤ C) :
    Calls Tryz.prog 9 #[.agg #[.bool A.s, .slice A.a A.n A.c, .slice A.b A.m A.e], .agg #[.bool B.s, .slice B.a B.n B.c, .slice B.b B.m B.e]] w fun e w' => e = .returned (.tuple #[.agg #[.bool false, .slice none 0 0, .slice none 0 0], .int .i64 30]) ∧ Below w.heap.size w w' := by
  have GC := hide' (fun w' k1 k2 => vcmpQ A B w' k1 k2 hn C hcmp)
  clear hcmp
  have bel : Below w.heap.size w w := Below.refl _ _
  have bb := below_alloc (w := w) (.cells #[.bool A.s, .slice A.a A.n A.c, .slice A.b A.m A.e] 27)
  replace hA := hA.on bb
  replace hB := hB.on bb
  replace bel := bel.trans (bb.mono bel.size)
  clear bb
  have qa := Blk.new w #[.bool A.s, .slice A.a A.n A.c, .slice A.b A.m A.e] 27
  have bb := below_alloc (w := (w.alloc (.cells #[.bool A.s, .slice A.a A.n A.c, .slice A.b A.m A.e] 27))) (.cells #[.bool B.s, .slice B.a B.n B.c, .slice B.b B.m B.e] 27)
  replace qa := qa.later bb
  replace hA := hA.on bb
  replace hB := hB.on bb
  replace bel := bel.trans (bb.mono bel.size)
  clear bb
  have qb := Blk.new (w.alloc (.cells #[.bool A.s, .slice A.a A.n A.c, .slice A.b A.m A.e] 27)) #[.bool B.s, .slice B.a B.n B.c, .slice B.b B.m B.e] 27
  simp only [World.size_alloc] at qb
  have bb := below_alloc (w := ((w.alloc (.cells #[.bool A.s, .slice A.a A.n A.c, .slice A.b A.m A.e] 27)).alloc (.cells #[.bool B.s, .slice B.a B.n B.c, .slice B.b B.m B.e] 27))) (.cells #[.bool false, .slice none 0 0, .slice none 0 0] 27)
  replace qa := qa.later bb
  replace qb := qb.later bb
  replace hA := hA.on bb
  replace hB := hB.on bb
  replace bel := bel.trans (bb.mono bel.size)
  clear bb
  have qr := Blk.new ((w.alloc (.cells #[.bool A.s, .slice A.a A.n A.c, .slice A.b A.m A.e] 27)).alloc (.cells #[.bool B.s, .slice B.a B.n B.c, .slice B.b B.m B.e] 27)) #[.bool false, .slice none 0 0, .slice none 0 0] 27
  simp only [World.size_alloc] at qr
  go_enter Tryz.func9, Tryz.ntmps9
  go_wp2_with fail
  obtain ⟨W0, hW⟩ : ∃ W, (((w.alloc (.cells #[.bool A.s, .slice A.a A.n A.c, .slice A.b A.m A.e] 27)).alloc (.cells #[.bool B.s, .slice B.a B.n B.c, .slice B.b B.m B.e] 27)).alloc (.cells #[.bool false, .slice none 0 0, .slice none 0 0] 27)) = W := ⟨_, rfl⟩
  rw [hW] at bel qa qb qr hA hB ⊢
  clear hW
  refine (GC.out _ hA hB).mono ?_
  rintro e w1 ⟨rfl, b1⟩
  have bb := b1
  replace qa := qa.later bb
  replace qb := qb.later bb
  replace qr := qr.later bb
  replace hA := hA.on bb
  replace hB := hB.on bb
  replace bel := bel.trans (bb.mono bel.size)
  clear bb
  clear b1
  clear qa qb
  have qr_0 := qr.cell 0
  have qr_1 := qr.cell 1
  have qr_2 := qr.cell 2
  simp only [List.getElem?_toArray, List.getElem?_cons_zero, List.getElem?_cons_succ] at qr_0 qr_1 qr_2
  have fz := fun o => qr.frozen o
  go_wp2
  obtain ⟨c9, q9⟩ := qr.set3 (.bool false) (.slice none 0 0) (.slice none 0 0)
  have hno := qr.no (by simp)
  replace hA := hA.ch c9 hno
  replace hB := hB.ch c9 hno
  replace bel := bel.trans (c9.below (by omega))
  clear qr_0 qr_1 qr_2
  clear fz hno
  replace qr := q9
  have qr_0 := qr.cell 0
  have qr_1 := qr.cell 1
  have qr_2 := qr.cell 2
  simp only [List.getElem?_toArray, List.getElem?_cons_zero, List.getElem?_cons_succ] at qr_0 qr_1 qr_2
  refine bodyPost_ret (v := .tuple #[.agg #[.bool false, .slice none 0 0, .slice none 0 0], .int .i64 30]) (by rw [results_ct rfl]; go_simp) rfl ?_
  exact ⟨rfl, bel⟩
end Go.Proofs.YtejlnodillnoaaaGreatDoor
namespace Go.Proofs.YtejlnodillnoaaaGreatDoor.ratioBetween
open Go.ChangeShapes Go.WideShapes Go.ChangeAt Go.RowKit Go.Proofs.YtejlnodillnoaaaGreatDoor
theorem sgn_neg {x : Int} (h : x < 0) : sgn x = -1 := by unfold sgn; rw [if_pos h]
set_option maxHeartbeats 8000000 in
set_option maxRecDepth 100000 in
theorem walkE (s0 : Bool) (a0 : Option Addr) (n0 c0 X0 : Nat) (b0 : Option Addr) (m0 d0 Y0 : Nat) (s1 : Bool) (a1 : Option Addr) (n1 c1 X1 : Nat) (b1 : Option Addr) (m1 d1 Y1 : Nat) (w : World) (hc0 : n0 ≤ c0) (hm0 : n0 ≤ 35184372087808) (hS0 : Seg w a0 X0 n0) (hd0 : m0 ≤ d0) (hk0 : m0 ≤ 35184372087808) (hT0 : Seg w b0 Y0 m0) (hc1 : n1 ≤ c1) (hm1 : n1 ≤ 35184372087808) (hS1 : Seg w a1 X1 n1) (hd1 : m1 ≤ d1) (hk1 : m1 ≤ 35184372087808) (hT1 : Seg w b1 Y1 m1) (hDg : Digits w) (hC : 0 = 0) (hlt : ¬ rn s0 X0 Y0 * ((rd Y1 : Nat) : Int) < rn s1 X1 Y1 * ((rd Y0 : Nat) : Int)) :
    Calls Tryz.prog 3 #[Value.agg #[Value.bool s0, Value.slice a0 n0 c0, Value.slice b0 m0 d0], Value.agg #[Value.bool s1, Value.slice a1 n1 c1, Value.slice b1 m1 d1]] w fun e w' => e = .returned (.bool true) ∧ Below w.heap.size w w' := by
  have GT0 := hide' (fun w' k1 k2 => ltwin_is s0 a0 n0 c0 X0 b0 m0 d0 Y0 w' hc0 (by omega) k1 hd0 (by omega) k2)
  have GT1 := hide' (fun w' k1 k2 => ltwin_is s1 a1 n1 c1 X1 b1 m1 d1 Y1 w' hc1 (by omega) k1 hd1 (by omega) k2)
  have G5 := hide' (fun w' p q p2 q2 (k1 : Seg w' p X0 n0) (k2 : Seg w' q Y0 m0) (k3 : Seg w' p2 X1 n1) (k4 : Seg w' q2 Y1 m1) => (Simplest_is s0 p n0 n0 X0 q m0 m0 Y0 s1 p2 n1 n1 X1 q2 m1 m1 Y1 w' (Nat.le_refl _) hm0 k1 (Nat.le_refl _) hk0 k2 (Nat.le_refl _) hm1 k3 (Nat.le_refl _) hk1 k4).mono (fun e w2 h => (show e = .returned (.tuple #[.agg #[.bool false, .slice none 0 0, .slice none 0 0], .int .i64 30]) ∧ Below w'.heap.size w' w2 by rcases h with ⟨_, h⟩ | ⟨h, _⟩ <;> first | exact h | omega)))
  have GV := hide' (fun w' (k0 : Seg w' a0 X0 n0) (l0 : Seg w' b0 Y0 m0) (k1 : Seg w' a1 X1 n1) (l1 : Seg w' b1 Y1 m1) => vstep0 (⟨s0, a0, n0, c0, X0, b0, m0, d0, Y0⟩ : RatV) (⟨s1, a1, n1, c1, X1, b1, m1, d1, Y1⟩ : RatV) w' ⟨k0, hc0, by show n0 ≤ _; omega, l0, hd0, by show m0 ≤ _; omega⟩ ⟨k1, hc1, by show n1 ≤ _; omega, l1, hd1, by show m1 ≤ _; omega⟩ ⟨Nat.le_trans hm0 (by omega), Nat.le_trans hk0 (by omega), Nat.le_trans hm1 (by omega), Nat.le_trans hk1 (by omega)⟩ _ rfl (by rw [← sR_sub]; exact sgn_nn (by show 0 ≤ rn s0 X0 Y0 * ((rd Y1 : Nat) : Int) - rn s1 X1 Y1 * ((rd Y0 : Nat) : Int); omega)))
  have GD := hide' hDg
  have HC := hide' hC
  have HL := hide' hlt
  clear hDg hC hlt
  have bel : Below w.heap.size w w := Below.refl _ _
  have bb := below_alloc (w := w) (.cells #[.bool s0, .slice a0 n0 c0, .slice b0 m0 d0] 27)
  replace hS0 := hS0.later bb
  replace hT0 := hT0.later bb
  replace hS1 := hS1.later bb
  replace hT1 := hT1.later bb
  replace GD := hide' (GD.out.below bb)
  replace bel := bel.trans (bb.mono bel.size)
  clear bb
  have qa := Blk.new w #[.bool s0, .slice a0 n0 c0, .slice b0 m0 d0] 27
  have bb := below_alloc (w := (w.alloc (.cells #[.bool s0, .slice a0 n0 c0, .slice b0 m0 d0] 27))) (.cells #[.bool s1, .slice a1 n1 c1, .slice b1 m1 d1] 27)
  replace hS0 := hS0.later bb
  replace hT0 := hT0.later bb
  replace hS1 := hS1.later bb
  replace hT1 := hT1.later bb
  replace qa := qa.later bb
  replace GD := hide' (GD.out.below bb)
  replace bel := bel.trans (bb.mono bel.size)
  clear bb
  have qb := Blk.new (w.alloc (.cells #[.bool s0, .slice a0 n0 c0, .slice b0 m0 d0] 27)) #[.bool s1, .slice a1 n1 c1, .slice b1 m1 d1] 27
  simp only [World.size_alloc] at qb
  go_enter Tryz.func3, Tryz.ntmps3
  go_wp2_with fail
  obtain ⟨W0, hW⟩ : ∃ W, ((w.alloc (.cells #[.bool s0, .slice a0 n0 c0, .slice b0 m0 d0] 27)).alloc (.cells #[.bool s1, .slice a1 n1 c1, .slice b1 m1 d1] 27)) = W := ⟨_, rfl⟩
  rw [hW] at bel hS0 hT0 hS1 hT1 qa qb GD ⊢
  clear hW
  have hbs := bel.size
  have bT : Below W0.heap.size W0 W0 := Below.refl _ _
  go_cut [5, 6] from 9 to 16 (fun s5_ s6_ wx => ∃ wh9 cs, wh9 = wx ∧ s5_ = .pointer (some ⟨cs, 0, none⟩) ∧ s6_ = .int .i64 30 ∧ Blk wx cs #[.bool false, .slice none 0 0, .slice none 0 0] 27 ∧ Below W0.heap.size W0 wx)
  case first =>
    clear GD GV
    have qa_0 := qa.cell 0
    have qa_1 := qa.cell 1
    have qa_2 := qa.cell 2
    have qb_0 := qb.cell 0
    have qb_1 := qb.cell 1
    have qb_2 := qb.cell 2
    simp only [List.getElem?_toArray, List.getElem?_cons_zero, List.getElem?_cons_succ] at qa_0 qa_1 qa_2 qb_0 qb_1 qb_2
    have bD : Below W0.heap.size W0 W0.drew := (Below.refl _ _).drew
    have kqa_0 := below_cell bD qa_0
    have kqa_1 := below_cell bD qa_1
    have kqa_2 := below_cell bD qa_2
    have kqb_0 := below_cell bD qb_0
    have kqb_1 := below_cell bD qb_1
    have kqb_2 := below_cell bD qb_2
    replace bT := bT.trans (bD.mono bT.size)
    replace hS0 := hS0.later bD
    replace hT0 := hT0.later bD
    replace hS1 := hS1.later bD
    replace hT1 := hT1.later bD
    replace qa := qa.later bD
    replace qb := qb.later bD
    refine wp_region_held_drew (S := fun w' => w'.cell? ⟨w.heap.size, 0, none⟩ = some (.bool s0) ∧ w'.cell? ⟨w.heap.size, 1, none⟩ = some (.slice a0 n0 c0) ∧ w'.cell? ⟨w.heap.size, 2, none⟩ = some (.slice b0 m0 d0) ∧ w'.cell? ⟨w.heap.size + 1, 0, none⟩ = some (.bool s1) ∧ w'.cell? ⟨w.heap.size + 1, 1, none⟩ = some (.slice a1 n1 c1) ∧ w'.cell? ⟨w.heap.size + 1, 2, none⟩ = some (.slice b1 m1 d1)) (by kernel_rfl) ⟨kqa_0, kqa_1, kqa_2, kqb_0, kqb_1, kqb_2⟩ (fun hHeld => ?_)
    clear kqa_0 kqa_1 kqa_2 kqb_0 kqb_1 kqb_2
    generalize W0.drew = w0F at bD hS0 hT0 hS1 hT1 qa qb bT hHeld ⊢
    clear bD qa_0 qa_1 qa_2 qb_0 qb_1 qb_2
    have lqa := qa.lt
    have lqb := qb.lt
    clear qa qb
    refine tk 0 (v := ?_) rfl (Or.inl ⟨by rfl, ?_⟩) ?_
    rotate_left
    · intro w9 hSw
      go_simp
      first | done | with_reducible rfl
    simp only [pP, pN, pS, pZ, pC]
    refine tk 2 (v := ?_) rfl (Or.inl ⟨by rfl, ?_⟩) ?_
    rotate_left
    · intro w9 hSw
      go_simp
      first | done | with_reducible rfl
    simp only [pP, pN, pS, pZ, pC]
    refine wpAnyH_ready (rs := [1, 8]) (by kernel_rfl) (by simp) ?_
    refine consT rfl (fun KK hKK => ?_) ?_
    · skip
      go_simp
      refine (GT0.out _ hS0 hT0).mono ?_
      rintro e w1 ⟨p, q, rfl, n1, n2⟩
      have bC := n1.below
      replace bT := bT.trans (bC.mono bT.size)
      replace hS0 := hS0.later bC
      replace hT0 := hT0.later bC
      replace hS1 := hS1.later bC
      replace hT1 := hT1.later bC
      replace hHeld := (⟨below_cell bC hHeld.1, below_cell bC hHeld.2.1, below_cell bC hHeld.2.2.1, below_cell bC hHeld.2.2.2.1, below_cell bC hHeld.2.2.2.2.1, below_cell bC hHeld.2.2.2.2.2⟩ : _ ∧ _ ∧ _ ∧ _ ∧ _ ∧ _)
      clear bC
      go_wp2_with fail
      have k1 := n1.seg
      have k2 := n2.seg
      clear n1 n2
      refine hKK.out _ _ hHeld ?_
      clear hHeld
      intro hHeld
      clear hKK KK
      try simp only [pP, pN, pS, pZ, pC]
      refine wpAnyH_ready (rs := [3, 8]) (by kernel_rfl) (by simp) ?_
      refine consT rfl (fun KK hKK => ?_) ?_
      · skip
        go_simp
        refine (GT1.out _ hS1 hT1).mono ?_
        rintro e w2 ⟨p2, q2, rfl, n1, n2⟩
        have bC := n1.below
        replace bT := bT.trans (bC.mono bT.size)
        replace hS0 := hS0.later bC
        replace hT0 := hT0.later bC
        replace hS1 := hS1.later bC
        replace hT1 := hT1.later bC
        replace k1 := k1.later bC
        replace k2 := k2.later bC
        replace hHeld := (⟨below_cell bC hHeld.1, below_cell bC hHeld.2.1, below_cell bC hHeld.2.2.1, below_cell bC hHeld.2.2.2.1, below_cell bC hHeld.2.2.2.2.1, below_cell bC hHeld.2.2.2.2.2⟩ : _ ∧ _ ∧ _ ∧ _ ∧ _ ∧ _)
        clear bC
        go_wp2_with fail
        have k3 := n1.seg
        have k4 := n2.seg
        clear n1 n2
        refine hKK.out _ _ hHeld ?_
        clear hHeld
        intro hHeld
        clear hKK KK
        try simp only [pP, pN, pS, pZ, pC]
        refine wpAnyH_ready (rs := [4, 8]) (by kernel_rfl) (by simp) ?_
        refine consT rfl (fun KK hKK => ?_) ?_
        · skip
          go_simp
          refine (G5.out _ p q p2 q2 k1 k2 k3 k4).mono ?_
          rintro e w3 ⟨rfl, b5⟩
          have bC := b5
          replace bT := bT.trans (bC.mono bT.size)
          replace hS0 := hS0.later bC
          replace hT0 := hT0.later bC
          replace hS1 := hS1.later bC
          replace hT1 := hT1.later bC
          replace k1 := k1.later bC
          replace k2 := k2.later bC
          replace k3 := k3.later bC
          replace k4 := k4.later bC
          replace hHeld := (⟨below_cell bC hHeld.1, below_cell bC hHeld.2.1, below_cell bC hHeld.2.2.1, below_cell bC hHeld.2.2.2.1, below_cell bC hHeld.2.2.2.2.1, below_cell bC hHeld.2.2.2.2.2⟩ : _ ∧ _ ∧ _ ∧ _ ∧ _ ∧ _)
          clear bC
          go_wp2_with fail
          clear b5
          refine hKK.out _ _ hHeld ?_
          clear hHeld
          intro hHeld
          clear hKK KK
          try simp only [pP, pN, pS, pZ, pC]
          refine tk 5 (v := ?_) rfl (Or.inl ⟨by rfl, ?_⟩) ?_
          rotate_left
          · intro w9 hSw
            go_simp
            first | done | with_reducible rfl
          simp only [pP, pN, pS, pZ, pC]
          refine tk 6 (v := ?_) rfl (Or.inl ⟨by rfl, ?_⟩) ?_
          rotate_left
          · intro w9 hSw
            go_simp
            first | done | with_reducible rfl
          simp only [pP, pN, pS, pZ, pC]
          refine tk 7 (v := ?_) rfl (Or.inl ⟨by rfl, ?_⟩) ?_
          rotate_left
          · intro w9 hSw
            go_simp
            first | done | with_reducible rfl
          simp only [pP, pN, pS, pZ, pC]
          refine wpAnyH_ready (rs := [8]) (by kernel_rfl) (by simp) ?_
          refine cons' rfl (fun KK hKK => ?_)
          go_simp
          have qs := Blk.new w3 #[.bool false, .slice none 0 0, .slice none 0 0] 27
          have bA := below_alloc (w := w3) (.cells #[.bool false, .slice none 0 0, .slice none 0 0] 27)
          have hqsge := bT.size
          have hqsc0 := cell_ltB hHeld.1
          have hqsc1 := cell_ltB hHeld.2.1
          have hqsc2 := cell_ltB hHeld.2.2.1
          have hqsc3 := cell_ltB hHeld.2.2.2.1
          have hqsc4 := cell_ltB hHeld.2.2.2.2.1
          have hqsc5 := cell_ltB hHeld.2.2.2.2.2
          generalize w3.alloc (.cells #[.bool false, .slice none 0 0, .slice none 0 0] 27) = w4 at qs bA ⊢
          replace bT := bT.trans (bA.mono bT.size)
          replace hS0 := hS0.later bA
          replace hT0 := hT0.later bA
          replace hS1 := hS1.later bA
          replace hT1 := hT1.later bA
          replace k1 := k1.later bA
          replace k2 := k2.later bA
          replace k3 := k3.later bA
          replace k4 := k4.later bA
          replace hHeld := (⟨below_cell bA hHeld.1, below_cell bA hHeld.2.1, below_cell bA hHeld.2.2.1, below_cell bA hHeld.2.2.2.1, below_cell bA hHeld.2.2.2.2.1, below_cell bA hHeld.2.2.2.2.2⟩ : _ ∧ _ ∧ _ ∧ _ ∧ _ ∧ _)
          clear bA
          refine hKK.out _ _ hHeld ?_
          clear hHeld
          intro hHeld
          clear hKK KK
          try simp only [pP, pN, pS, pZ, pC]
          obtain ⟨cqs, hcc⟩ : ∃ cc, w3.heap.size = cc := ⟨_, rfl⟩
          rw [hcc] at qs hqsge hqsc0 hqsc1 hqsc2 hqsc3 hqsc4 hqsc5
          try rw [hcc]
          clear hcc
          refine wpAnyH_ready (rs := [9]) (by kernel_rfl) (by simp) ?_
          refine cons' rfl (fun KK hKK => ?_)
          have z0 := qs.cell 0
          have z1 := qs.cell 1
          have z2 := qs.cell 2
          simp only [List.getElem?_toArray, List.getElem?_cons_zero, List.getElem?_cons_succ] at z0 z1 z2
          have fz := fun o => qs.frozen o
          obtain ⟨c9, q9⟩ := qs.set3 (.bool false) (.slice none 0 0) (.slice none 0 0)
          have hno := qs.no (by simp)
          replace hS0 := hS0.ch c9 hno
          replace hT0 := hT0.ch c9 hno
          replace hS1 := hS1.ch c9 hno
          replace hT1 := hT1.ch c9 hno
          replace k1 := k1.ch c9 hno
          replace k2 := k2.ch c9 hno
          replace k3 := k3.ch c9 hno
          replace k4 := k4.ch c9 hno
          replace bT := bT.trans (c9.below (by omega))
          have hH2 := (⟨(World.cell?_of_block (w := w4) (a := ⟨w.heap.size, 0, none⟩) (c9.other (w.heap.size) (by omega))).trans hHeld.1, (World.cell?_of_block (w := w4) (a := ⟨w.heap.size, 1, none⟩) (c9.other (w.heap.size) (by omega))).trans hHeld.2.1, (World.cell?_of_block (w := w4) (a := ⟨w.heap.size, 2, none⟩) (c9.other (w.heap.size) (by omega))).trans hHeld.2.2.1, (World.cell?_of_block (w := w4) (a := ⟨w.heap.size + 1, 0, none⟩) (c9.other (w.heap.size + 1) (by omega))).trans hHeld.2.2.2.1, (World.cell?_of_block (w := w4) (a := ⟨w.heap.size + 1, 1, none⟩) (c9.other (w.heap.size + 1) (by omega))).trans hHeld.2.2.2.2.1, (World.cell?_of_block (w := w4) (a := ⟨w.heap.size + 1, 2, none⟩) (c9.other (w.heap.size + 1) (by omega))).trans hHeld.2.2.2.2.2⟩ : _ ∧ _ ∧ _ ∧ _ ∧ _ ∧ _)
          go_simp
          clear z0 z1 z2 fz hno c9
          replace qs := q9
          refine hKK.out _ _ hH2 ?_
          clear hHeld
          intro hHeld
          clear hKK KK
          try simp only [pP, pN, pS, pZ, pC]
          clear hH2
          generalize (((w4.setCell ⟨cqs, 0, none⟩ (.bool false)).setCell ⟨cqs, 1, none⟩ (.slice none 0 0)).setCell ⟨cqs, 2, none⟩ (.slice none 0 0)) = w5 at bT hS0 hT0 hS1 hT1 k1 k2 k3 k4 qs hHeld ⊢
          refine tk 10 (v := ?_) rfl (Or.inl ⟨by rfl, ?_⟩) ?_
          rotate_left
          · intro w9 hSw
            go_simp
            first | done | with_reducible rfl
          simp only [pP, pN, pS, pZ, pC]
          refine wpAnyH_done (by kernel_rfl) ?_ _
          go_wp2_with fail
          go_meet
          exact ⟨_, cqs, rfl, rfl, rfl, qs, bT⟩
        refine consT rfl (fun KK hKK => ?_) ?_
        · skip
          go_simp
          have qs := Blk.new w2 #[.bool false, .slice none 0 0, .slice none 0 0] 27
          have bA := below_alloc (w := w2) (.cells #[.bool false, .slice none 0 0, .slice none 0 0] 27)
          have hqsge := bT.size
          have hqsc0 := cell_ltB hHeld.1
          have hqsc1 := cell_ltB hHeld.2.1
          have hqsc2 := cell_ltB hHeld.2.2.1
          have hqsc3 := cell_ltB hHeld.2.2.2.1
          have hqsc4 := cell_ltB hHeld.2.2.2.2.1
          have hqsc5 := cell_ltB hHeld.2.2.2.2.2
          generalize w2.alloc (.cells #[.bool false, .slice none 0 0, .slice none 0 0] 27) = w6 at qs bA ⊢
          replace bT := bT.trans (bA.mono bT.size)
          replace hS0 := hS0.later bA
          replace hT0 := hT0.later bA
          replace hS1 := hS1.later bA
          replace hT1 := hT1.later bA
          replace k1 := k1.later bA
          replace k2 := k2.later bA
          replace k3 := k3.later bA
          replace k4 := k4.later bA
          replace hHeld := (⟨below_cell bA hHeld.1, below_cell bA hHeld.2.1, below_cell bA hHeld.2.2.1, below_cell bA hHeld.2.2.2.1, below_cell bA hHeld.2.2.2.2.1, below_cell bA hHeld.2.2.2.2.2⟩ : _ ∧ _ ∧ _ ∧ _ ∧ _ ∧ _)
          clear bA
          refine hKK.out _ _ hHeld ?_
          clear hHeld
          intro hHeld
          clear hKK KK
          try simp only [pP, pN, pS, pZ, pC]
          obtain ⟨cqs, hcc⟩ : ∃ cc, w2.heap.size = cc := ⟨_, rfl⟩
          rw [hcc] at qs hqsge hqsc0 hqsc1 hqsc2 hqsc3 hqsc4 hqsc5
          try rw [hcc]
          clear hcc
          refine wpAnyH_ready (rs := [4]) (by kernel_rfl) (by simp) ?_
          refine cons' rfl (fun KK hKK => ?_)
          go_simp
          refine (G5.out _ p q p2 q2 k1 k2 k3 k4).mono ?_
          rintro e w7 ⟨rfl, b5⟩
          have bC := b5
          replace bT := bT.trans (bC.mono bT.size)
          replace hS0 := hS0.later bC
          replace hT0 := hT0.later bC
          replace hS1 := hS1.later bC
          replace hT1 := hT1.later bC
          replace k1 := k1.later bC
          replace k2 := k2.later bC
          replace k3 := k3.later bC
          replace k4 := k4.later bC
          replace qs := qs.later bC
          replace hHeld := (⟨below_cell bC hHeld.1, below_cell bC hHeld.2.1, below_cell bC hHeld.2.2.1, below_cell bC hHeld.2.2.2.1, below_cell bC hHeld.2.2.2.2.1, below_cell bC hHeld.2.2.2.2.2⟩ : _ ∧ _ ∧ _ ∧ _ ∧ _ ∧ _)
          clear bC
          go_wp2_with fail
          clear b5
          refine hKK.out _ _ hHeld ?_
          clear hHeld
          intro hHeld
          clear hKK KK
          try simp only [pP, pN, pS, pZ, pC]
          refine tk 5 (v := ?_) rfl (Or.inl ⟨by rfl, ?_⟩) ?_
          rotate_left
          · intro w9 hSw
            go_simp
            first | done | with_reducible rfl
          simp only [pP, pN, pS, pZ, pC]
          refine tk 6 (v := ?_) rfl (Or.inl ⟨by rfl, ?_⟩) ?_
          rotate_left
          · intro w9 hSw
            go_simp
            first | done | with_reducible rfl
          simp only [pP, pN, pS, pZ, pC]
          refine tk 7 (v := ?_) rfl (Or.inl ⟨by rfl, ?_⟩) ?_
          rotate_left
          · intro w9 hSw
            go_simp
            first | done | with_reducible rfl
          simp only [pP, pN, pS, pZ, pC]
          refine wpAnyH_ready (rs := [9]) (by kernel_rfl) (by simp) ?_
          refine cons' rfl (fun KK hKK => ?_)
          have z0 := qs.cell 0
          have z1 := qs.cell 1
          have z2 := qs.cell 2
          simp only [List.getElem?_toArray, List.getElem?_cons_zero, List.getElem?_cons_succ] at z0 z1 z2
          have fz := fun o => qs.frozen o
          obtain ⟨c9, q9⟩ := qs.set3 (.bool false) (.slice none 0 0) (.slice none 0 0)
          have hno := qs.no (by simp)
          replace hS0 := hS0.ch c9 hno
          replace hT0 := hT0.ch c9 hno
          replace hS1 := hS1.ch c9 hno
          replace hT1 := hT1.ch c9 hno
          replace k1 := k1.ch c9 hno
          replace k2 := k2.ch c9 hno
          replace k3 := k3.ch c9 hno
          replace k4 := k4.ch c9 hno
          replace bT := bT.trans (c9.below (by omega))
          have hH2 := (⟨(World.cell?_of_block (w := w7) (a := ⟨w.heap.size, 0, none⟩) (c9.other (w.heap.size) (by omega))).trans hHeld.1, (World.cell?_of_block (w := w7) (a := ⟨w.heap.size, 1, none⟩) (c9.other (w.heap.size) (by omega))).trans hHeld.2.1, (World.cell?_of_block (w := w7) (a := ⟨w.heap.size, 2, none⟩) (c9.other (w.heap.size) (by omega))).trans hHeld.2.2.1, (World.cell?_of_block (w := w7) (a := ⟨w.heap.size + 1, 0, none⟩) (c9.other (w.heap.size + 1) (by omega))).trans hHeld.2.2.2.1, (World.cell?_of_block (w := w7) (a := ⟨w.heap.size + 1, 1, none⟩) (c9.other (w.heap.size + 1) (by omega))).trans hHeld.2.2.2.2.1, (World.cell?_of_block (w := w7) (a := ⟨w.heap.size + 1, 2, none⟩) (c9.other (w.heap.size + 1) (by omega))).trans hHeld.2.2.2.2.2⟩ : _ ∧ _ ∧ _ ∧ _ ∧ _ ∧ _)
          go_simp
          clear z0 z1 z2 fz hno c9
          replace qs := q9
          refine hKK.out _ _ hH2 ?_
          clear hHeld
          intro hHeld
          clear hKK KK
          try simp only [pP, pN, pS, pZ, pC]
          clear hH2
          generalize (((w7.setCell ⟨cqs, 0, none⟩ (.bool false)).setCell ⟨cqs, 1, none⟩ (.slice none 0 0)).setCell ⟨cqs, 2, none⟩ (.slice none 0 0)) = w8 at bT hS0 hT0 hS1 hT1 k1 k2 k3 k4 qs hHeld ⊢
          refine tk 10 (v := ?_) rfl (Or.inl ⟨by rfl, ?_⟩) ?_
          rotate_left
          · intro w9 hSw
            go_simp
            first | done | with_reducible rfl
          simp only [pP, pN, pS, pZ, pC]
          refine wpAnyH_done (by kernel_rfl) ?_ _
          go_wp2_with fail
          go_meet
          exact ⟨_, cqs, rfl, rfl, rfl, qs, bT⟩
        exact AllReadyH.nil
      refine consT rfl (fun KK hKK => ?_) ?_
      · skip
        go_simp
        have qs := Blk.new w1 #[.bool false, .slice none 0 0, .slice none 0 0] 27
        have bA := below_alloc (w := w1) (.cells #[.bool false, .slice none 0 0, .slice none 0 0] 27)
        have hqsge := bT.size
        have hqsc0 := cell_ltB hHeld.1
        have hqsc1 := cell_ltB hHeld.2.1
        have hqsc2 := cell_ltB hHeld.2.2.1
        have hqsc3 := cell_ltB hHeld.2.2.2.1
        have hqsc4 := cell_ltB hHeld.2.2.2.2.1
        have hqsc5 := cell_ltB hHeld.2.2.2.2.2
        generalize w1.alloc (.cells #[.bool false, .slice none 0 0, .slice none 0 0] 27) = w9 at qs bA ⊢
        replace bT := bT.trans (bA.mono bT.size)
        replace hS0 := hS0.later bA
        replace hT0 := hT0.later bA
        replace hS1 := hS1.later bA
        replace hT1 := hT1.later bA
        replace k1 := k1.later bA
        replace k2 := k2.later bA
        replace hHeld := (⟨below_cell bA hHeld.1, below_cell bA hHeld.2.1, below_cell bA hHeld.2.2.1, below_cell bA hHeld.2.2.2.1, below_cell bA hHeld.2.2.2.2.1, below_cell bA hHeld.2.2.2.2.2⟩ : _ ∧ _ ∧ _ ∧ _ ∧ _ ∧ _)
        clear bA
        refine hKK.out _ _ hHeld ?_
        clear hHeld
        intro hHeld
        clear hKK KK
        try simp only [pP, pN, pS, pZ, pC]
        obtain ⟨cqs, hcc⟩ : ∃ cc, w1.heap.size = cc := ⟨_, rfl⟩
        rw [hcc] at qs hqsge hqsc0 hqsc1 hqsc2 hqsc3 hqsc4 hqsc5
        try rw [hcc]
        clear hcc
        refine wpAnyH_ready (rs := [3]) (by kernel_rfl) (by simp) ?_
        refine cons' rfl (fun KK hKK => ?_)
        go_simp
        refine (GT1.out _ hS1 hT1).mono ?_
        rintro e w10 ⟨p2, q2, rfl, n1, n2⟩
        have bC := n1.below
        replace bT := bT.trans (bC.mono bT.size)
        replace hS0 := hS0.later bC
        replace hT0 := hT0.later bC
        replace hS1 := hS1.later bC
        replace hT1 := hT1.later bC
        replace k1 := k1.later bC
        replace k2 := k2.later bC
        replace qs := qs.later bC
        replace hHeld := (⟨below_cell bC hHeld.1, below_cell bC hHeld.2.1, below_cell bC hHeld.2.2.1, below_cell bC hHeld.2.2.2.1, below_cell bC hHeld.2.2.2.2.1, below_cell bC hHeld.2.2.2.2.2⟩ : _ ∧ _ ∧ _ ∧ _ ∧ _ ∧ _)
        clear bC
        go_wp2_with fail
        have k3 := n1.seg
        have k4 := n2.seg
        clear n1 n2
        refine hKK.out _ _ hHeld ?_
        clear hHeld
        intro hHeld
        clear hKK KK
        try simp only [pP, pN, pS, pZ, pC]
        refine wpAnyH_ready (rs := [4]) (by kernel_rfl) (by simp) ?_
        refine cons' rfl (fun KK hKK => ?_)
        go_simp
        refine (G5.out _ p q p2 q2 k1 k2 k3 k4).mono ?_
        rintro e w11 ⟨rfl, b5⟩
        have bC := b5
        replace bT := bT.trans (bC.mono bT.size)
        replace hS0 := hS0.later bC
        replace hT0 := hT0.later bC
        replace hS1 := hS1.later bC
        replace hT1 := hT1.later bC
        replace k1 := k1.later bC
        replace k2 := k2.later bC
        replace qs := qs.later bC
        replace k3 := k3.later bC
        replace k4 := k4.later bC
        replace hHeld := (⟨below_cell bC hHeld.1, below_cell bC hHeld.2.1, below_cell bC hHeld.2.2.1, below_cell bC hHeld.2.2.2.1, below_cell bC hHeld.2.2.2.2.1, below_cell bC hHeld.2.2.2.2.2⟩ : _ ∧ _ ∧ _ ∧ _ ∧ _ ∧ _)
        clear bC
        go_wp2_with fail
        clear b5
        refine hKK.out _ _ hHeld ?_
        clear hHeld
        intro hHeld
        clear hKK KK
        try simp only [pP, pN, pS, pZ, pC]
        refine tk 5 (v := ?_) rfl (Or.inl ⟨by rfl, ?_⟩) ?_
        rotate_left
        · intro w9 hSw
          go_simp
          first | done | with_reducible rfl
        simp only [pP, pN, pS, pZ, pC]
        refine tk 6 (v := ?_) rfl (Or.inl ⟨by rfl, ?_⟩) ?_
        rotate_left
        · intro w9 hSw
          go_simp
          first | done | with_reducible rfl
        simp only [pP, pN, pS, pZ, pC]
        refine tk 7 (v := ?_) rfl (Or.inl ⟨by rfl, ?_⟩) ?_
        rotate_left
        · intro w9 hSw
          go_simp
          first | done | with_reducible rfl
        simp only [pP, pN, pS, pZ, pC]
        refine wpAnyH_ready (rs := [9]) (by kernel_rfl) (by simp) ?_
        refine cons' rfl (fun KK hKK => ?_)
        have z0 := qs.cell 0
        have z1 := qs.cell 1
        have z2 := qs.cell 2
        simp only [List.getElem?_toArray, List.getElem?_cons_zero, List.getElem?_cons_succ] at z0 z1 z2
        have fz := fun o => qs.frozen o
        obtain ⟨c9, q9⟩ := qs.set3 (.bool false) (.slice none 0 0) (.slice none 0 0)
        have hno := qs.no (by simp)
        replace hS0 := hS0.ch c9 hno
        replace hT0 := hT0.ch c9 hno
        replace hS1 := hS1.ch c9 hno
        replace hT1 := hT1.ch c9 hno
        replace k1 := k1.ch c9 hno
        replace k2 := k2.ch c9 hno
        replace k3 := k3.ch c9 hno
        replace k4 := k4.ch c9 hno
        replace bT := bT.trans (c9.below (by omega))
        have hH2 := (⟨(World.cell?_of_block (w := w11) (a := ⟨w.heap.size, 0, none⟩) (c9.other (w.heap.size) (by omega))).trans hHeld.1, (World.cell?_of_block (w := w11) (a := ⟨w.heap.size, 1, none⟩) (c9.other (w.heap.size) (by omega))).trans hHeld.2.1, (World.cell?_of_block (w := w11) (a := ⟨w.heap.size, 2, none⟩) (c9.other (w.heap.size) (by omega))).trans hHeld.2.2.1, (World.cell?_of_block (w := w11) (a := ⟨w.heap.size + 1, 0, none⟩) (c9.other (w.heap.size + 1) (by omega))).trans hHeld.2.2.2.1, (World.cell?_of_block (w := w11) (a := ⟨w.heap.size + 1, 1, none⟩) (c9.other (w.heap.size + 1) (by omega))).trans hHeld.2.2.2.2.1, (World.cell?_of_block (w := w11) (a := ⟨w.heap.size + 1, 2, none⟩) (c9.other (w.heap.size + 1) (by omega))).trans hHeld.2.2.2.2.2⟩ : _ ∧ _ ∧ _ ∧ _ ∧ _ ∧ _)
        go_simp
        clear z0 z1 z2 fz hno c9
        replace qs := q9
        refine hKK.out _ _ hH2 ?_
        clear hHeld
        intro hHeld
        clear hKK KK
        try simp only [pP, pN, pS, pZ, pC]
        clear hH2
        generalize (((w11.setCell ⟨cqs, 0, none⟩ (.bool false)).setCell ⟨cqs, 1, none⟩ (.slice none 0 0)).setCell ⟨cqs, 2, none⟩ (.slice none 0 0)) = w12 at bT hS0 hT0 hS1 hT1 k1 k2 qs k3 k4 hHeld ⊢
        refine tk 10 (v := ?_) rfl (Or.inl ⟨by rfl, ?_⟩) ?_
        rotate_left
        · intro w9 hSw
          go_simp
          first | done | with_reducible rfl
        simp only [pP, pN, pS, pZ, pC]
        refine wpAnyH_done (by kernel_rfl) ?_ _
        go_wp2_with fail
        go_meet
        exact ⟨_, cqs, rfl, rfl, rfl, qs, bT⟩
      exact AllReadyH.nil
    refine consT rfl (fun KK hKK => ?_) ?_
    · skip
      go_simp
      have qs := Blk.new w0F #[.bool false, .slice none 0 0, .slice none 0 0] 27
      have bA := below_alloc (w := w0F) (.cells #[.bool false, .slice none 0 0, .slice none 0 0] 27)
      have hqsge := bT.size
      have hqsc0 := cell_ltB hHeld.1
      have hqsc1 := cell_ltB hHeld.2.1
      have hqsc2 := cell_ltB hHeld.2.2.1
      have hqsc3 := cell_ltB hHeld.2.2.2.1
      have hqsc4 := cell_ltB hHeld.2.2.2.2.1
      have hqsc5 := cell_ltB hHeld.2.2.2.2.2
      generalize w0F.alloc (.cells #[.bool false, .slice none 0 0, .slice none 0 0] 27) = w13 at qs bA ⊢
      replace bT := bT.trans (bA.mono bT.size)
      replace hS0 := hS0.later bA
      replace hT0 := hT0.later bA
      replace hS1 := hS1.later bA
      replace hT1 := hT1.later bA
      replace hHeld := (⟨below_cell bA hHeld.1, below_cell bA hHeld.2.1, below_cell bA hHeld.2.2.1, below_cell bA hHeld.2.2.2.1, below_cell bA hHeld.2.2.2.2.1, below_cell bA hHeld.2.2.2.2.2⟩ : _ ∧ _ ∧ _ ∧ _ ∧ _ ∧ _)
      clear bA
      refine hKK.out _ _ hHeld ?_
      clear hHeld
      intro hHeld
      clear hKK KK
      try simp only [pP, pN, pS, pZ, pC]
      obtain ⟨cqs, hcc⟩ : ∃ cc, w0F.heap.size = cc := ⟨_, rfl⟩
      rw [hcc] at qs hqsge hqsc0 hqsc1 hqsc2 hqsc3 hqsc4 hqsc5
      try rw [hcc]
      clear hcc
      refine wpAnyH_ready (rs := [1]) (by kernel_rfl) (by simp) ?_
      refine cons' rfl (fun KK hKK => ?_)
      go_simp
      refine (GT0.out _ hS0 hT0).mono ?_
      rintro e w14 ⟨p, q, rfl, n1, n2⟩
      have bC := n1.below
      replace bT := bT.trans (bC.mono bT.size)
      replace hS0 := hS0.later bC
      replace hT0 := hT0.later bC
      replace hS1 := hS1.later bC
      replace hT1 := hT1.later bC
      replace qs := qs.later bC
      replace hHeld := (⟨below_cell bC hHeld.1, below_cell bC hHeld.2.1, below_cell bC hHeld.2.2.1, below_cell bC hHeld.2.2.2.1, below_cell bC hHeld.2.2.2.2.1, below_cell bC hHeld.2.2.2.2.2⟩ : _ ∧ _ ∧ _ ∧ _ ∧ _ ∧ _)
      clear bC
      go_wp2_with fail
      have k1 := n1.seg
      have k2 := n2.seg
      clear n1 n2
      refine hKK.out _ _ hHeld ?_
      clear hHeld
      intro hHeld
      clear hKK KK
      try simp only [pP, pN, pS, pZ, pC]
      refine wpAnyH_ready (rs := [3]) (by kernel_rfl) (by simp) ?_
      refine cons' rfl (fun KK hKK => ?_)
      go_simp
      refine (GT1.out _ hS1 hT1).mono ?_
      rintro e w15 ⟨p2, q2, rfl, n1, n2⟩
      have bC := n1.below
      replace bT := bT.trans (bC.mono bT.size)
      replace hS0 := hS0.later bC
      replace hT0 := hT0.later bC
      replace hS1 := hS1.later bC
      replace hT1 := hT1.later bC
      replace qs := qs.later bC
      replace k1 := k1.later bC
      replace k2 := k2.later bC
      replace hHeld := (⟨below_cell bC hHeld.1, below_cell bC hHeld.2.1, below_cell bC hHeld.2.2.1, below_cell bC hHeld.2.2.2.1, below_cell bC hHeld.2.2.2.2.1, below_cell bC hHeld.2.2.2.2.2⟩ : _ ∧ _ ∧ _ ∧ _ ∧ _ ∧ _)
      clear bC
      go_wp2_with fail
      have k3 := n1.seg
      have k4 := n2.seg
      clear n1 n2
      refine hKK.out _ _ hHeld ?_
      clear hHeld
      intro hHeld
      clear hKK KK
      try simp only [pP, pN, pS, pZ, pC]
      refine wpAnyH_ready (rs := [4]) (by kernel_rfl) (by simp) ?_
      refine cons' rfl (fun KK hKK => ?_)
      go_simp
      refine (G5.out _ p q p2 q2 k1 k2 k3 k4).mono ?_
      rintro e w16 ⟨rfl, b5⟩
      have bC := b5
      replace bT := bT.trans (bC.mono bT.size)
      replace hS0 := hS0.later bC
      replace hT0 := hT0.later bC
      replace hS1 := hS1.later bC
      replace hT1 := hT1.later bC
      replace qs := qs.later bC
      replace k1 := k1.later bC
      replace k2 := k2.later bC
      replace k3 := k3.later bC
      replace k4 := k4.later bC
      replace hHeld := (⟨below_cell bC hHeld.1, below_cell bC hHeld.2.1, below_cell bC hHeld.2.2.1, below_cell bC hHeld.2.2.2.1, below_cell bC hHeld.2.2.2.2.1, below_cell bC hHeld.2.2.2.2.2⟩ : _ ∧ _ ∧ _ ∧ _ ∧ _ ∧ _)
      clear bC
      go_wp2_with fail
      clear b5
      refine hKK.out _ _ hHeld ?_
      clear hHeld
      intro hHeld
      clear hKK KK
      try simp only [pP, pN, pS, pZ, pC]
      refine tk 5 (v := ?_) rfl (Or.inl ⟨by rfl, ?_⟩) ?_
      rotate_left
      · intro w9 hSw
        go_simp
        first | done | with_reducible rfl
      simp only [pP, pN, pS, pZ, pC]
      refine tk 6 (v := ?_) rfl (Or.inl ⟨by rfl, ?_⟩) ?_
      rotate_left
      · intro w9 hSw
        go_simp
        first | done | with_reducible rfl
      simp only [pP, pN, pS, pZ, pC]
      refine tk 7 (v := ?_) rfl (Or.inl ⟨by rfl, ?_⟩) ?_
      rotate_left
      · intro w9 hSw
        go_simp
        first | done | with_reducible rfl
      simp only [pP, pN, pS, pZ, pC]
      refine wpAnyH_ready (rs := [9]) (by kernel_rfl) (by simp) ?_
      refine cons' rfl (fun KK hKK => ?_)
      have z0 := qs.cell 0
      have z1 := qs.cell 1
      have z2 := qs.cell 2
      simp only [List.getElem?_toArray, List.getElem?_cons_zero, List.getElem?_cons_succ] at z0 z1 z2
      have fz := fun o => qs.frozen o
      obtain ⟨c9, q9⟩ := qs.set3 (.bool false) (.slice none 0 0) (.slice none 0 0)
      have hno := qs.no (by simp)
      replace hS0 := hS0.ch c9 hno
      replace hT0 := hT0.ch c9 hno
      replace hS1 := hS1.ch c9 hno
      replace hT1 := hT1.ch c9 hno
      replace k1 := k1.ch c9 hno
      replace k2 := k2.ch c9 hno
      replace k3 := k3.ch c9 hno
      replace k4 := k4.ch c9 hno
      replace bT := bT.trans (c9.below (by omega))
      have hH2 := (⟨(World.cell?_of_block (w := w16) (a := ⟨w.heap.size, 0, none⟩) (c9.other (w.heap.size) (by omega))).trans hHeld.1, (World.cell?_of_block (w := w16) (a := ⟨w.heap.size, 1, none⟩) (c9.other (w.heap.size) (by omega))).trans hHeld.2.1, (World.cell?_of_block (w := w16) (a := ⟨w.heap.size, 2, none⟩) (c9.other (w.heap.size) (by omega))).trans hHeld.2.2.1, (World.cell?_of_block (w := w16) (a := ⟨w.heap.size + 1, 0, none⟩) (c9.other (w.heap.size + 1) (by omega))).trans hHeld.2.2.2.1, (World.cell?_of_block (w := w16) (a := ⟨w.heap.size + 1, 1, none⟩) (c9.other (w.heap.size + 1) (by omega))).trans hHeld.2.2.2.2.1, (World.cell?_of_block (w := w16) (a := ⟨w.heap.size + 1, 2, none⟩) (c9.other (w.heap.size + 1) (by omega))).trans hHeld.2.2.2.2.2⟩ : _ ∧ _ ∧ _ ∧ _ ∧ _ ∧ _)
      go_simp
      clear z0 z1 z2 fz hno c9
      replace qs := q9
      refine hKK.out _ _ hH2 ?_
      clear hHeld
      intro hHeld
      clear hKK KK
      try simp only [pP, pN, pS, pZ, pC]
      clear hH2
      generalize (((w16.setCell ⟨cqs, 0, none⟩ (.bool false)).setCell ⟨cqs, 1, none⟩ (.slice none 0 0)).setCell ⟨cqs, 2, none⟩ (.slice none 0 0)) = w17 at bT hS0 hT0 hS1 hT1 qs k1 k2 k3 k4 hHeld ⊢
      refine tk 10 (v := ?_) rfl (Or.inl ⟨by rfl, ?_⟩) ?_
      rotate_left
      · intro w9 hSw
        go_simp
        first | done | with_reducible rfl
      simp only [pP, pN, pS, pZ, pC]
      refine wpAnyH_done (by kernel_rfl) ?_ _
      go_wp2_with fail
      go_meet
      exact ⟨_, cqs, rfl, rfl, rfl, qs, bT⟩
    exact AllReadyH.nil
  case rest =>
    obtain ⟨wc18, cs, hwv, rfl, rfl, qs, bT⟩ := hcut
    subst hwv
    replace hS0 := hS0.later bT
    replace hT0 := hT0.later bT
    replace hS1 := hS1.later bT
    replace hT1 := hT1.later bT
    replace qa := qa.later bT
    replace qb := qb.later bT
    replace GD := hide' (GD.out.below bT)
    replace bel := bel.trans (bT.mono bel.size)
    clear bT
    clear G5 hbs
    clear GT0 GT1
    have qa_0 := qa.cell 0
    have qa_1 := qa.cell 1
    have qa_2 := qa.cell 2
    have qb_0 := qb.cell 0
    have qb_1 := qb.cell 1
    have qb_2 := qb.cell 2
    simp only [List.getElem?_toArray, List.getElem?_cons_zero, List.getElem?_cons_succ] at qa_0 qa_1 qa_2 qb_0 qb_1 qb_2
    go_wp2_with fail
    clear qa_0 qa_1 qa_2 qb_0 qb_1 qb_2
    refine (GV.out _ hS0 hT0 hS1 hT1).mono ?_
    rintro e w19 ⟨rfl, b1⟩
    have bb := b1
    replace hS0 := hS0.later bb
    replace hT0 := hT0.later bb
    replace hS1 := hS1.later bb
    replace hT1 := hT1.later bb
    replace qa := qa.later bb
    replace qb := qb.later bb
    replace qs := qs.later bb
    replace GD := hide' (GD.out.below bb)
    replace bel := bel.trans (bb.mono bel.size)
    clear bb
    clear b1
    have qs_0 := qs.cell 0
    have qs_1 := qs.cell 1
    have qs_2 := qs.cell 2
    simp only [List.getElem?_toArray, List.getElem?_cons_zero, List.getElem?_cons_succ] at qs_0 qs_1 qs_2
    have lqyqa := qa.lt
    have lqyqb := qb.lt
    have lqyqs := qs.lt
    have bb := below_alloc (w := w19) (.cells #[.bool false, .slice none 0 0, .slice none 0 0] 27)
    replace hS0 := hS0.later bb
    replace hT0 := hT0.later bb
    replace hS1 := hS1.later bb
    replace hT1 := hT1.later bb
    replace qa := qa.later bb
    replace qb := qb.later bb
    replace qs := qs.later bb
    replace GD := hide' (GD.out.below bb)
    replace bel := bel.trans (bb.mono bel.size)
    clear bb
    have qy := Blk.new w19 #[.bool false, .slice none 0 0, .slice none 0 0] 27
    go_wp2_with fail
    clear qs_0 qs_1 qs_2
    obtain ⟨wY, hW⟩ : ∃ W, (w19.alloc (.cells #[.bool false, .slice none 0 0, .slice none 0 0] 27)) = W := ⟨_, rfl⟩
    rw [hW] at bel hS0 hT0 hS1 hT1 qa qb qs qy GD ⊢
    clear hW
    refine (none_is _).mono ?_
    rintro e w20 ⟨rfl, b1⟩
    have bb := b1
    replace hS0 := hS0.later bb
    replace hT0 := hT0.later bb
    replace hS1 := hS1.later bb
    replace hT1 := hT1.later bb
    replace qa := qa.later bb
    replace qb := qb.later bb
    replace qs := qs.later bb
    replace qy := qy.later bb
    replace GD := hide' (GD.out.below bb)
    replace bel := bel.trans (bb.mono bel.size)
    clear bb
    clear b1
    go_wp2_with fail
    refine (half_is _ GD.out).mono ?_
    rintro e w21 ⟨rfl, b1⟩
    have bb := b1
    replace hS0 := hS0.later bb
    replace hT0 := hT0.later bb
    replace hS1 := hS1.later bb
    replace hT1 := hT1.later bb
    replace qa := qa.later bb
    replace qb := qb.later bb
    replace qs := qs.later bb
    replace qy := qy.later bb
    replace GD := hide' (GD.out.below bb)
    replace bel := bel.trans (bb.mono bel.size)
    clear bb
    clear b1
    go_wp2
    go_ret
    exact ⟨rfl, bel⟩
set_option maxHeartbeats 8000000 in
set_option maxRecDepth 100000 in
theorem walkA (s0 : Bool) (a0 : Option Addr) (n0 c0 X0 : Nat) (b0 : Option Addr) (m0 d0 Y0 : Nat) (s1 : Bool) (a1 : Option Addr) (n1 c1 X1 : Nat) (b1 : Option Addr) (m1 d1 Y1 : Nat) (w : World) (hc0 : n0 ≤ c0) (hm0 : n0 ≤ 35184372087808) (hS0 : Seg w a0 X0 n0) (hd0 : m0 ≤ d0) (hk0 : m0 ≤ 35184372087808) (hT0 : Seg w b0 Y0 m0) (hc1 : n1 ≤ c1) (hm1 : n1 ≤ 35184372087808) (hS1 : Seg w a1 X1 n1) (hd1 : m1 ≤ d1) (hk1 : m1 ≤ 35184372087808) (hT1 : Seg w b1 Y1 m1) (hDg : Digits w) (hC : 0 = 0) (hlt : rn s0 X0 Y0 * ((rd Y1 : Nat) : Int) < rn s1 X1 Y1 * ((rd Y0 : Nat) : Int)) :
    Calls Tryz.prog 3 #[Value.agg #[Value.bool s0, Value.slice a0 n0 c0, Value.slice b0 m0 d0], Value.agg #[Value.bool s1, Value.slice a1 n1 c1, Value.slice b1 m1 d1]] w fun e w' => e = .returned (.bool true) ∧ Below w.heap.size w w' := by
  have GT0 := hide' (fun w' k1 k2 => ltwin_is s0 a0 n0 c0 X0 b0 m0 d0 Y0 w' hc0 (by omega) k1 hd0 (by omega) k2)
  have GT1 := hide' (fun w' k1 k2 => ltwin_is s1 a1 n1 c1 X1 b1 m1 d1 Y1 w' hc1 (by omega) k1 hd1 (by omega) k2)
  have G5 := hide' (fun w' p q p2 q2 (k1 : Seg w' p X0 n0) (k2 : Seg w' q Y0 m0) (k3 : Seg w' p2 X1 n1) (k4 : Seg w' q2 Y1 m1) => (Simplest_is s0 p n0 n0 X0 q m0 m0 Y0 s1 p2 n1 n1 X1 q2 m1 m1 Y1 w' (Nat.le_refl _) hm0 k1 (Nat.le_refl _) hk0 k2 (Nat.le_refl _) hm1 k3 (Nat.le_refl _) hk1 k4).mono (fun e w2 h => (show ∃ (P : Int) (Q : Nat) (pa pb : Option Addr), Si (rn s0 X0 Y0) ((rd Y0 : Nat) : Int) (rn s1 X1 Y1) ((rd Y1 : Nat) : Int) P Q ∧ Nat.gcd (am P) Q = 1 ∧ ln (am P) ≤ 35184372087809 ∧ ln Q ≤ 35184372087809 ∧ e = .returned (.tuple #[.agg #[.bool (ng P), .slice pa (ln (am P)) (ln (am P)), .slice pb (ln Q) (ln Q)], .int .i64 0]) ∧ Below w'.heap.size w' w2 ∧ Seg w2 pa (am P) (ln (am P)) ∧ Seg w2 pb Q (ln Q) by rcases h with ⟨h, _⟩ | ⟨_, h⟩ <;> first | exact h | omega)))
  have GV := hide' (fun w' (k0 : Seg w' a0 X0 n0) (l0 : Seg w' b0 Y0 m0) (k1 : Seg w' a1 X1 n1) (l1 : Seg w' b1 Y1 m1) => vsimp (⟨s0, a0, n0, c0, X0, b0, m0, d0, Y0⟩ : RatV) (⟨s1, a1, n1, c1, X1, b1, m1, d1, Y1⟩ : RatV) w' ⟨k0, hc0, by show n0 ≤ _; omega, l0, hd0, by show m0 ≤ _; omega⟩ ⟨k1, hc1, by show n1 ≤ _; omega, l1, hd1, by show m1 ≤ _; omega⟩ ⟨hm0, hk0, hm1, hk1⟩ hlt)
  have GD := hide' hDg
  have HC := hide' hC
  have HL := hide' hlt
  clear hDg hC hlt
  have bel : Below w.heap.size w w := Below.refl _ _
  have bb := below_alloc (w := w) (.cells #[.bool s0, .slice a0 n0 c0, .slice b0 m0 d0] 27)
  replace hS0 := hS0.later bb
  replace hT0 := hT0.later bb
  replace hS1 := hS1.later bb
  replace hT1 := hT1.later bb
  replace GD := hide' (GD.out.below bb)
  replace bel := bel.trans (bb.mono bel.size)
  clear bb
  have qa := Blk.new w #[.bool s0, .slice a0 n0 c0, .slice b0 m0 d0] 27
  have bb := below_alloc (w := (w.alloc (.cells #[.bool s0, .slice a0 n0 c0, .slice b0 m0 d0] 27))) (.cells #[.bool s1, .slice a1 n1 c1, .slice b1 m1 d1] 27)
  replace hS0 := hS0.later bb
  replace hT0 := hT0.later bb
  replace hS1 := hS1.later bb
  replace hT1 := hT1.later bb
  replace qa := qa.later bb
  replace GD := hide' (GD.out.below bb)
  replace bel := bel.trans (bb.mono bel.size)
  clear bb
  have qb := Blk.new (w.alloc (.cells #[.bool s0, .slice a0 n0 c0, .slice b0 m0 d0] 27)) #[.bool s1, .slice a1 n1 c1, .slice b1 m1 d1] 27
  simp only [World.size_alloc] at qb
  go_enter Tryz.func3, Tryz.ntmps3
  go_wp2_with fail
  obtain ⟨W0, hW⟩ : ∃ W, ((w.alloc (.cells #[.bool s0, .slice a0 n0 c0, .slice b0 m0 d0] 27)).alloc (.cells #[.bool s1, .slice a1 n1 c1, .slice b1 m1 d1] 27)) = W := ⟨_, rfl⟩
  rw [hW] at bel hS0 hT0 hS1 hT1 qa qb GD ⊢
  clear hW
  have hbs := bel.size
  have bT : Below W0.heap.size W0 W0 := Below.refl _ _
  go_cut [5, 6] from 9 to 16 (fun s5_ s6_ wx => ∃ (wh9 : World) (cs : Nat) (P : Int) (Q : Nat) (pa pb : Option Addr), wh9 = wx ∧ s5_ = .pointer (some ⟨cs, 0, none⟩) ∧ s6_ = .int .i64 0 ∧ Blk wx cs #[.bool (ng P), .slice pa (ln (am P)) (ln (am P)), .slice pb (ln Q) (ln Q)] 27 ∧ Seg wx pa (am P) (ln (am P)) ∧ Seg wx pb Q (ln Q) ∧ Si (rn s0 X0 Y0) ((rd Y0 : Nat) : Int) (rn s1 X1 Y1) ((rd Y1 : Nat) : Int) P Q ∧ Nat.gcd (am P) Q = 1 ∧ ln (am P) ≤ 35184372087809 ∧ ln Q ≤ 35184372087809 ∧ Below W0.heap.size W0 wx)
  case first =>
    clear GD GV
    have qa_0 := qa.cell 0
    have qa_1 := qa.cell 1
    have qa_2 := qa.cell 2
    have qb_0 := qb.cell 0
    have qb_1 := qb.cell 1
    have qb_2 := qb.cell 2
    simp only [List.getElem?_toArray, List.getElem?_cons_zero, List.getElem?_cons_succ] at qa_0 qa_1 qa_2 qb_0 qb_1 qb_2
    have bD : Below W0.heap.size W0 W0.drew := (Below.refl _ _).drew
    have kqa_0 := below_cell bD qa_0
    have kqa_1 := below_cell bD qa_1
    have kqa_2 := below_cell bD qa_2
    have kqb_0 := below_cell bD qb_0
    have kqb_1 := below_cell bD qb_1
    have kqb_2 := below_cell bD qb_2
    replace bT := bT.trans (bD.mono bT.size)
    replace hS0 := hS0.later bD
    replace hT0 := hT0.later bD
    replace hS1 := hS1.later bD
    replace hT1 := hT1.later bD
    replace qa := qa.later bD
    replace qb := qb.later bD
    refine wp_region_held_drew (S := fun w' => w'.cell? ⟨w.heap.size, 0, none⟩ = some (.bool s0) ∧ w'.cell? ⟨w.heap.size, 1, none⟩ = some (.slice a0 n0 c0) ∧ w'.cell? ⟨w.heap.size, 2, none⟩ = some (.slice b0 m0 d0) ∧ w'.cell? ⟨w.heap.size + 1, 0, none⟩ = some (.bool s1) ∧ w'.cell? ⟨w.heap.size + 1, 1, none⟩ = some (.slice a1 n1 c1) ∧ w'.cell? ⟨w.heap.size + 1, 2, none⟩ = some (.slice b1 m1 d1)) (by kernel_rfl) ⟨kqa_0, kqa_1, kqa_2, kqb_0, kqb_1, kqb_2⟩ (fun hHeld => ?_)
    clear kqa_0 kqa_1 kqa_2 kqb_0 kqb_1 kqb_2
    generalize W0.drew = w0F at bD hS0 hT0 hS1 hT1 qa qb bT hHeld ⊢
    clear bD qa_0 qa_1 qa_2 qb_0 qb_1 qb_2
    have lqa := qa.lt
    have lqb := qb.lt
    clear qa qb
    refine tk 0 (v := ?_) rfl (Or.inl ⟨by rfl, ?_⟩) ?_
    rotate_left
    · intro w9 hSw
      go_simp
      first | done | with_reducible rfl
    simp only [pP, pN, pS, pZ, pC]
    refine tk 2 (v := ?_) rfl (Or.inl ⟨by rfl, ?_⟩) ?_
    rotate_left
    · intro w9 hSw
      go_simp
      first | done | with_reducible rfl
    simp only [pP, pN, pS, pZ, pC]
    refine wpAnyH_ready (rs := [1, 8]) (by kernel_rfl) (by simp) ?_
    refine consT rfl (fun KK hKK => ?_) ?_
    · skip
      go_simp
      refine (GT0.out _ hS0 hT0).mono ?_
      rintro e w1 ⟨p, q, rfl, n1, n2⟩
      have bC := n1.below
      replace bT := bT.trans (bC.mono bT.size)
      replace hS0 := hS0.later bC
      replace hT0 := hT0.later bC
      replace hS1 := hS1.later bC
      replace hT1 := hT1.later bC
      replace hHeld := (⟨below_cell bC hHeld.1, below_cell bC hHeld.2.1, below_cell bC hHeld.2.2.1, below_cell bC hHeld.2.2.2.1, below_cell bC hHeld.2.2.2.2.1, below_cell bC hHeld.2.2.2.2.2⟩ : _ ∧ _ ∧ _ ∧ _ ∧ _ ∧ _)
      clear bC
      go_wp2_with fail
      have k1 := n1.seg
      have k2 := n2.seg
      clear n1 n2
      refine hKK.out _ _ hHeld ?_
      clear hHeld
      intro hHeld
      clear hKK KK
      try simp only [pP, pN, pS, pZ, pC]
      refine wpAnyH_ready (rs := [3, 8]) (by kernel_rfl) (by simp) ?_
      refine consT rfl (fun KK hKK => ?_) ?_
      · skip
        go_simp
        refine (GT1.out _ hS1 hT1).mono ?_
        rintro e w2 ⟨p2, q2, rfl, n1, n2⟩
        have bC := n1.below
        replace bT := bT.trans (bC.mono bT.size)
        replace hS0 := hS0.later bC
        replace hT0 := hT0.later bC
        replace hS1 := hS1.later bC
        replace hT1 := hT1.later bC
        replace k1 := k1.later bC
        replace k2 := k2.later bC
        replace hHeld := (⟨below_cell bC hHeld.1, below_cell bC hHeld.2.1, below_cell bC hHeld.2.2.1, below_cell bC hHeld.2.2.2.1, below_cell bC hHeld.2.2.2.2.1, below_cell bC hHeld.2.2.2.2.2⟩ : _ ∧ _ ∧ _ ∧ _ ∧ _ ∧ _)
        clear bC
        go_wp2_with fail
        have k3 := n1.seg
        have k4 := n2.seg
        clear n1 n2
        refine hKK.out _ _ hHeld ?_
        clear hHeld
        intro hHeld
        clear hKK KK
        try simp only [pP, pN, pS, pZ, pC]
        refine wpAnyH_ready (rs := [4, 8]) (by kernel_rfl) (by simp) ?_
        refine consT rfl (fun KK hKK => ?_) ?_
        · skip
          go_simp
          refine (G5.out _ p q p2 q2 k1 k2 k3 k4).mono ?_
          rintro e w3 ⟨P, Q, pa, pb, hSi, hg, lP, lQ, rfl, b5, kP, kQ⟩
          have bC := b5
          replace bT := bT.trans (bC.mono bT.size)
          replace hS0 := hS0.later bC
          replace hT0 := hT0.later bC
          replace hS1 := hS1.later bC
          replace hT1 := hT1.later bC
          replace k1 := k1.later bC
          replace k2 := k2.later bC
          replace k3 := k3.later bC
          replace k4 := k4.later bC
          replace hHeld := (⟨below_cell bC hHeld.1, below_cell bC hHeld.2.1, below_cell bC hHeld.2.2.1, below_cell bC hHeld.2.2.2.1, below_cell bC hHeld.2.2.2.2.1, below_cell bC hHeld.2.2.2.2.2⟩ : _ ∧ _ ∧ _ ∧ _ ∧ _ ∧ _)
          clear bC
          go_wp2_with fail
          clear b5
          refine hKK.out _ _ hHeld ?_
          clear hHeld
          intro hHeld
          clear hKK KK
          try simp only [pP, pN, pS, pZ, pC]
          have HF := hide' (And.intro hSi (And.intro hg (And.intro lP lQ)))
          clear hSi hg lP lQ
          refine tk 5 (v := ?_) rfl (Or.inl ⟨by rfl, ?_⟩) ?_
          rotate_left
          · intro w9 hSw
            go_simp
            first | done | with_reducible rfl
          simp only [pP, pN, pS, pZ, pC]
          refine tk 6 (v := ?_) rfl (Or.inl ⟨by rfl, ?_⟩) ?_
          rotate_left
          · intro w9 hSw
            go_simp
            first | done | with_reducible rfl
          simp only [pP, pN, pS, pZ, pC]
          refine tk 7 (v := ?_) rfl (Or.inl ⟨by rfl, ?_⟩) ?_
          rotate_left
          · intro w9 hSw
            go_simp
            first | done | with_reducible rfl
          simp only [pP, pN, pS, pZ, pC]
          refine wpAnyH_ready (rs := [8]) (by kernel_rfl) (by simp) ?_
          refine cons' rfl (fun KK hKK => ?_)
          go_simp
          have qs := Blk.new w3 #[.bool false, .slice none 0 0, .slice none 0 0] 27
          have bA := below_alloc (w := w3) (.cells #[.bool false, .slice none 0 0, .slice none 0 0] 27)
          have hqsge := bT.size
          have hqsc0 := cell_ltB hHeld.1
          have hqsc1 := cell_ltB hHeld.2.1
          have hqsc2 := cell_ltB hHeld.2.2.1
          have hqsc3 := cell_ltB hHeld.2.2.2.1
          have hqsc4 := cell_ltB hHeld.2.2.2.2.1
          have hqsc5 := cell_ltB hHeld.2.2.2.2.2
          generalize w3.alloc (.cells #[.bool false, .slice none 0 0, .slice none 0 0] 27) = w4 at qs bA ⊢
          replace bT := bT.trans (bA.mono bT.size)
          replace hS0 := hS0.later bA
          replace hT0 := hT0.later bA
          replace hS1 := hS1.later bA
          replace hT1 := hT1.later bA
          replace k1 := k1.later bA
          replace k2 := k2.later bA
          replace k3 := k3.later bA
          replace k4 := k4.later bA
          replace kP := kP.later bA
          replace kQ := kQ.later bA
          replace hHeld := (⟨below_cell bA hHeld.1, below_cell bA hHeld.2.1, below_cell bA hHeld.2.2.1, below_cell bA hHeld.2.2.2.1, below_cell bA hHeld.2.2.2.2.1, below_cell bA hHeld.2.2.2.2.2⟩ : _ ∧ _ ∧ _ ∧ _ ∧ _ ∧ _)
          clear bA
          refine hKK.out _ _ hHeld ?_
          clear hHeld
          intro hHeld
          clear hKK KK
          try simp only [pP, pN, pS, pZ, pC]
          obtain ⟨cqs, hcc⟩ : ∃ cc, w3.heap.size = cc := ⟨_, rfl⟩
          rw [hcc] at qs hqsge hqsc0 hqsc1 hqsc2 hqsc3 hqsc4 hqsc5
          try rw [hcc]
          clear hcc
          refine wpAnyH_ready (rs := [9]) (by kernel_rfl) (by simp) ?_
          refine cons' rfl (fun KK hKK => ?_)
          have z0 := qs.cell 0
          have z1 := qs.cell 1
          have z2 := qs.cell 2
          simp only [List.getElem?_toArray, List.getElem?_cons_zero, List.getElem?_cons_succ] at z0 z1 z2
          have fz := fun o => qs.frozen o
          obtain ⟨c9, q9⟩ := qs.set3 (.bool (ng P)) (.slice pa (ln (am P)) (ln (am P))) (.slice pb (ln Q) (ln Q))
          have hno := qs.no (by simp)
          replace hS0 := hS0.ch c9 hno
          replace hT0 := hT0.ch c9 hno
          replace hS1 := hS1.ch c9 hno
          replace hT1 := hT1.ch c9 hno
          replace k1 := k1.ch c9 hno
          replace k2 := k2.ch c9 hno
          replace k3 := k3.ch c9 hno
          replace k4 := k4.ch c9 hno
          replace kP := kP.ch c9 hno
          replace kQ := kQ.ch c9 hno
          replace bT := bT.trans (c9.below (by omega))
          have hH2 := (⟨(World.cell?_of_block (w := w4) (a := ⟨w.heap.size, 0, none⟩) (c9.other (w.heap.size) (by omega))).trans hHeld.1, (World.cell?_of_block (w := w4) (a := ⟨w.heap.size, 1, none⟩) (c9.other (w.heap.size) (by omega))).trans hHeld.2.1, (World.cell?_of_block (w := w4) (a := ⟨w.heap.size, 2, none⟩) (c9.other (w.heap.size) (by omega))).trans hHeld.2.2.1, (World.cell?_of_block (w := w4) (a := ⟨w.heap.size + 1, 0, none⟩) (c9.other (w.heap.size + 1) (by omega))).trans hHeld.2.2.2.1, (World.cell?_of_block (w := w4) (a := ⟨w.heap.size + 1, 1, none⟩) (c9.other (w.heap.size + 1) (by omega))).trans hHeld.2.2.2.2.1, (World.cell?_of_block (w := w4) (a := ⟨w.heap.size + 1, 2, none⟩) (c9.other (w.heap.size + 1) (by omega))).trans hHeld.2.2.2.2.2⟩ : _ ∧ _ ∧ _ ∧ _ ∧ _ ∧ _)
          go_simp
          clear z0 z1 z2 fz hno c9
          replace qs := q9
          refine hKK.out _ _ hH2 ?_
          clear hHeld
          intro hHeld
          clear hKK KK
          try simp only [pP, pN, pS, pZ, pC]
          clear hH2
          generalize (((w4.setCell ⟨cqs, 0, none⟩ (.bool (ng P))).setCell ⟨cqs, 1, none⟩ (.slice pa (ln (am P)) (ln (am P)))).setCell ⟨cqs, 2, none⟩ (.slice pb (ln Q) (ln Q))) = w5 at bT hS0 hT0 hS1 hT1 k1 k2 k3 k4 kP kQ qs hHeld ⊢
          refine tk 10 (v := ?_) rfl (Or.inl ⟨by rfl, ?_⟩) ?_
          rotate_left
          · intro w9 hSw
            go_simp
            first | done | with_reducible rfl
          simp only [pP, pN, pS, pZ, pC]
          refine wpAnyH_done (by kernel_rfl) ?_ _
          go_wp2_with fail
          go_meet
          exact ⟨_, cqs, P, Q, pa, pb, rfl, rfl, rfl, qs, kP, kQ, HF.out.1, HF.out.2.1, HF.out.2.2.1, HF.out.2.2.2, bT⟩
        refine consT rfl (fun KK hKK => ?_) ?_
        · skip
          go_simp
          have qs := Blk.new w2 #[.bool false, .slice none 0 0, .slice none 0 0] 27
          have bA := below_alloc (w := w2) (.cells #[.bool false, .slice none 0 0, .slice none 0 0] 27)
          have hqsge := bT.size
          have hqsc0 := cell_ltB hHeld.1
          have hqsc1 := cell_ltB hHeld.2.1
          have hqsc2 := cell_ltB hHeld.2.2.1
          have hqsc3 := cell_ltB hHeld.2.2.2.1
          have hqsc4 := cell_ltB hHeld.2.2.2.2.1
          have hqsc5 := cell_ltB hHeld.2.2.2.2.2
          generalize w2.alloc (.cells #[.bool false, .slice none 0 0, .slice none 0 0] 27) = w6 at qs bA ⊢
          replace bT := bT.trans (bA.mono bT.size)
          replace hS0 := hS0.later bA
          replace hT0 := hT0.later bA
          replace hS1 := hS1.later bA
          replace hT1 := hT1.later bA
          replace k1 := k1.later bA
          replace k2 := k2.later bA
          replace k3 := k3.later bA
          replace k4 := k4.later bA
          replace hHeld := (⟨below_cell bA hHeld.1, below_cell bA hHeld.2.1, below_cell bA hHeld.2.2.1, below_cell bA hHeld.2.2.2.1, below_cell bA hHeld.2.2.2.2.1, below_cell bA hHeld.2.2.2.2.2⟩ : _ ∧ _ ∧ _ ∧ _ ∧ _ ∧ _)
          clear bA
          refine hKK.out _ _ hHeld ?_
          clear hHeld
          intro hHeld
          clear hKK KK
          try simp only [pP, pN, pS, pZ, pC]
          obtain ⟨cqs, hcc⟩ : ∃ cc, w2.heap.size = cc := ⟨_, rfl⟩
          rw [hcc] at qs hqsge hqsc0 hqsc1 hqsc2 hqsc3 hqsc4 hqsc5
          try rw [hcc]
          clear hcc
          refine wpAnyH_ready (rs := [4]) (by kernel_rfl) (by simp) ?_
          refine cons' rfl (fun KK hKK => ?_)
          go_simp
          refine (G5.out _ p q p2 q2 k1 k2 k3 k4).mono ?_
          rintro e w7 ⟨P, Q, pa, pb, hSi, hg, lP, lQ, rfl, b5, kP, kQ⟩
          have bC := b5
          replace bT := bT.trans (bC.mono bT.size)
          replace hS0 := hS0.later bC
          replace hT0 := hT0.later bC
          replace hS1 := hS1.later bC
          replace hT1 := hT1.later bC
          replace k1 := k1.later bC
          replace k2 := k2.later bC
          replace k3 := k3.later bC
          replace k4 := k4.later bC
          replace qs := qs.later bC
          replace hHeld := (⟨below_cell bC hHeld.1, below_cell bC hHeld.2.1, below_cell bC hHeld.2.2.1, below_cell bC hHeld.2.2.2.1, below_cell bC hHeld.2.2.2.2.1, below_cell bC hHeld.2.2.2.2.2⟩ : _ ∧ _ ∧ _ ∧ _ ∧ _ ∧ _)
          clear bC
          go_wp2_with fail
          clear b5
          refine hKK.out _ _ hHeld ?_
          clear hHeld
          intro hHeld
          clear hKK KK
          try simp only [pP, pN, pS, pZ, pC]
          have HF := hide' (And.intro hSi (And.intro hg (And.intro lP lQ)))
          clear hSi hg lP lQ
          refine tk 5 (v := ?_) rfl (Or.inl ⟨by rfl, ?_⟩) ?_
          rotate_left
          · intro w9 hSw
            go_simp
            first | done | with_reducible rfl
          simp only [pP, pN, pS, pZ, pC]
          refine tk 6 (v := ?_) rfl (Or.inl ⟨by rfl, ?_⟩) ?_
          rotate_left
          · intro w9 hSw
            go_simp
            first | done | with_reducible rfl
          simp only [pP, pN, pS, pZ, pC]
          refine tk 7 (v := ?_) rfl (Or.inl ⟨by rfl, ?_⟩) ?_
          rotate_left
          · intro w9 hSw
            go_simp
            first | done | with_reducible rfl
          simp only [pP, pN, pS, pZ, pC]
          refine wpAnyH_ready (rs := [9]) (by kernel_rfl) (by simp) ?_
          refine cons' rfl (fun KK hKK => ?_)
          have z0 := qs.cell 0
          have z1 := qs.cell 1
          have z2 := qs.cell 2
          simp only [List.getElem?_toArray, List.getElem?_cons_zero, List.getElem?_cons_succ] at z0 z1 z2
          have fz := fun o => qs.frozen o
          obtain ⟨c9, q9⟩ := qs.set3 (.bool (ng P)) (.slice pa (ln (am P)) (ln (am P))) (.slice pb (ln Q) (ln Q))
          have hno := qs.no (by simp)
          replace hS0 := hS0.ch c9 hno
          replace hT0 := hT0.ch c9 hno
          replace hS1 := hS1.ch c9 hno
          replace hT1 := hT1.ch c9 hno
          replace k1 := k1.ch c9 hno
          replace k2 := k2.ch c9 hno
          replace k3 := k3.ch c9 hno
          replace k4 := k4.ch c9 hno
          replace kP := kP.ch c9 hno
          replace kQ := kQ.ch c9 hno
          replace bT := bT.trans (c9.below (by omega))
          have hH2 := (⟨(World.cell?_of_block (w := w7) (a := ⟨w.heap.size, 0, none⟩) (c9.other (w.heap.size) (by omega))).trans hHeld.1, (World.cell?_of_block (w := w7) (a := ⟨w.heap.size, 1, none⟩) (c9.other (w.heap.size) (by omega))).trans hHeld.2.1, (World.cell?_of_block (w := w7) (a := ⟨w.heap.size, 2, none⟩) (c9.other (w.heap.size) (by omega))).trans hHeld.2.2.1, (World.cell?_of_block (w := w7) (a := ⟨w.heap.size + 1, 0, none⟩) (c9.other (w.heap.size + 1) (by omega))).trans hHeld.2.2.2.1, (World.cell?_of_block (w := w7) (a := ⟨w.heap.size + 1, 1, none⟩) (c9.other (w.heap.size + 1) (by omega))).trans hHeld.2.2.2.2.1, (World.cell?_of_block (w := w7) (a := ⟨w.heap.size + 1, 2, none⟩) (c9.other (w.heap.size + 1) (by omega))).trans hHeld.2.2.2.2.2⟩ : _ ∧ _ ∧ _ ∧ _ ∧ _ ∧ _)
          go_simp
          clear z0 z1 z2 fz hno c9
          replace qs := q9
          refine hKK.out _ _ hH2 ?_
          clear hHeld
          intro hHeld
          clear hKK KK
          try simp only [pP, pN, pS, pZ, pC]
          clear hH2
          generalize (((w7.setCell ⟨cqs, 0, none⟩ (.bool (ng P))).setCell ⟨cqs, 1, none⟩ (.slice pa (ln (am P)) (ln (am P)))).setCell ⟨cqs, 2, none⟩ (.slice pb (ln Q) (ln Q))) = w8 at bT hS0 hT0 hS1 hT1 k1 k2 k3 k4 qs kP kQ hHeld ⊢
          refine tk 10 (v := ?_) rfl (Or.inl ⟨by rfl, ?_⟩) ?_
          rotate_left
          · intro w9 hSw
            go_simp
            first | done | with_reducible rfl
          simp only [pP, pN, pS, pZ, pC]
          refine wpAnyH_done (by kernel_rfl) ?_ _
          go_wp2_with fail
          go_meet
          exact ⟨_, cqs, P, Q, pa, pb, rfl, rfl, rfl, qs, kP, kQ, HF.out.1, HF.out.2.1, HF.out.2.2.1, HF.out.2.2.2, bT⟩
        exact AllReadyH.nil
      refine consT rfl (fun KK hKK => ?_) ?_
      · skip
        go_simp
        have qs := Blk.new w1 #[.bool false, .slice none 0 0, .slice none 0 0] 27
        have bA := below_alloc (w := w1) (.cells #[.bool false, .slice none 0 0, .slice none 0 0] 27)
        have hqsge := bT.size
        have hqsc0 := cell_ltB hHeld.1
        have hqsc1 := cell_ltB hHeld.2.1
        have hqsc2 := cell_ltB hHeld.2.2.1
        have hqsc3 := cell_ltB hHeld.2.2.2.1
        have hqsc4 := cell_ltB hHeld.2.2.2.2.1
        have hqsc5 := cell_ltB hHeld.2.2.2.2.2
        generalize w1.alloc (.cells #[.bool false, .slice none 0 0, .slice none 0 0] 27) = w9 at qs bA ⊢
        replace bT := bT.trans (bA.mono bT.size)
        replace hS0 := hS0.later bA
        replace hT0 := hT0.later bA
        replace hS1 := hS1.later bA
        replace hT1 := hT1.later bA
        replace k1 := k1.later bA
        replace k2 := k2.later bA
        replace hHeld := (⟨below_cell bA hHeld.1, below_cell bA hHeld.2.1, below_cell bA hHeld.2.2.1, below_cell bA hHeld.2.2.2.1, below_cell bA hHeld.2.2.2.2.1, below_cell bA hHeld.2.2.2.2.2⟩ : _ ∧ _ ∧ _ ∧ _ ∧ _ ∧ _)
        clear bA
        refine hKK.out _ _ hHeld ?_
        clear hHeld
        intro hHeld
        clear hKK KK
        try simp only [pP, pN, pS, pZ, pC]
        obtain ⟨cqs, hcc⟩ : ∃ cc, w1.heap.size = cc := ⟨_, rfl⟩
        rw [hcc] at qs hqsge hqsc0 hqsc1 hqsc2 hqsc3 hqsc4 hqsc5
        try rw [hcc]
        clear hcc
        refine wpAnyH_ready (rs := [3]) (by kernel_rfl) (by simp) ?_
        refine cons' rfl (fun KK hKK => ?_)
        go_simp
        refine (GT1.out _ hS1 hT1).mono ?_
        rintro e w10 ⟨p2, q2, rfl, n1, n2⟩
        have bC := n1.below
        replace bT := bT.trans (bC.mono bT.size)
        replace hS0 := hS0.later bC
        replace hT0 := hT0.later bC
        replace hS1 := hS1.later bC
        replace hT1 := hT1.later bC
        replace k1 := k1.later bC
        replace k2 := k2.later bC
        replace qs := qs.later bC
        replace hHeld := (⟨below_cell bC hHeld.1, below_cell bC hHeld.2.1, below_cell bC hHeld.2.2.1, below_cell bC hHeld.2.2.2.1, below_cell bC hHeld.2.2.2.2.1, below_cell bC hHeld.2.2.2.2.2⟩ : _ ∧ _ ∧ _ ∧ _ ∧ _ ∧ _)
        clear bC
        go_wp2_with fail
        have k3 := n1.seg
        have k4 := n2.seg
        clear n1 n2
        refine hKK.out _ _ hHeld ?_
        clear hHeld
        intro hHeld
        clear hKK KK
        try simp only [pP, pN, pS, pZ, pC]
        refine wpAnyH_ready (rs := [4]) (by kernel_rfl) (by simp) ?_
        refine cons' rfl (fun KK hKK => ?_)
        go_simp
        refine (G5.out _ p q p2 q2 k1 k2 k3 k4).mono ?_
        rintro e w11 ⟨P, Q, pa, pb, hSi, hg, lP, lQ, rfl, b5, kP, kQ⟩
        have bC := b5
        replace bT := bT.trans (bC.mono bT.size)
        replace hS0 := hS0.later bC
        replace hT0 := hT0.later bC
        replace hS1 := hS1.later bC
        replace hT1 := hT1.later bC
        replace k1 := k1.later bC
        replace k2 := k2.later bC
        replace qs := qs.later bC
        replace k3 := k3.later bC
        replace k4 := k4.later bC
        replace hHeld := (⟨below_cell bC hHeld.1, below_cell bC hHeld.2.1, below_cell bC hHeld.2.2.1, below_cell bC hHeld.2.2.2.1, below_cell bC hHeld.2.2.2.2.1, below_cell bC hHeld.2.2.2.2.2⟩ : _ ∧ _ ∧ _ ∧ _ ∧ _ ∧ _)
        clear bC
        go_wp2_with fail
        clear b5
        refine hKK.out _ _ hHeld ?_
        clear hHeld
        intro hHeld
        clear hKK KK
        try simp only [pP, pN, pS, pZ, pC]
        have HF := hide' (And.intro hSi (And.intro hg (And.intro lP lQ)))
        clear hSi hg lP lQ
        refine tk 5 (v := ?_) rfl (Or.inl ⟨by rfl, ?_⟩) ?_
        rotate_left
        · intro w9 hSw
          go_simp
          first | done | with_reducible rfl
        simp only [pP, pN, pS, pZ, pC]
        refine tk 6 (v := ?_) rfl (Or.inl ⟨by rfl, ?_⟩) ?_
        rotate_left
        · intro w9 hSw
          go_simp
          first | done | with_reducible rfl
        simp only [pP, pN, pS, pZ, pC]
        refine tk 7 (v := ?_) rfl (Or.inl ⟨by rfl, ?_⟩) ?_
        rotate_left
        · intro w9 hSw
          go_simp
          first | done | with_reducible rfl
        simp only [pP, pN, pS, pZ, pC]
        refine wpAnyH_ready (rs := [9]) (by kernel_rfl) (by simp) ?_
        refine cons' rfl (fun KK hKK => ?_)
        have z0 := qs.cell 0
        have z1 := qs.cell 1
        have z2 := qs.cell 2
        simp only [List.getElem?_toArray, List.getElem?_cons_zero, List.getElem?_cons_succ] at z0 z1 z2
        have fz := fun o => qs.frozen o
        obtain ⟨c9, q9⟩ := qs.set3 (.bool (ng P)) (.slice pa (ln (am P)) (ln (am P))) (.slice pb (ln Q) (ln Q))
        have hno := qs.no (by simp)
        replace hS0 := hS0.ch c9 hno
        replace hT0 := hT0.ch c9 hno
        replace hS1 := hS1.ch c9 hno
        replace hT1 := hT1.ch c9 hno
        replace k1 := k1.ch c9 hno
        replace k2 := k2.ch c9 hno
        replace k3 := k3.ch c9 hno
        replace k4 := k4.ch c9 hno
        replace kP := kP.ch c9 hno
        replace kQ := kQ.ch c9 hno
        replace bT := bT.trans (c9.below (by omega))
        have hH2 := (⟨(World.cell?_of_block (w := w11) (a := ⟨w.heap.size, 0, none⟩) (c9.other (w.heap.size) (by omega))).trans hHeld.1, (World.cell?_of_block (w := w11) (a := ⟨w.heap.size, 1, none⟩) (c9.other (w.heap.size) (by omega))).trans hHeld.2.1, (World.cell?_of_block (w := w11) (a := ⟨w.heap.size, 2, none⟩) (c9.other (w.heap.size) (by omega))).trans hHeld.2.2.1, (World.cell?_of_block (w := w11) (a := ⟨w.heap.size + 1, 0, none⟩) (c9.other (w.heap.size + 1) (by omega))).trans hHeld.2.2.2.1, (World.cell?_of_block (w := w11) (a := ⟨w.heap.size + 1, 1, none⟩) (c9.other (w.heap.size + 1) (by omega))).trans hHeld.2.2.2.2.1, (World.cell?_of_block (w := w11) (a := ⟨w.heap.size + 1, 2, none⟩) (c9.other (w.heap.size + 1) (by omega))).trans hHeld.2.2.2.2.2⟩ : _ ∧ _ ∧ _ ∧ _ ∧ _ ∧ _)
        go_simp
        clear z0 z1 z2 fz hno c9
        replace qs := q9
        refine hKK.out _ _ hH2 ?_
        clear hHeld
        intro hHeld
        clear hKK KK
        try simp only [pP, pN, pS, pZ, pC]
        clear hH2
        generalize (((w11.setCell ⟨cqs, 0, none⟩ (.bool (ng P))).setCell ⟨cqs, 1, none⟩ (.slice pa (ln (am P)) (ln (am P)))).setCell ⟨cqs, 2, none⟩ (.slice pb (ln Q) (ln Q))) = w12 at bT hS0 hT0 hS1 hT1 k1 k2 qs k3 k4 kP kQ hHeld ⊢
        refine tk 10 (v := ?_) rfl (Or.inl ⟨by rfl, ?_⟩) ?_
        rotate_left
        · intro w9 hSw
          go_simp
          first | done | with_reducible rfl
        simp only [pP, pN, pS, pZ, pC]
        refine wpAnyH_done (by kernel_rfl) ?_ _
        go_wp2_with fail
        go_meet
        exact ⟨_, cqs, P, Q, pa, pb, rfl, rfl, rfl, qs, kP, kQ, HF.out.1, HF.out.2.1, HF.out.2.2.1, HF.out.2.2.2, bT⟩
      exact AllReadyH.nil
    refine consT rfl (fun KK hKK => ?_) ?_
    · skip
      go_simp
      have qs := Blk.new w0F #[.bool false, .slice none 0 0, .slice none 0 0] 27
      have bA := below_alloc (w := w0F) (.cells #[.bool false, .slice none 0 0, .slice none 0 0] 27)
      have hqsge := bT.size
      have hqsc0 := cell_ltB hHeld.1
      have hqsc1 := cell_ltB hHeld.2.1
      have hqsc2 := cell_ltB hHeld.2.2.1
      have hqsc3 := cell_ltB hHeld.2.2.2.1
      have hqsc4 := cell_ltB hHeld.2.2.2.2.1
      have hqsc5 := cell_ltB hHeld.2.2.2.2.2
      generalize w0F.alloc (.cells #[.bool false, .slice none 0 0, .slice none 0 0] 27) = w13 at qs bA ⊢
      replace bT := bT.trans (bA.mono bT.size)
      replace hS0 := hS0.later bA
      replace hT0 := hT0.later bA
      replace hS1 := hS1.later bA
      replace hT1 := hT1.later bA
      replace hHeld := (⟨below_cell bA hHeld.1, below_cell bA hHeld.2.1, below_cell bA hHeld.2.2.1, below_cell bA hHeld.2.2.2.1, below_cell bA hHeld.2.2.2.2.1, below_cell bA hHeld.2.2.2.2.2⟩ : _ ∧ _ ∧ _ ∧ _ ∧ _ ∧ _)
      clear bA
      refine hKK.out _ _ hHeld ?_
      clear hHeld
      intro hHeld
      clear hKK KK
      try simp only [pP, pN, pS, pZ, pC]
      obtain ⟨cqs, hcc⟩ : ∃ cc, w0F.heap.size = cc := ⟨_, rfl⟩
      rw [hcc] at qs hqsge hqsc0 hqsc1 hqsc2 hqsc3 hqsc4 hqsc5
      try rw [hcc]
      clear hcc
      refine wpAnyH_ready (rs := [1]) (by kernel_rfl) (by simp) ?_
      refine cons' rfl (fun KK hKK => ?_)
      go_simp
      refine (GT0.out _ hS0 hT0).mono ?_
      rintro e w14 ⟨p, q, rfl, n1, n2⟩
      have bC := n1.below
      replace bT := bT.trans (bC.mono bT.size)
      replace hS0 := hS0.later bC
      replace hT0 := hT0.later bC
      replace hS1 := hS1.later bC
      replace hT1 := hT1.later bC
      replace qs := qs.later bC
      replace hHeld := (⟨below_cell bC hHeld.1, below_cell bC hHeld.2.1, below_cell bC hHeld.2.2.1, below_cell bC hHeld.2.2.2.1, below_cell bC hHeld.2.2.2.2.1, below_cell bC hHeld.2.2.2.2.2⟩ : _ ∧ _ ∧ _ ∧ _ ∧ _ ∧ _)
      clear bC
      go_wp2_with fail
      have k1 := n1.seg
      have k2 := n2.seg
      clear n1 n2
      refine hKK.out _ _ hHeld ?_
      clear hHeld
      intro hHeld
      clear hKK KK
      try simp only [pP, pN, pS, pZ, pC]
      refine wpAnyH_ready (rs := [3]) (by kernel_rfl) (by simp) ?_
      refine cons' rfl (fun KK hKK => ?_)
      go_simp
      refine (GT1.out _ hS1 hT1).mono ?_
      rintro e w15 ⟨p2, q2, rfl, n1, n2⟩
      have bC := n1.below
      replace bT := bT.trans (bC.mono bT.size)
      replace hS0 := hS0.later bC
      replace hT0 := hT0.later bC
      replace hS1 := hS1.later bC
      replace hT1 := hT1.later bC
      replace qs := qs.later bC
      replace k1 := k1.later bC
      replace k2 := k2.later bC
      replace hHeld := (⟨below_cell bC hHeld.1, below_cell bC hHeld.2.1, below_cell bC hHeld.2.2.1, below_cell bC hHeld.2.2.2.1, below_cell bC hHeld.2.2.2.2.1, below_cell bC hHeld.2.2.2.2.2⟩ : _ ∧ _ ∧ _ ∧ _ ∧ _ ∧ _)
      clear bC
      go_wp2_with fail
      have k3 := n1.seg
      have k4 := n2.seg
      clear n1 n2
      refine hKK.out _ _ hHeld ?_
      clear hHeld
      intro hHeld
      clear hKK KK
      try simp only [pP, pN, pS, pZ, pC]
      refine wpAnyH_ready (rs := [4]) (by kernel_rfl) (by simp) ?_
      refine cons' rfl (fun KK hKK => ?_)
      go_simp
      refine (G5.out _ p q p2 q2 k1 k2 k3 k4).mono ?_
      rintro e w16 ⟨P, Q, pa, pb, hSi, hg, lP, lQ, rfl, b5, kP, kQ⟩
      have bC := b5
      replace bT := bT.trans (bC.mono bT.size)
      replace hS0 := hS0.later bC
      replace hT0 := hT0.later bC
      replace hS1 := hS1.later bC
      replace hT1 := hT1.later bC
      replace qs := qs.later bC
      replace k1 := k1.later bC
      replace k2 := k2.later bC
      replace k3 := k3.later bC
      replace k4 := k4.later bC
      replace hHeld := (⟨below_cell bC hHeld.1, below_cell bC hHeld.2.1, below_cell bC hHeld.2.2.1, below_cell bC hHeld.2.2.2.1, below_cell bC hHeld.2.2.2.2.1, below_cell bC hHeld.2.2.2.2.2⟩ : _ ∧ _ ∧ _ ∧ _ ∧ _ ∧ _)
      clear bC
      go_wp2_with fail
      clear b5
      refine hKK.out _ _ hHeld ?_
      clear hHeld
      intro hHeld
      clear hKK KK
      try simp only [pP, pN, pS, pZ, pC]
      have HF := hide' (And.intro hSi (And.intro hg (And.intro lP lQ)))
      clear hSi hg lP lQ
      refine tk 5 (v := ?_) rfl (Or.inl ⟨by rfl, ?_⟩) ?_
      rotate_left
      · intro w9 hSw
        go_simp
        first | done | with_reducible rfl
      simp only [pP, pN, pS, pZ, pC]
      refine tk 6 (v := ?_) rfl (Or.inl ⟨by rfl, ?_⟩) ?_
      rotate_left
      · intro w9 hSw
        go_simp
        first | done | with_reducible rfl
      simp only [pP, pN, pS, pZ, pC]
      refine tk 7 (v := ?_) rfl (Or.inl ⟨by rfl, ?_⟩) ?_
      rotate_left
      · intro w9 hSw
        go_simp
        first | done | with_reducible rfl
      simp only [pP, pN, pS, pZ, pC]
      refine wpAnyH_ready (rs := [9]) (by kernel_rfl) (by simp) ?_
      refine cons' rfl (fun KK hKK => ?_)
      have z0 := qs.cell 0
      have z1 := qs.cell 1
      have z2 := qs.cell 2
      simp only [List.getElem?_toArray, List.getElem?_cons_zero, List.getElem?_cons_succ] at z0 z1 z2
      have fz := fun o => qs.frozen o
      obtain ⟨c9, q9⟩ := qs.set3 (.bool (ng P)) (.slice pa (ln (am P)) (ln (am P))) (.slice pb (ln Q) (ln Q))
      have hno := qs.no (by simp)
      replace hS0 := hS0.ch c9 hno
      replace hT0 := hT0.ch c9 hno
      replace hS1 := hS1.ch c9 hno
      replace hT1 := hT1.ch c9 hno
      replace k1 := k1.ch c9 hno
      replace k2 := k2.ch c9 hno
      replace k3 := k3.ch c9 hno
      replace k4 := k4.ch c9 hno
      replace kP := kP.ch c9 hno
      replace kQ := kQ.ch c9 hno
      replace bT := bT.trans (c9.below (by omega))
      have hH2 := (⟨(World.cell?_of_block (w := w16) (a := ⟨w.heap.size, 0, none⟩) (c9.other (w.heap.size) (by omega))).trans hHeld.1, (World.cell?_of_block (w := w16) (a := ⟨w.heap.size, 1, none⟩) (c9.other (w.heap.size) (by omega))).trans hHeld.2.1, (World.cell?_of_block (w := w16) (a := ⟨w.heap.size, 2, none⟩) (c9.other (w.heap.size) (by omega))).trans hHeld.2.2.1, (World.cell?_of_block (w := w16) (a := ⟨w.heap.size + 1, 0, none⟩) (c9.other (w.heap.size + 1) (by omega))).trans hHeld.2.2.2.1, (World.cell?_of_block (w := w16) (a := ⟨w.heap.size + 1, 1, none⟩) (c9.other (w.heap.size + 1) (by omega))).trans hHeld.2.2.2.2.1, (World.cell?_of_block (w := w16) (a := ⟨w.heap.size + 1, 2, none⟩) (c9.other (w.heap.size + 1) (by omega))).trans hHeld.2.2.2.2.2⟩ : _ ∧ _ ∧ _ ∧ _ ∧ _ ∧ _)
      go_simp
      clear z0 z1 z2 fz hno c9
      replace qs := q9
      refine hKK.out _ _ hH2 ?_
      clear hHeld
      intro hHeld
      clear hKK KK
      try simp only [pP, pN, pS, pZ, pC]
      clear hH2
      generalize (((w16.setCell ⟨cqs, 0, none⟩ (.bool (ng P))).setCell ⟨cqs, 1, none⟩ (.slice pa (ln (am P)) (ln (am P)))).setCell ⟨cqs, 2, none⟩ (.slice pb (ln Q) (ln Q))) = w17 at bT hS0 hT0 hS1 hT1 qs k1 k2 k3 k4 kP kQ hHeld ⊢
      refine tk 10 (v := ?_) rfl (Or.inl ⟨by rfl, ?_⟩) ?_
      rotate_left
      · intro w9 hSw
        go_simp
        first | done | with_reducible rfl
      simp only [pP, pN, pS, pZ, pC]
      refine wpAnyH_done (by kernel_rfl) ?_ _
      go_wp2_with fail
      go_meet
      exact ⟨_, cqs, P, Q, pa, pb, rfl, rfl, rfl, qs, kP, kQ, HF.out.1, HF.out.2.1, HF.out.2.2.1, HF.out.2.2.2, bT⟩
    exact AllReadyH.nil
  case rest =>
    obtain ⟨wc18, cs, P, Q, pa, pb, hwv, rfl, rfl, qs, kP, kQ, hSi, hg, lP, lQ, bT⟩ := hcut
    subst hwv
    replace hS0 := hS0.later bT
    replace hT0 := hT0.later bT
    replace hS1 := hS1.later bT
    replace hT1 := hT1.later bT
    replace qa := qa.later bT
    replace qb := qb.later bT
    replace GD := hide' (GD.out.below bT)
    replace bel := bel.trans (bT.mono bel.size)
    clear bT
    have hQ0 : 0 < Q := by have := hSi.q0; omega
    have HF := hide' (And.intro hSi hg)
    clear hSi hg
    clear G5 hbs
    clear GT0 GT1
    have qa_0 := qa.cell 0
    have qa_1 := qa.cell 1
    have qa_2 := qa.cell 2
    have qb_0 := qb.cell 0
    have qb_1 := qb.cell 1
    have qb_2 := qb.cell 2
    simp only [List.getElem?_toArray, List.getElem?_cons_zero, List.getElem?_cons_succ] at qa_0 qa_1 qa_2 qb_0 qb_1 qb_2
    go_wp2_with fail
    clear qa_0 qa_1 qa_2 qb_0 qb_1 qb_2
    refine (GV.out _ hS0 hT0 hS1 hT1).mono ?_
    rintro e w19 ⟨S, hS2, py, qy, rfl, b1, oy⟩
    have bb := b1
    replace hS0 := hS0.later bb
    replace hT0 := hT0.later bb
    replace hS1 := hS1.later bb
    replace hT1 := hT1.later bb
    replace qa := qa.later bb
    replace qb := qb.later bb
    replace kP := kP.later bb
    replace kQ := kQ.later bb
    replace qs := qs.later bb
    replace GD := hide' (GD.out.below bb)
    replace bel := bel.trans (bb.mono bel.size)
    clear bb
    clear b1
    have r0 := rd_pos Y0
    have r1 := rd_pos Y1
    obtain ⟨u1, u2⟩ := HF.out.1.uniq hS2 (by omega) (by omega)
    replace u2 : Q = S.den := by omega
    clear hS2 HF r0 r1
    subst u1
    subst u2
    have qs_0 := qs.cell 0
    have qs_1 := qs.cell 1
    have qs_2 := qs.cell 2
    simp only [List.getElem?_toArray, List.getElem?_cons_zero, List.getElem?_cons_succ] at qs_0 qs_1 qs_2
    have lqybqa := qa.lt
    have lqybqb := qb.lt
    have lqybqs := qs.lt
    have bb := below_alloc (w := w19) (.cells #[.bool (ng S.num), .slice py (ln (am S.num)) (ln (am S.num)), .slice qy (ln S.den) (ln S.den)] 27)
    replace hS0 := hS0.later bb
    replace hT0 := hT0.later bb
    replace hS1 := hS1.later bb
    replace hT1 := hT1.later bb
    replace qa := qa.later bb
    replace qb := qb.later bb
    replace kP := kP.later bb
    replace kQ := kQ.later bb
    replace qs := qs.later bb
    replace oy := oy.on bb
    replace GD := hide' (GD.out.below bb)
    replace bel := bel.trans (bb.mono bel.size)
    clear bb
    have qyb := Blk.new w19 #[.bool (ng S.num), .slice py (ln (am S.num)) (ln (am S.num)), .slice qy (ln S.den) (ln S.den)] 27
    go_wp2_with fail
    clear qs_0 qs_1 qs_2
    obtain ⟨wY, hW⟩ : ∃ W, (w19.alloc (.cells #[.bool (ng S.num), .slice py (ln (am S.num)) (ln (am S.num)), .slice qy (ln S.den) (ln S.den)] 27)) = W := ⟨_, rfl⟩
    rw [hW] at bel hS0 hT0 hS1 hT1 qa qb kP kQ qs qyb oy GD ⊢
    clear hW
    have GQ := hide' (fun w' k1 k2 k3 k4 => sameQ_is S.num S.den pa pb py qy w' (by omega) (by omega) k1 k2 k3 k4)
    refine (GQ.out _ kP kQ oy.1 oy.2.2.2.1).mono ?_
    rintro e w20 ⟨rfl, b1⟩
    have bb := b1
    replace hS0 := hS0.later bb
    replace hT0 := hT0.later bb
    replace hS1 := hS1.later bb
    replace hT1 := hT1.later bb
    replace qa := qa.later bb
    replace qb := qb.later bb
    replace kP := kP.later bb
    replace kQ := kQ.later bb
    replace qs := qs.later bb
    replace qyb := qyb.later bb
    replace oy := oy.on bb
    replace GD := hide' (GD.out.below bb)
    replace bel := bel.trans (bb.mono bel.size)
    clear bb
    clear b1
    go_wp2_with fail
    refine (half_is _ GD.out).mono ?_
    rintro e w21 ⟨rfl, b1⟩
    have bb := b1
    replace hS0 := hS0.later bb
    replace hT0 := hT0.later bb
    replace hS1 := hS1.later bb
    replace hT1 := hT1.later bb
    replace qa := qa.later bb
    replace qb := qb.later bb
    replace kP := kP.later bb
    replace kQ := kQ.later bb
    replace qs := qs.later bb
    replace qyb := qyb.later bb
    replace oy := oy.on bb
    replace GD := hide' (GD.out.below bb)
    replace bel := bel.trans (bb.mono bel.size)
    clear bb
    clear b1
    go_wp2
    go_ret
    exact ⟨rfl, bel⟩
set_option maxHeartbeats 8000000 in
set_option maxRecDepth 100000 in
theorem walk (s0 : Bool) (a0 : Option Addr) (n0 c0 X0 : Nat) (b0 : Option Addr) (m0 d0 Y0 : Nat) (s1 : Bool) (a1 : Option Addr) (n1 c1 X1 : Nat) (b1 : Option Addr) (m1 d1 Y1 : Nat) (w : World) (hc0 : n0 ≤ c0) (hm0 : n0 ≤ 35184372087808) (hS0 : Seg w a0 X0 n0) (hd0 : m0 ≤ d0) (hk0 : m0 ≤ 35184372087808) (hT0 : Seg w b0 Y0 m0) (hc1 : n1 ≤ c1) (hm1 : n1 ≤ 35184372087808) (hS1 : Seg w a1 X1 n1) (hd1 : m1 ≤ d1) (hk1 : m1 ≤ 35184372087808) (hT1 : Seg w b1 Y1 m1) (hDg : Digits w)  :
    Calls Tryz.prog 3 #[Value.agg #[Value.bool s0, Value.slice a0 n0 c0, Value.slice b0 m0 d0], Value.agg #[Value.bool s1, Value.slice a1 n1 c1, Value.slice b1 m1 d1]] w fun e w' => e = .returned (.bool true) ∧ Below w.heap.size w w' := by
  by_cases hlt : rn s0 X0 Y0 * ((rd Y1 : Nat) : Int) < rn s1 X1 Y1 * ((rd Y0 : Nat) : Int)
  · exact walkA s0 a0 n0 c0 X0 b0 m0 d0 Y0 s1 a1 n1 c1 X1 b1 m1 d1 Y1 w hc0 hm0 hS0 hd0 hk0 hT0 hc1 hm1 hS1 hd1 hk1 hT1 hDg rfl hlt
  · exact walkE s0 a0 n0 c0 X0 b0 m0 d0 Y0 s1 a1 n1 c1 X1 b1 m1 d1 Y1 w hc0 hm0 hS0 hd0 hk0 hT0 hc1 hm1 hS1 hd1 hk1 hT1 hDg rfl hlt
end Go.Proofs.YtejlnodillnoaaaGreatDoor.ratioBetween
