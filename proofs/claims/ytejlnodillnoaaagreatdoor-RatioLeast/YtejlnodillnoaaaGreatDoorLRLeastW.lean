/-
  RatioLeast: the walk.
-/
import Derived.Test.YtejlnodillnoaaaGreatDoorWSE
import Derived.Test.YtejlnodillnoaaaGreatDoorWQ9
import Derived.Test.YtejlnodillnoaaaGreatDoorWQ7
import Derived.Test.YtejlnodillnoaaaGreatDoorWQA
import Derived.Test.YtejlnodillnoaaaGreatDoorWH3
namespace Go.Proofs.YtejlnodillnoaaaGreatDoor.ratioLeast
open Go.ChangeShapes Go.WideShapes Go.ChangeAt Go.RowKit Go.Proofs.YtejlnodillnoaaaGreatDoor
set_option linter.unusedVariables false
set_option linter.unusedSimpArgs false
theorem cell_ltB {w : World} {c o : Nat} {v : Value} (h : w.cell? ⟨c, o, none⟩ = some v) : c < w.heap.size := World.block_lt_of_cell? w _ h
theorem sgn_neg {x : Int} (h : x < 0) : sgn x = -1 := by unfold sgn; rw [if_pos h]
theorem sgn_cases (x : Int) : (x < 0 ∧ sgn x = -1) ∨ (0 ≤ x ∧ (sgn x = 0 ∨ sgn x = 1)) := by
  unfold sgn
  split
  · exact Or.inl ⟨by assumption, rfl⟩
  · split
    · exact Or.inr ⟨by omega, Or.inl rfl⟩
    · exact Or.inr ⟨by omega, Or.inr rfl⟩
set_option maxHeartbeats 8000000 in
set_option maxRecDepth 100000 in
theorem walkE0 (s0 : Bool) (a0 : Option Addr) (n0 c0 X0 : Nat) (b0 : Option Addr) (m0 d0 Y0 : Nat) (s1 : Bool) (a1 : Option Addr) (n1 c1 X1 : Nat) (b1 : Option Addr) (m1 d1 Y1 : Nat) (s2 : Bool) (a2 : Option Addr) (n2 c2 X2 : Nat) (b2 : Option Addr) (m2 d2 Y2 : Nat) (w : World) (hc0 : n0 ≤ c0) (hm0 : n0 ≤ 35184372087808) (hS0 : Seg w a0 X0 n0) (hd0 : m0 ≤ d0) (hk0 : m0 ≤ 35184372087808) (hT0 : Seg w b0 Y0 m0) (hc1 : n1 ≤ c1) (hm1 : n1 ≤ 35184372087808) (hS1 : Seg w a1 X1 n1) (hd1 : m1 ≤ d1) (hk1 : m1 ≤ 35184372087808) (hT1 : Seg w b1 Y1 m1) (hc2 : n2 ≤ c2) (hm2 : n2 ≤ 35184372087808) (hS2 : Seg w a2 X2 n2) (hd2 : m2 ≤ d2) (hk2 : m2 ≤ 35184372087808) (hT2 : Seg w b2 Y2 m2) (hDg : Digits w) (hC : sgn (rn s0 X0 Y0 * ((rd Y1 : Nat) : Int) - rn s1 X1 Y1 * ((rd Y0 : Nat) : Int)) = 0) (hlt : ¬ rn s0 X0 Y0 * ((rd Y1 : Nat) : Int) < rn s1 X1 Y1 * ((rd Y0 : Nat) : Int)) :
    Calls Tryz.prog 4 #[Value.agg #[Value.bool s0, Value.slice a0 n0 c0, Value.slice b0 m0 d0], Value.agg #[Value.bool s1, Value.slice a1 n1 c1, Value.slice b1 m1 d1], Value.agg #[Value.bool s2, Value.slice a2 n2 c2, Value.slice b2 m2 d2]] w fun e w' => e = .returned (.bool true) ∧ Below w.heap.size w w' := by
  have GT0 := hide' (fun w' k1 k2 => ltwin_is s0 a0 n0 c0 X0 b0 m0 d0 Y0 w' hc0 (by omega) k1 hd0 (by omega) k2)
  have GT1 := hide' (fun w' k1 k2 => ltwin_is s1 a1 n1 c1 X1 b1 m1 d1 Y1 w' hc1 (by omega) k1 hd1 (by omega) k2)
  have G5 := hide' (fun w' p q p2 q2 (k1 : Seg w' p X0 n0) (k2 : Seg w' q Y0 m0) (k3 : Seg w' p2 X1 n1) (k4 : Seg w' q2 Y1 m1) => (Simplest_is s0 p n0 n0 X0 q m0 m0 Y0 s1 p2 n1 n1 X1 q2 m1 m1 Y1 w' (Nat.le_refl _) hm0 k1 (Nat.le_refl _) hk0 k2 (Nat.le_refl _) hm1 k3 (Nat.le_refl _) hk1 k4).mono (fun e w2 h => (show e = .returned (.tuple #[.agg #[.bool false, .slice none 0 0, .slice none 0 0], .int .i64 30]) ∧ Below w'.heap.size w' w2 by rcases h with ⟨_, h⟩ | ⟨h, _⟩ <;> first | exact h | omega)))
  have GC := hide' (fun w' p q p2 q2 (k1 : Seg w' p X0 n0) (k2 : Seg w' q Y0 m0) (k3 : Seg w' p2 X1 n1) (k4 : Seg w' q2 Y1 m1) => qCmp_is s0 p n0 n0 X0 q m0 m0 Y0 s1 p2 n1 n1 X1 q2 m1 m1 Y1 (0) w' (Nat.le_refl _) (by omega) k1 (Nat.le_refl _) (by omega) k2 (Nat.le_refl _) (by omega) k3 (Nat.le_refl _) (by omega) k4 hC)
  have GD := hide' hDg
  have HC := hide' hC
  have HL := hide' hlt
  clear hDg hC hlt
  have bel : Below w.heap.size w w := Below.refl _ _
  have bb := below_alloc (w := w) (.cells #[.bool s0, .slice a0 n0 c0, .slice b0 m0 d0] 27)
  replace hS0 := hS0.later bb
  replace hT0 := hT0.later bb
  replace hS1 := hS1.later bb
  replace hT1 := hT1.later bb
  replace hS2 := hS2.later bb
  replace hT2 := hT2.later bb
  replace GD := hide' (GD.out.below bb)
  replace bel := bel.trans (bb.mono bel.size)
  clear bb
  have qa := Blk.new w #[.bool s0, .slice a0 n0 c0, .slice b0 m0 d0] 27
  have bb := below_alloc (w := (w.alloc (.cells #[.bool s0, .slice a0 n0 c0, .slice b0 m0 d0] 27))) (.cells #[.bool s1, .slice a1 n1 c1, .slice b1 m1 d1] 27)
  replace hS0 := hS0.later bb
  replace hT0 := hT0.later bb
  replace hS1 := hS1.later bb
  replace hT1 := hT1.later bb
  replace hS2 := hS2.later bb
  replace hT2 := hT2.later bb
  replace qa := qa.later bb
  replace GD := hide' (GD.out.below bb)
  replace bel := bel.trans (bb.mono bel.size)
  clear bb
  have qb := Blk.new (w.alloc (.cells #[.bool s0, .slice a0 n0 c0, .slice b0 m0 d0] 27)) #[.bool s1, .slice a1 n1 c1, .slice b1 m1 d1] 27
  simp only [World.size_alloc] at qb
  have bb := below_alloc (w := ((w.alloc (.cells #[.bool s0, .slice a0 n0 c0, .slice b0 m0 d0] 27)).alloc (.cells #[.bool s1, .slice a1 n1 c1, .slice b1 m1 d1] 27))) (.cells #[.bool s2, .slice a2 n2 c2, .slice b2 m2 d2] 27)
  replace hS0 := hS0.later bb
  replace hT0 := hT0.later bb
  replace hS1 := hS1.later bb
  replace hT1 := hT1.later bb
  replace hS2 := hS2.later bb
  replace hT2 := hT2.later bb
  replace qa := qa.later bb
  replace qb := qb.later bb
  replace GD := hide' (GD.out.below bb)
  replace bel := bel.trans (bb.mono bel.size)
  clear bb
  have qc := Blk.new ((w.alloc (.cells #[.bool s0, .slice a0 n0 c0, .slice b0 m0 d0] 27)).alloc (.cells #[.bool s1, .slice a1 n1 c1, .slice b1 m1 d1] 27)) #[.bool s2, .slice a2 n2 c2, .slice b2 m2 d2] 27
  simp only [World.size_alloc] at qc
  go_enter Tryz.func4, Tryz.ntmps4
  go_wp2_with fail
  obtain ⟨W0, hW⟩ : ∃ W, (((w.alloc (.cells #[.bool s0, .slice a0 n0 c0, .slice b0 m0 d0] 27)).alloc (.cells #[.bool s1, .slice a1 n1 c1, .slice b1 m1 d1] 27)).alloc (.cells #[.bool s2, .slice a2 n2 c2, .slice b2 m2 d2] 27)) = W := ⟨_, rfl⟩
  rw [hW] at bel hS0 hT0 hS1 hT1 hS2 hT2 qa qb qc GD ⊢
  clear hW
  have hbs := bel.size
  have bT : Below W0.heap.size W0 W0 := Below.refl _ _
  go_cut [7, 8] from 11 to 18 (fun s7_ s8_ wx => ∃ wh9 cs, wh9 = wx ∧ s7_ = .pointer (some ⟨cs, 0, none⟩) ∧ s8_ = .int .i64 30 ∧ Blk wx cs #[.bool false, .slice none 0 0, .slice none 0 0] 27 ∧ Below W0.heap.size W0 wx)
  case first =>
    clear GD GC
    have qa_0 := qa.cell 0
    have qa_1 := qa.cell 1
    have qa_2 := qa.cell 2
    have qb_0 := qb.cell 0
    have qb_1 := qb.cell 1
    have qb_2 := qb.cell 2
    simp only [List.getElem?_toArray, List.getElem?_cons_zero, List.getElem?_cons_succ] at qa_0 qa_1 qa_2 qb_0 qb_1 qb_2
    have bD : Below W0.heap.size W0 W0.drew := (Below.refl _ _).drew
    have kqa_0 := below_cell bD qa_0
    have kqa_1 := below_cell bD qa_1
    have kqa_2 := below_cell bD qa_2
    have kqb_0 := below_cell bD qb_0
    have kqb_1 := below_cell bD qb_1
    have kqb_2 := below_cell bD qb_2
    replace bT := bT.trans (bD.mono bT.size)
    replace hS0 := hS0.later bD
    replace hT0 := hT0.later bD
    replace hS1 := hS1.later bD
    replace hT1 := hT1.later bD
    replace hS2 := hS2.later bD
    replace hT2 := hT2.later bD
    replace qa := qa.later bD
    replace qb := qb.later bD
    replace qc := qc.later bD
    refine wp_region_held_drew (S := fun w' => w'.cell? ⟨w.heap.size, 0, none⟩ = some (.bool s0) ∧ w'.cell? ⟨w.heap.size, 1, none⟩ = some (.slice a0 n0 c0) ∧ w'.cell? ⟨w.heap.size, 2, none⟩ = some (.slice b0 m0 d0) ∧ w'.cell? ⟨w.heap.size + 1, 0, none⟩ = some (.bool s1) ∧ w'.cell? ⟨w.heap.size + 1, 1, none⟩ = some (.slice a1 n1 c1) ∧ w'.cell? ⟨w.heap.size + 1, 2, none⟩ = some (.slice b1 m1 d1)) (by kernel_rfl) ⟨kqa_0, kqa_1, kqa_2, kqb_0, kqb_1, kqb_2⟩ (fun hHeld => ?_)
    clear kqa_0 kqa_1 kqa_2 kqb_0 kqb_1 kqb_2
    generalize W0.drew = w0F at bD hS0 hT0 hS1 hT1 hS2 hT2 qa qb qc bT hHeld ⊢
    clear bD qa_0 qa_1 qa_2 qb_0 qb_1 qb_2
    have lqa := qa.lt
    have lqb := qb.lt
    have lqc := qc.lt
    clear qa qb qc hS2 hT2
    refine take' 0 (v := ?_) rfl (by kernel_rfl) (by kernel_rfl) (by kernel_rfl) (fun _ _ _ h => h) (Or.inl ⟨by rfl, ?_⟩) (by assumption) ?_
    rotate_left
    · intro w9 hSw
      go_simp
      first | done | with_reducible rfl
    simp only [Act.put, List.setIfInBounds_toArray, List.set_cons_zero, List.set_cons_succ]
    refine take' 2 (v := ?_) rfl (by kernel_rfl) (by kernel_rfl) (by kernel_rfl) (fun _ _ _ h => h) (Or.inl ⟨by rfl, ?_⟩) (by assumption) ?_
    rotate_left
    · intro w9 hSw
      go_simp
      first | done | with_reducible rfl
    simp only [Act.put, List.setIfInBounds_toArray, List.set_cons_zero, List.set_cons_succ]
    refine wpAnyH_ready (rs := [1, 8]) (by kernel_rfl) (by simp) ?_
    refine consT rfl (fun KK hKK => ?_) ?_
    · skip
      go_simp
      refine (GT0.out _ hS0 hT0).mono ?_
      rintro e w1 ⟨p, q, rfl, n1, n2⟩
      have bC := n1.below
      replace bT := bT.trans (bC.mono bT.size)
      replace hS0 := hS0.later bC
      replace hT0 := hT0.later bC
      replace hS1 := hS1.later bC
      replace hT1 := hT1.later bC
      replace hHeld := (⟨below_cell bC hHeld.1, below_cell bC hHeld.2.1, below_cell bC hHeld.2.2.1, below_cell bC hHeld.2.2.2.1, below_cell bC hHeld.2.2.2.2.1, below_cell bC hHeld.2.2.2.2.2⟩ : _ ∧ _ ∧ _ ∧ _ ∧ _ ∧ _)
      clear bC
      go_wp2_with fail
      have k1 := n1.seg
      have k2 := n2.seg
      clear n1 n2
      refine hKK.out _ _ hHeld ?_
      clear hHeld
      intro hHeld
      clear hKK KK
      try simp only [Act.put, List.setIfInBounds_toArray, List.set_cons_zero, List.set_cons_succ]
      refine wpAnyH_ready (rs := [3, 8]) (by kernel_rfl) (by simp) ?_
      refine consT rfl (fun KK hKK => ?_) ?_
      · skip
        go_simp
        refine (GT1.out _ hS1 hT1).mono ?_
        rintro e w2 ⟨p2, q2, rfl, n1, n2⟩
        have bC := n1.below
        replace bT := bT.trans (bC.mono bT.size)
        replace hS0 := hS0.later bC
        replace hT0 := hT0.later bC
        replace hS1 := hS1.later bC
        replace hT1 := hT1.later bC
        replace k1 := k1.later bC
        replace k2 := k2.later bC
        replace hHeld := (⟨below_cell bC hHeld.1, below_cell bC hHeld.2.1, below_cell bC hHeld.2.2.1, below_cell bC hHeld.2.2.2.1, below_cell bC hHeld.2.2.2.2.1, below_cell bC hHeld.2.2.2.2.2⟩ : _ ∧ _ ∧ _ ∧ _ ∧ _ ∧ _)
        clear bC
        go_wp2_with fail
        have k3 := n1.seg
        have k4 := n2.seg
        clear n1 n2
        refine hKK.out _ _ hHeld ?_
        clear hHeld
        intro hHeld
        clear hKK KK
        try simp only [Act.put, List.setIfInBounds_toArray, List.set_cons_zero, List.set_cons_succ]
        refine wpAnyH_ready (rs := [4, 8]) (by kernel_rfl) (by simp) ?_
        refine consT rfl (fun KK hKK => ?_) ?_
        · skip
          go_simp
          refine (G5.out _ p q p2 q2 k1 k2 k3 k4).mono ?_
          rintro e w3 ⟨rfl, b5⟩
          have bC := b5
          replace bT := bT.trans (bC.mono bT.size)
          replace hS0 := hS0.later bC
          replace hT0 := hT0.later bC
          replace hS1 := hS1.later bC
          replace hT1 := hT1.later bC
          replace k1 := k1.later bC
          replace k2 := k2.later bC
          replace k3 := k3.later bC
          replace k4 := k4.later bC
          replace hHeld := (⟨below_cell bC hHeld.1, below_cell bC hHeld.2.1, below_cell bC hHeld.2.2.1, below_cell bC hHeld.2.2.2.1, below_cell bC hHeld.2.2.2.2.1, below_cell bC hHeld.2.2.2.2.2⟩ : _ ∧ _ ∧ _ ∧ _ ∧ _ ∧ _)
          clear bC
          go_wp2_with fail
          clear b5
          refine hKK.out _ _ hHeld ?_
          clear hHeld
          intro hHeld
          clear hKK KK
          try simp only [Act.put, List.setIfInBounds_toArray, List.set_cons_zero, List.set_cons_succ]
          refine take' 5 (v := ?_) rfl (by kernel_rfl) (by kernel_rfl) (by kernel_rfl) (fun _ _ _ h => h) (Or.inl ⟨by rfl, ?_⟩) (by assumption) ?_
          rotate_left
          · intro w9 hSw
            go_simp
            first | done | with_reducible rfl
          simp only [Act.put, List.setIfInBounds_toArray, List.set_cons_zero, List.set_cons_succ]
          refine take' 6 (v := ?_) rfl (by kernel_rfl) (by kernel_rfl) (by kernel_rfl) (fun _ _ _ h => h) (Or.inl ⟨by rfl, ?_⟩) (by assumption) ?_
          rotate_left
          · intro w9 hSw
            go_simp
            first | done | with_reducible rfl
          simp only [Act.put, List.setIfInBounds_toArray, List.set_cons_zero, List.set_cons_succ]
          refine take' 7 (v := ?_) rfl (by kernel_rfl) (by kernel_rfl) (by kernel_rfl) (fun _ _ _ h => h) (Or.inl ⟨by rfl, ?_⟩) (by assumption) ?_
          rotate_left
          · intro w9 hSw
            go_simp
            first | done | with_reducible rfl
          simp only [Act.put, List.setIfInBounds_toArray, List.set_cons_zero, List.set_cons_succ]
          refine wpAnyH_ready (rs := [8]) (by kernel_rfl) (by simp) ?_
          refine cons' rfl (fun KK hKK => ?_)
          go_simp
          have qs := Blk.new w3 #[.bool false, .slice none 0 0, .slice none 0 0] 27
          have bA := below_alloc (w := w3) (.cells #[.bool false, .slice none 0 0, .slice none 0 0] 27)
          have hqsge := bT.size
          have hqsc0 := cell_ltB hHeld.1
          have hqsc1 := cell_ltB hHeld.2.1
          have hqsc2 := cell_ltB hHeld.2.2.1
          have hqsc3 := cell_ltB hHeld.2.2.2.1
          have hqsc4 := cell_ltB hHeld.2.2.2.2.1
          have hqsc5 := cell_ltB hHeld.2.2.2.2.2
          generalize w3.alloc (.cells #[.bool false, .slice none 0 0, .slice none 0 0] 27) = w4 at qs bA ⊢
          replace bT := bT.trans (bA.mono bT.size)
          replace hS0 := hS0.later bA
          replace hT0 := hT0.later bA
          replace hS1 := hS1.later bA
          replace hT1 := hT1.later bA
          replace k1 := k1.later bA
          replace k2 := k2.later bA
          replace k3 := k3.later bA
          replace k4 := k4.later bA
          replace hHeld := (⟨below_cell bA hHeld.1, below_cell bA hHeld.2.1, below_cell bA hHeld.2.2.1, below_cell bA hHeld.2.2.2.1, below_cell bA hHeld.2.2.2.2.1, below_cell bA hHeld.2.2.2.2.2⟩ : _ ∧ _ ∧ _ ∧ _ ∧ _ ∧ _)
          clear bA
          refine hKK.out _ _ hHeld ?_
          clear hHeld
          intro hHeld
          clear hKK KK
          try simp only [Act.put, List.setIfInBounds_toArray, List.set_cons_zero, List.set_cons_succ]
          obtain ⟨cqs, hcc⟩ : ∃ cc, w3.heap.size = cc := ⟨_, rfl⟩
          rw [hcc] at qs hqsge hqsc0 hqsc1 hqsc2 hqsc3 hqsc4 hqsc5
          try rw [hcc]
          clear hcc
          refine wpAnyH_ready (rs := [9]) (by kernel_rfl) (by simp) ?_
          refine cons' rfl (fun KK hKK => ?_)
          have z0 := qs.cell 0
          have z1 := qs.cell 1
          have z2 := qs.cell 2
          simp only [List.getElem?_toArray, List.getElem?_cons_zero, List.getElem?_cons_succ] at z0 z1 z2
          have fz := fun o => qs.frozen o
          obtain ⟨c9, q9⟩ := qs.set3 (.bool false) (.slice none 0 0) (.slice none 0 0)
          have hno := qs.no (by simp)
          replace hS0 := hS0.ch c9 hno
          replace hT0 := hT0.ch c9 hno
          replace hS1 := hS1.ch c9 hno
          replace hT1 := hT1.ch c9 hno
          replace k1 := k1.ch c9 hno
          replace k2 := k2.ch c9 hno
          replace k3 := k3.ch c9 hno
          replace k4 := k4.ch c9 hno
          replace bT := bT.trans (c9.below (by omega))
          have hH2 := (⟨(World.cell?_of_block (w := w4) (a := ⟨w.heap.size, 0, none⟩) (c9.other (w.heap.size) (by omega))).trans hHeld.1, (World.cell?_of_block (w := w4) (a := ⟨w.heap.size, 1, none⟩) (c9.other (w.heap.size) (by omega))).trans hHeld.2.1, (World.cell?_of_block (w := w4) (a := ⟨w.heap.size, 2, none⟩) (c9.other (w.heap.size) (by omega))).trans hHeld.2.2.1, (World.cell?_of_block (w := w4) (a := ⟨w.heap.size + 1, 0, none⟩) (c9.other (w.heap.size + 1) (by omega))).trans hHeld.2.2.2.1, (World.cell?_of_block (w := w4) (a := ⟨w.heap.size + 1, 1, none⟩) (c9.other (w.heap.size + 1) (by omega))).trans hHeld.2.2.2.2.1, (World.cell?_of_block (w := w4) (a := ⟨w.heap.size + 1, 2, none⟩) (c9.other (w.heap.size + 1) (by omega))).trans hHeld.2.2.2.2.2⟩ : _ ∧ _ ∧ _ ∧ _ ∧ _ ∧ _)
          go_simp
          clear z0 z1 z2 fz hno c9
          replace qs := q9
          refine hKK.out _ _ hH2 ?_
          clear hHeld
          intro hHeld
          clear hKK KK
          try simp only [Act.put, List.setIfInBounds_toArray, List.set_cons_zero, List.set_cons_succ]
          clear hH2
          generalize (((w4.setCell ⟨cqs, 0, none⟩ (.bool false)).setCell ⟨cqs, 1, none⟩ (.slice none 0 0)).setCell ⟨cqs, 2, none⟩ (.slice none 0 0)) = w5 at bT hS0 hT0 hS1 hT1 k1 k2 k3 k4 qs hHeld ⊢
          refine take' 10 (v := ?_) rfl (by kernel_rfl) (by kernel_rfl) (by kernel_rfl) (fun _ _ _ h => h) (Or.inl ⟨by rfl, ?_⟩) (by assumption) ?_
          rotate_left
          · intro w9 hSw
            go_simp
            first | done | with_reducible rfl
          simp only [Act.put, List.setIfInBounds_toArray, List.set_cons_zero, List.set_cons_succ]
          refine wpAnyH_done (by kernel_rfl) ?_ _
          go_wp2_with fail
          go_meet
          exact ⟨_, cqs, rfl, rfl, rfl, qs, bT⟩
        refine consT rfl (fun KK hKK => ?_) ?_
        · skip
          go_simp
          have qs := Blk.new w2 #[.bool false, .slice none 0 0, .slice none 0 0] 27
          have bA := below_alloc (w := w2) (.cells #[.bool false, .slice none 0 0, .slice none 0 0] 27)
          have hqsge := bT.size
          have hqsc0 := cell_ltB hHeld.1
          have hqsc1 := cell_ltB hHeld.2.1
          have hqsc2 := cell_ltB hHeld.2.2.1
          have hqsc3 := cell_ltB hHeld.2.2.2.1
          have hqsc4 := cell_ltB hHeld.2.2.2.2.1
          have hqsc5 := cell_ltB hHeld.2.2.2.2.2
          generalize w2.alloc (.cells #[.bool false, .slice none 0 0, .slice none 0 0] 27) = w6 at qs bA ⊢
          replace bT := bT.trans (bA.mono bT.size)
          replace hS0 := hS0.later bA
          replace hT0 := hT0.later bA
          replace hS1 := hS1.later bA
          replace hT1 := hT1.later bA
          replace k1 := k1.later bA
          replace k2 := k2.later bA
          replace k3 := k3.later bA
          replace k4 := k4.later bA
          replace hHeld := (⟨below_cell bA hHeld.1, below_cell bA hHeld.2.1, below_cell bA hHeld.2.2.1, below_cell bA hHeld.2.2.2.1, below_cell bA hHeld.2.2.2.2.1, below_cell bA hHeld.2.2.2.2.2⟩ : _ ∧ _ ∧ _ ∧ _ ∧ _ ∧ _)
          clear bA
          refine hKK.out _ _ hHeld ?_
          clear hHeld
          intro hHeld
          clear hKK KK
          try simp only [Act.put, List.setIfInBounds_toArray, List.set_cons_zero, List.set_cons_succ]
          obtain ⟨cqs, hcc⟩ : ∃ cc, w2.heap.size = cc := ⟨_, rfl⟩
          rw [hcc] at qs hqsge hqsc0 hqsc1 hqsc2 hqsc3 hqsc4 hqsc5
          try rw [hcc]
          clear hcc
          refine wpAnyH_ready (rs := [4]) (by kernel_rfl) (by simp) ?_
          refine cons' rfl (fun KK hKK => ?_)
          go_simp
          refine (G5.out _ p q p2 q2 k1 k2 k3 k4).mono ?_
          rintro e w7 ⟨rfl, b5⟩
          have bC := b5
          replace bT := bT.trans (bC.mono bT.size)
          replace hS0 := hS0.later bC
          replace hT0 := hT0.later bC
          replace hS1 := hS1.later bC
          replace hT1 := hT1.later bC
          replace k1 := k1.later bC
          replace k2 := k2.later bC
          replace k3 := k3.later bC
          replace k4 := k4.later bC
          replace qs := qs.later bC
          replace hHeld := (⟨below_cell bC hHeld.1, below_cell bC hHeld.2.1, below_cell bC hHeld.2.2.1, below_cell bC hHeld.2.2.2.1, below_cell bC hHeld.2.2.2.2.1, below_cell bC hHeld.2.2.2.2.2⟩ : _ ∧ _ ∧ _ ∧ _ ∧ _ ∧ _)
          clear bC
          go_wp2_with fail
          clear b5
          refine hKK.out _ _ hHeld ?_
          clear hHeld
          intro hHeld
          clear hKK KK
          try simp only [Act.put, List.setIfInBounds_toArray, List.set_cons_zero, List.set_cons_succ]
          refine take' 5 (v := ?_) rfl (by kernel_rfl) (by kernel_rfl) (by kernel_rfl) (fun _ _ _ h => h) (Or.inl ⟨by rfl, ?_⟩) (by assumption) ?_
          rotate_left
          · intro w9 hSw
            go_simp
            first | done | with_reducible rfl
          simp only [Act.put, List.setIfInBounds_toArray, List.set_cons_zero, List.set_cons_succ]
          refine take' 6 (v := ?_) rfl (by kernel_rfl) (by kernel_rfl) (by kernel_rfl) (fun _ _ _ h => h) (Or.inl ⟨by rfl, ?_⟩) (by assumption) ?_
          rotate_left
          · intro w9 hSw
            go_simp
            first | done | with_reducible rfl
          simp only [Act.put, List.setIfInBounds_toArray, List.set_cons_zero, List.set_cons_succ]
          refine take' 7 (v := ?_) rfl (by kernel_rfl) (by kernel_rfl) (by kernel_rfl) (fun _ _ _ h => h) (Or.inl ⟨by rfl, ?_⟩) (by assumption) ?_
          rotate_left
          · intro w9 hSw
            go_simp
            first | done | with_reducible rfl
          simp only [Act.put, List.setIfInBounds_toArray, List.set_cons_zero, List.set_cons_succ]
          refine wpAnyH_ready (rs := [9]) (by kernel_rfl) (by simp) ?_
          refine cons' rfl (fun KK hKK => ?_)
          have z0 := qs.cell 0
          have z1 := qs.cell 1
          have z2 := qs.cell 2
          simp only [List.getElem?_toArray, List.getElem?_cons_zero, List.getElem?_cons_succ] at z0 z1 z2
          have fz := fun o => qs.frozen o
          obtain ⟨c9, q9⟩ := qs.set3 (.bool false) (.slice none 0 0) (.slice none 0 0)
          have hno := qs.no (by simp)
          replace hS0 := hS0.ch c9 hno
          replace hT0 := hT0.ch c9 hno
          replace hS1 := hS1.ch c9 hno
          replace hT1 := hT1.ch c9 hno
          replace k1 := k1.ch c9 hno
          replace k2 := k2.ch c9 hno
          replace k3 := k3.ch c9 hno
          replace k4 := k4.ch c9 hno
          replace bT := bT.trans (c9.below (by omega))
          have hH2 := (⟨(World.cell?_of_block (w := w7) (a := ⟨w.heap.size, 0, none⟩) (c9.other (w.heap.size) (by omega))).trans hHeld.1, (World.cell?_of_block (w := w7) (a := ⟨w.heap.size, 1, none⟩) (c9.other (w.heap.size) (by omega))).trans hHeld.2.1, (World.cell?_of_block (w := w7) (a := ⟨w.heap.size, 2, none⟩) (c9.other (w.heap.size) (by omega))).trans hHeld.2.2.1, (World.cell?_of_block (w := w7) (a := ⟨w.heap.size + 1, 0, none⟩) (c9.other (w.heap.size + 1) (by omega))).trans hHeld.2.2.2.1, (World.cell?_of_block (w := w7) (a := ⟨w.heap.size + 1, 1, none⟩) (c9.other (w.heap.size + 1) (by omega))).trans hHeld.2.2.2.2.1, (World.cell?_of_block (w := w7) (a := ⟨w.heap.size + 1, 2, none⟩) (c9.other (w.heap.size + 1) (by omega))).trans hHeld.2.2.2.2.2⟩ : _ ∧ _ ∧ _ ∧ _ ∧ _ ∧ _)
          go_simp
          clear z0 z1 z2 fz hno c9
          replace qs := q9
          refine hKK.out _ _ hH2 ?_
          clear hHeld
          intro hHeld
          clear hKK KK
          try simp only [Act.put, List.setIfInBounds_toArray, List.set_cons_zero, List.set_cons_succ]
          clear hH2
          generalize (((w7.setCell ⟨cqs, 0, none⟩ (.bool false)).setCell ⟨cqs, 1, none⟩ (.slice none 0 0)).setCell ⟨cqs, 2, none⟩ (.slice none 0 0)) = w8 at bT hS0 hT0 hS1 hT1 k1 k2 k3 k4 qs hHeld ⊢
          refine take' 10 (v := ?_) rfl (by kernel_rfl) (by kernel_rfl) (by kernel_rfl) (fun _ _ _ h => h) (Or.inl ⟨by rfl, ?_⟩) (by assumption) ?_
          rotate_left
          · intro w9 hSw
            go_simp
            first | done | with_reducible rfl
          simp only [Act.put, List.setIfInBounds_toArray, List.set_cons_zero, List.set_cons_succ]
          refine wpAnyH_done (by kernel_rfl) ?_ _
          go_wp2_with fail
          go_meet
          exact ⟨_, cqs, rfl, rfl, rfl, qs, bT⟩
        exact AllReadyH.nil
      refine consT rfl (fun KK hKK => ?_) ?_
      · skip
        go_simp
        have qs := Blk.new w1 #[.bool false, .slice none 0 0, .slice none 0 0] 27
        have bA := below_alloc (w := w1) (.cells #[.bool false, .slice none 0 0, .slice none 0 0] 27)
        have hqsge := bT.size
        have hqsc0 := cell_ltB hHeld.1
        have hqsc1 := cell_ltB hHeld.2.1
        have hqsc2 := cell_ltB hHeld.2.2.1
        have hqsc3 := cell_ltB hHeld.2.2.2.1
        have hqsc4 := cell_ltB hHeld.2.2.2.2.1
        have hqsc5 := cell_ltB hHeld.2.2.2.2.2
        generalize w1.alloc (.cells #[.bool false, .slice none 0 0, .slice none 0 0] 27) = w9 at qs bA ⊢
        replace bT := bT.trans (bA.mono bT.size)
        replace hS0 := hS0.later bA
        replace hT0 := hT0.later bA
        replace hS1 := hS1.later bA
        replace hT1 := hT1.later bA
        replace k1 := k1.later bA
        replace k2 := k2.later bA
        replace hHeld := (⟨below_cell bA hHeld.1, below_cell bA hHeld.2.1, below_cell bA hHeld.2.2.1, below_cell bA hHeld.2.2.2.1, below_cell bA hHeld.2.2.2.2.1, below_cell bA hHeld.2.2.2.2.2⟩ : _ ∧ _ ∧ _ ∧ _ ∧ _ ∧ _)
        clear bA
        refine hKK.out _ _ hHeld ?_
        clear hHeld
        intro hHeld
        clear hKK KK
        try simp only [Act.put, List.setIfInBounds_toArray, List.set_cons_zero, List.set_cons_succ]
        obtain ⟨cqs, hcc⟩ : ∃ cc, w1.heap.size = cc := ⟨_, rfl⟩
        rw [hcc] at qs hqsge hqsc0 hqsc1 hqsc2 hqsc3 hqsc4 hqsc5
        try rw [hcc]
        clear hcc
        refine wpAnyH_ready (rs := [3]) (by kernel_rfl) (by simp) ?_
        refine cons' rfl (fun KK hKK => ?_)
        go_simp
        refine (GT1.out _ hS1 hT1).mono ?_
        rintro e w10 ⟨p2, q2, rfl, n1, n2⟩
        have bC := n1.below
        replace bT := bT.trans (bC.mono bT.size)
        replace hS0 := hS0.later bC
        replace hT0 := hT0.later bC
        replace hS1 := hS1.later bC
        replace hT1 := hT1.later bC
        replace k1 := k1.later bC
        replace k2 := k2.later bC
        replace qs := qs.later bC
        replace hHeld := (⟨below_cell bC hHeld.1, below_cell bC hHeld.2.1, below_cell bC hHeld.2.2.1, below_cell bC hHeld.2.2.2.1, below_cell bC hHeld.2.2.2.2.1, below_cell bC hHeld.2.2.2.2.2⟩ : _ ∧ _ ∧ _ ∧ _ ∧ _ ∧ _)
        clear bC
        go_wp2_with fail
        have k3 := n1.seg
        have k4 := n2.seg
        clear n1 n2
        refine hKK.out _ _ hHeld ?_
        clear hHeld
        intro hHeld
        clear hKK KK
        try simp only [Act.put, List.setIfInBounds_toArray, List.set_cons_zero, List.set_cons_succ]
        refine wpAnyH_ready (rs := [4]) (by kernel_rfl) (by simp) ?_
        refine cons' rfl (fun KK hKK => ?_)
        go_simp
        refine (G5.out _ p q p2 q2 k1 k2 k3 k4).mono ?_
        rintro e w11 ⟨rfl, b5⟩
        have bC := b5
        replace bT := bT.trans (bC.mono bT.size)
        replace hS0 := hS0.later bC
        replace hT0 := hT0.later bC
        replace hS1 := hS1.later bC
        replace hT1 := hT1.later bC
        replace k1 := k1.later bC
        replace k2 := k2.later bC
        replace qs := qs.later bC
        replace k3 := k3.later bC
        replace k4 := k4.later bC
        replace hHeld := (⟨below_cell bC hHeld.1, below_cell bC hHeld.2.1, below_cell bC hHeld.2.2.1, below_cell bC hHeld.2.2.2.1, below_cell bC hHeld.2.2.2.2.1, below_cell bC hHeld.2.2.2.2.2⟩ : _ ∧ _ ∧ _ ∧ _ ∧ _ ∧ _)
        clear bC
        go_wp2_with fail
        clear b5
        refine hKK.out _ _ hHeld ?_
        clear hHeld
        intro hHeld
        clear hKK KK
        try simp only [Act.put, List.setIfInBounds_toArray, List.set_cons_zero, List.set_cons_succ]
        refine take' 5 (v := ?_) rfl (by kernel_rfl) (by kernel_rfl) (by kernel_rfl) (fun _ _ _ h => h) (Or.inl ⟨by rfl, ?_⟩) (by assumption) ?_
        rotate_left
        · intro w9 hSw
          go_simp
          first | done | with_reducible rfl
        simp only [Act.put, List.setIfInBounds_toArray, List.set_cons_zero, List.set_cons_succ]
        refine take' 6 (v := ?_) rfl (by kernel_rfl) (by kernel_rfl) (by kernel_rfl) (fun _ _ _ h => h) (Or.inl ⟨by rfl, ?_⟩) (by assumption) ?_
        rotate_left
        · intro w9 hSw
          go_simp
          first | done | with_reducible rfl
        simp only [Act.put, List.setIfInBounds_toArray, List.set_cons_zero, List.set_cons_succ]
        refine take' 7 (v := ?_) rfl (by kernel_rfl) (by kernel_rfl) (by kernel_rfl) (fun _ _ _ h => h) (Or.inl ⟨by rfl, ?_⟩) (by assumption) ?_
        rotate_left
        · intro w9 hSw
          go_simp
          first | done | with_reducible rfl
        simp only [Act.put, List.setIfInBounds_toArray, List.set_cons_zero, List.set_cons_succ]
        refine wpAnyH_ready (rs := [9]) (by kernel_rfl) (by simp) ?_
        refine cons' rfl (fun KK hKK => ?_)
        have z0 := qs.cell 0
        have z1 := qs.cell 1
        have z2 := qs.cell 2
        simp only [List.getElem?_toArray, List.getElem?_cons_zero, List.getElem?_cons_succ] at z0 z1 z2
        have fz := fun o => qs.frozen o
        obtain ⟨c9, q9⟩ := qs.set3 (.bool false) (.slice none 0 0) (.slice none 0 0)
        have hno := qs.no (by simp)
        replace hS0 := hS0.ch c9 hno
        replace hT0 := hT0.ch c9 hno
        replace hS1 := hS1.ch c9 hno
        replace hT1 := hT1.ch c9 hno
        replace k1 := k1.ch c9 hno
        replace k2 := k2.ch c9 hno
        replace k3 := k3.ch c9 hno
        replace k4 := k4.ch c9 hno
        replace bT := bT.trans (c9.below (by omega))
        have hH2 := (⟨(World.cell?_of_block (w := w11) (a := ⟨w.heap.size, 0, none⟩) (c9.other (w.heap.size) (by omega))).trans hHeld.1, (World.cell?_of_block (w := w11) (a := ⟨w.heap.size, 1, none⟩) (c9.other (w.heap.size) (by omega))).trans hHeld.2.1, (World.cell?_of_block (w := w11) (a := ⟨w.heap.size, 2, none⟩) (c9.other (w.heap.size) (by omega))).trans hHeld.2.2.1, (World.cell?_of_block (w := w11) (a := ⟨w.heap.size + 1, 0, none⟩) (c9.other (w.heap.size + 1) (by omega))).trans hHeld.2.2.2.1, (World.cell?_of_block (w := w11) (a := ⟨w.heap.size + 1, 1, none⟩) (c9.other (w.heap.size + 1) (by omega))).trans hHeld.2.2.2.2.1, (World.cell?_of_block (w := w11) (a := ⟨w.heap.size + 1, 2, none⟩) (c9.other (w.heap.size + 1) (by omega))).trans hHeld.2.2.2.2.2⟩ : _ ∧ _ ∧ _ ∧ _ ∧ _ ∧ _)
        go_simp
        clear z0 z1 z2 fz hno c9
        replace qs := q9
        refine hKK.out _ _ hH2 ?_
        clear hHeld
        intro hHeld
        clear hKK KK
        try simp only [Act.put, List.setIfInBounds_toArray, List.set_cons_zero, List.set_cons_succ]
        clear hH2
        generalize (((w11.setCell ⟨cqs, 0, none⟩ (.bool false)).setCell ⟨cqs, 1, none⟩ (.slice none 0 0)).setCell ⟨cqs, 2, none⟩ (.slice none 0 0)) = w12 at bT hS0 hT0 hS1 hT1 k1 k2 qs k3 k4 hHeld ⊢
        refine take' 10 (v := ?_) rfl (by kernel_rfl) (by kernel_rfl) (by kernel_rfl) (fun _ _ _ h => h) (Or.inl ⟨by rfl, ?_⟩) (by assumption) ?_
        rotate_left
        · intro w9 hSw
          go_simp
          first | done | with_reducible rfl
        simp only [Act.put, List.setIfInBounds_toArray, List.set_cons_zero, List.set_cons_succ]
        refine wpAnyH_done (by kernel_rfl) ?_ _
        go_wp2_with fail
        go_meet
        exact ⟨_, cqs, rfl, rfl, rfl, qs, bT⟩
      exact AllReadyH.nil
    refine consT rfl (fun KK hKK => ?_) ?_
    · skip
      go_simp
      have qs := Blk.new w0F #[.bool false, .slice none 0 0, .slice none 0 0] 27
      have bA := below_alloc (w := w0F) (.cells #[.bool false, .slice none 0 0, .slice none 0 0] 27)
      have hqsge := bT.size
      have hqsc0 := cell_ltB hHeld.1
      have hqsc1 := cell_ltB hHeld.2.1
      have hqsc2 := cell_ltB hHeld.2.2.1
      have hqsc3 := cell_ltB hHeld.2.2.2.1
      have hqsc4 := cell_ltB hHeld.2.2.2.2.1
      have hqsc5 := cell_ltB hHeld.2.2.2.2.2
      generalize w0F.alloc (.cells #[.bool false, .slice none 0 0, .slice none 0 0] 27) = w13 at qs bA ⊢
      replace bT := bT.trans (bA.mono bT.size)
      replace hS0 := hS0.later bA
      replace hT0 := hT0.later bA
      replace hS1 := hS1.later bA
      replace hT1 := hT1.later bA
      replace hHeld := (⟨below_cell bA hHeld.1, below_cell bA hHeld.2.1, below_cell bA hHeld.2.2.1, below_cell bA hHeld.2.2.2.1, below_cell bA hHeld.2.2.2.2.1, below_cell bA hHeld.2.2.2.2.2⟩ : _ ∧ _ ∧ _ ∧ _ ∧ _ ∧ _)
      clear bA
      refine hKK.out _ _ hHeld ?_
      clear hHeld
      intro hHeld
      clear hKK KK
      try simp only [Act.put, List.setIfInBounds_toArray, List.set_cons_zero, List.set_cons_succ]
      obtain ⟨cqs, hcc⟩ : ∃ cc, w0F.heap.size = cc := ⟨_, rfl⟩
      rw [hcc] at qs hqsge hqsc0 hqsc1 hqsc2 hqsc3 hqsc4 hqsc5
      try rw [hcc]
      clear hcc
      refine wpAnyH_ready (rs := [1]) (by kernel_rfl) (by simp) ?_
      refine cons' rfl (fun KK hKK => ?_)
      go_simp
      refine (GT0.out _ hS0 hT0).mono ?_
      rintro e w14 ⟨p, q, rfl, n1, n2⟩
      have bC := n1.below
      replace bT := bT.trans (bC.mono bT.size)
      replace hS0 := hS0.later bC
      replace hT0 := hT0.later bC
      replace hS1 := hS1.later bC
      replace hT1 := hT1.later bC
      replace qs := qs.later bC
      replace hHeld := (⟨below_cell bC hHeld.1, below_cell bC hHeld.2.1, below_cell bC hHeld.2.2.1, below_cell bC hHeld.2.2.2.1, below_cell bC hHeld.2.2.2.2.1, below_cell bC hHeld.2.2.2.2.2⟩ : _ ∧ _ ∧ _ ∧ _ ∧ _ ∧ _)
      clear bC
      go_wp2_with fail
      have k1 := n1.seg
      have k2 := n2.seg
      clear n1 n2
      refine hKK.out _ _ hHeld ?_
      clear hHeld
      intro hHeld
      clear hKK KK
      try simp only [Act.put, List.setIfInBounds_toArray, List.set_cons_zero, List.set_cons_succ]
      refine wpAnyH_ready (rs := [3]) (by kernel_rfl) (by simp) ?_
      refine cons' rfl (fun KK hKK => ?_)
      go_simp
      refine (GT1.out _ hS1 hT1).mono ?_
      rintro e w15 ⟨p2, q2, rfl, n1, n2⟩
      have bC := n1.below
      replace bT := bT.trans (bC.mono bT.size)
      replace hS0 := hS0.later bC
      replace hT0 := hT0.later bC
      replace hS1 := hS1.later bC
      replace hT1 := hT1.later bC
      replace qs := qs.later bC
      replace k1 := k1.later bC
      replace k2 := k2.later bC
      replace hHeld := (⟨below_cell bC hHeld.1, below_cell bC hHeld.2.1, below_cell bC hHeld.2.2.1, below_cell bC hHeld.2.2.2.1, below_cell bC hHeld.2.2.2.2.1, below_cell bC hHeld.2.2.2.2.2⟩ : _ ∧ _ ∧ _ ∧ _ ∧ _ ∧ _)
      clear bC
      go_wp2_with fail
      have k3 := n1.seg
      have k4 := n2.seg
      clear n1 n2
      refine hKK.out _ _ hHeld ?_
      clear hHeld
      intro hHeld
      clear hKK KK
      try simp only [Act.put, List.setIfInBounds_toArray, List.set_cons_zero, List.set_cons_succ]
      refine wpAnyH_ready (rs := [4]) (by kernel_rfl) (by simp) ?_
      refine cons' rfl (fun KK hKK => ?_)
      go_simp
      refine (G5.out _ p q p2 q2 k1 k2 k3 k4).mono ?_
      rintro e w16 ⟨rfl, b5⟩
      have bC := b5
      replace bT := bT.trans (bC.mono bT.size)
      replace hS0 := hS0.later bC
      replace hT0 := hT0.later bC
      replace hS1 := hS1.later bC
      replace hT1 := hT1.later bC
      replace qs := qs.later bC
      replace k1 := k1.later bC
      replace k2 := k2.later bC
      replace k3 := k3.later bC
      replace k4 := k4.later bC
      replace hHeld := (⟨below_cell bC hHeld.1, below_cell bC hHeld.2.1, below_cell bC hHeld.2.2.1, below_cell bC hHeld.2.2.2.1, below_cell bC hHeld.2.2.2.2.1, below_cell bC hHeld.2.2.2.2.2⟩ : _ ∧ _ ∧ _ ∧ _ ∧ _ ∧ _)
      clear bC
      go_wp2_with fail
      clear b5
      refine hKK.out _ _ hHeld ?_
      clear hHeld
      intro hHeld
      clear hKK KK
      try simp only [Act.put, List.setIfInBounds_toArray, List.set_cons_zero, List.set_cons_succ]
      refine take' 5 (v := ?_) rfl (by kernel_rfl) (by kernel_rfl) (by kernel_rfl) (fun _ _ _ h => h) (Or.inl ⟨by rfl, ?_⟩) (by assumption) ?_
      rotate_left
      · intro w9 hSw
        go_simp
        first | done | with_reducible rfl
      simp only [Act.put, List.setIfInBounds_toArray, List.set_cons_zero, List.set_cons_succ]
      refine take' 6 (v := ?_) rfl (by kernel_rfl) (by kernel_rfl) (by kernel_rfl) (fun _ _ _ h => h) (Or.inl ⟨by rfl, ?_⟩) (by assumption) ?_
      rotate_left
      · intro w9 hSw
        go_simp
        first | done | with_reducible rfl
      simp only [Act.put, List.setIfInBounds_toArray, List.set_cons_zero, List.set_cons_succ]
      refine take' 7 (v := ?_) rfl (by kernel_rfl) (by kernel_rfl) (by kernel_rfl) (fun _ _ _ h => h) (Or.inl ⟨by rfl, ?_⟩) (by assumption) ?_
      rotate_left
      · intro w9 hSw
        go_simp
        first | done | with_reducible rfl
      simp only [Act.put, List.setIfInBounds_toArray, List.set_cons_zero, List.set_cons_succ]
      refine wpAnyH_ready (rs := [9]) (by kernel_rfl) (by simp) ?_
      refine cons' rfl (fun KK hKK => ?_)
      have z0 := qs.cell 0
      have z1 := qs.cell 1
      have z2 := qs.cell 2
      simp only [List.getElem?_toArray, List.getElem?_cons_zero, List.getElem?_cons_succ] at z0 z1 z2
      have fz := fun o => qs.frozen o
      obtain ⟨c9, q9⟩ := qs.set3 (.bool false) (.slice none 0 0) (.slice none 0 0)
      have hno := qs.no (by simp)
      replace hS0 := hS0.ch c9 hno
      replace hT0 := hT0.ch c9 hno
      replace hS1 := hS1.ch c9 hno
      replace hT1 := hT1.ch c9 hno
      replace k1 := k1.ch c9 hno
      replace k2 := k2.ch c9 hno
      replace k3 := k3.ch c9 hno
      replace k4 := k4.ch c9 hno
      replace bT := bT.trans (c9.below (by omega))
      have hH2 := (⟨(World.cell?_of_block (w := w16) (a := ⟨w.heap.size, 0, none⟩) (c9.other (w.heap.size) (by omega))).trans hHeld.1, (World.cell?_of_block (w := w16) (a := ⟨w.heap.size, 1, none⟩) (c9.other (w.heap.size) (by omega))).trans hHeld.2.1, (World.cell?_of_block (w := w16) (a := ⟨w.heap.size, 2, none⟩) (c9.other (w.heap.size) (by omega))).trans hHeld.2.2.1, (World.cell?_of_block (w := w16) (a := ⟨w.heap.size + 1, 0, none⟩) (c9.other (w.heap.size + 1) (by omega))).trans hHeld.2.2.2.1, (World.cell?_of_block (w := w16) (a := ⟨w.heap.size + 1, 1, none⟩) (c9.other (w.heap.size + 1) (by omega))).trans hHeld.2.2.2.2.1, (World.cell?_of_block (w := w16) (a := ⟨w.heap.size + 1, 2, none⟩) (c9.other (w.heap.size + 1) (by omega))).trans hHeld.2.2.2.2.2⟩ : _ ∧ _ ∧ _ ∧ _ ∧ _ ∧ _)
      go_simp
      clear z0 z1 z2 fz hno c9
      replace qs := q9
      refine hKK.out _ _ hH2 ?_
      clear hHeld
      intro hHeld
      clear hKK KK
      try simp only [Act.put, List.setIfInBounds_toArray, List.set_cons_zero, List.set_cons_succ]
      clear hH2
      generalize (((w16.setCell ⟨cqs, 0, none⟩ (.bool false)).setCell ⟨cqs, 1, none⟩ (.slice none 0 0)).setCell ⟨cqs, 2, none⟩ (.slice none 0 0)) = w17 at bT hS0 hT0 hS1 hT1 qs k1 k2 k3 k4 hHeld ⊢
      refine take' 10 (v := ?_) rfl (by kernel_rfl) (by kernel_rfl) (by kernel_rfl) (fun _ _ _ h => h) (Or.inl ⟨by rfl, ?_⟩) (by assumption) ?_
      rotate_left
      · intro w9 hSw
        go_simp
        first | done | with_reducible rfl
      simp only [Act.put, List.setIfInBounds_toArray, List.set_cons_zero, List.set_cons_succ]
      refine wpAnyH_done (by kernel_rfl) ?_ _
      go_wp2_with fail
      go_meet
      exact ⟨_, cqs, rfl, rfl, rfl, qs, bT⟩
    exact AllReadyH.nil
  case rest =>
    obtain ⟨wc18, cs, hwv, rfl, rfl, qs, bT⟩ := hcut
    subst hwv
    replace hS0 := hS0.later bT
    replace hT0 := hT0.later bT
    replace hS1 := hS1.later bT
    replace hT1 := hT1.later bT
    replace hS2 := hS2.later bT
    replace hT2 := hT2.later bT
    replace qa := qa.later bT
    replace qb := qb.later bT
    replace qc := qc.later bT
    replace GD := hide' (GD.out.below bT)
    replace bel := bel.trans (bT.mono bel.size)
    clear bT
    clear G5 hbs
    go_upto_region 2 with fail
    have qa_0 := qa.cell 0
    have qa_1 := qa.cell 1
    have qa_2 := qa.cell 2
    have qb_0 := qb.cell 0
    have qb_1 := qb.cell 1
    have qb_2 := qb.cell 2
    simp only [List.getElem?_toArray, List.getElem?_cons_zero, List.getElem?_cons_succ] at qa_0 qa_1 qa_2 qb_0 qb_1 qb_2
    have bD : Below wc18.heap.size wc18 wc18.drew := (Below.refl _ _).drew
    have kqa_0 := below_cell bD qa_0
    have kqa_1 := below_cell bD qa_1
    have kqa_2 := below_cell bD qa_2
    have kqb_0 := below_cell bD qb_0
    have kqb_1 := below_cell bD qb_1
    have kqb_2 := below_cell bD qb_2
    replace GD := hide' (GD.out.below bD)
    replace bel := bel.trans (bD.mono bel.size)
    replace hS0 := hS0.later bD
    replace hT0 := hT0.later bD
    replace hS1 := hS1.later bD
    replace hT1 := hT1.later bD
    replace hS2 := hS2.later bD
    replace hT2 := hT2.later bD
    replace qa := qa.later bD
    replace qb := qb.later bD
    replace qc := qc.later bD
    replace qs := qs.later bD
    refine wp_region_held_drew (S := fun w' => w'.cell? ⟨w.heap.size, 0, none⟩ = some (.bool s0) ∧ w'.cell? ⟨w.heap.size, 1, none⟩ = some (.slice a0 n0 c0) ∧ w'.cell? ⟨w.heap.size, 2, none⟩ = some (.slice b0 m0 d0) ∧ w'.cell? ⟨w.heap.size + 1, 0, none⟩ = some (.bool s1) ∧ w'.cell? ⟨w.heap.size + 1, 1, none⟩ = some (.slice a1 n1 c1) ∧ w'.cell? ⟨w.heap.size + 1, 2, none⟩ = some (.slice b1 m1 d1)) (by kernel_rfl) ⟨kqa_0, kqa_1, kqa_2, kqb_0, kqb_1, kqb_2⟩ (fun hHeld => ?_)
    clear kqa_0 kqa_1 kqa_2 kqb_0 kqb_1 kqb_2
    generalize wc18.drew = w0G at bD GD hS0 hT0 hS1 hT1 hS2 hT2 qa qb qc qs bel hHeld ⊢
    clear bD qa_0 qa_1 qa_2 qb_0 qb_1 qb_2
    refine take' 0 (v := ?_) rfl (by kernel_rfl) (by kernel_rfl) (by kernel_rfl) (fun _ _ _ h => h) (Or.inl ⟨by rfl, ?_⟩) (by assumption) ?_
    rotate_left
    · intro w9 hSw
      go_simp
      first | done | with_reducible rfl
    simp only [Act.put, List.setIfInBounds_toArray, List.set_cons_zero, List.set_cons_succ]
    refine take' 1 (v := ?_) rfl (by kernel_rfl) (by kernel_rfl) (by kernel_rfl) (fun _ _ _ h => h) (Or.inl ⟨by rfl, ?_⟩) (by assumption) ?_
    rotate_left
    · intro w9 hSw
      go_simp
      first | done | with_reducible rfl
    simp only [Act.put, List.setIfInBounds_toArray, List.set_cons_zero, List.set_cons_succ]
    refine take' 2 (v := ?_) rfl (by kernel_rfl) (by kernel_rfl) (by kernel_rfl) (fun _ _ _ h => h) (Or.inl ⟨by rfl, ?_⟩) (by assumption) ?_
    rotate_left
    · intro w9 hSw
      go_simp
      first | done | with_reducible rfl
    simp only [Act.put, List.setIfInBounds_toArray, List.set_cons_zero, List.set_cons_succ]
    refine take' 4 (v := ?_) rfl (by kernel_rfl) (by kernel_rfl) (by kernel_rfl) (fun _ _ _ h => h) (Or.inl ⟨by rfl, ?_⟩) (by assumption) ?_
    rotate_left
    · intro w9 hSw
      go_simp
      first | done | with_reducible rfl
    simp only [Act.put, List.setIfInBounds_toArray, List.set_cons_zero, List.set_cons_succ]
    refine wpAnyH_ready (rs := [3]) (by kernel_rfl) (by simp) ?_
    refine cons' rfl (fun KK hKK => ?_)
    go_simp
    refine (GT0.out _ hS0 hT0).mono ?_
    rintro e w19 ⟨p, q, rfl, n1, n2⟩
    have bC := n1.below
    replace GD := hide' (GD.out.below bC)
    replace bel := bel.trans (bC.mono bel.size)
    replace hS0 := hS0.later bC
    replace hT0 := hT0.later bC
    replace hS1 := hS1.later bC
    replace hT1 := hT1.later bC
    replace hS2 := hS2.later bC
    replace hT2 := hT2.later bC
    replace qa := qa.later bC
    replace qb := qb.later bC
    replace qc := qc.later bC
    replace qs := qs.later bC
    replace hHeld := (⟨below_cell bC hHeld.1, below_cell bC hHeld.2.1, below_cell bC hHeld.2.2.1, below_cell bC hHeld.2.2.2.1, below_cell bC hHeld.2.2.2.2.1, below_cell bC hHeld.2.2.2.2.2⟩ : _ ∧ _ ∧ _ ∧ _ ∧ _ ∧ _)
    clear bC
    go_wp2_with fail
    have k1 := n1.seg
    have k2 := n2.seg
    clear n1 n2
    refine hKK.out _ _ hHeld ?_
    clear hHeld
    intro hHeld
    clear hKK KK
    try simp only [Act.put, List.setIfInBounds_toArray, List.set_cons_zero, List.set_cons_succ]
    refine wpAnyH_ready (rs := [5]) (by kernel_rfl) (by simp) ?_
    refine cons' rfl (fun KK hKK => ?_)
    go_simp
    refine (GT1.out _ hS1 hT1).mono ?_
    rintro e w20 ⟨p2, q2, rfl, n1, n2⟩
    have bC := n1.below
    replace GD := hide' (GD.out.below bC)
    replace bel := bel.trans (bC.mono bel.size)
    replace hS0 := hS0.later bC
    replace hT0 := hT0.later bC
    replace hS1 := hS1.later bC
    replace hT1 := hT1.later bC
    replace hS2 := hS2.later bC
    replace hT2 := hT2.later bC
    replace qa := qa.later bC
    replace qb := qb.later bC
    replace qc := qc.later bC
    replace qs := qs.later bC
    replace k1 := k1.later bC
    replace k2 := k2.later bC
    replace hHeld := (⟨below_cell bC hHeld.1, below_cell bC hHeld.2.1, below_cell bC hHeld.2.2.1, below_cell bC hHeld.2.2.2.1, below_cell bC hHeld.2.2.2.2.1, below_cell bC hHeld.2.2.2.2.2⟩ : _ ∧ _ ∧ _ ∧ _ ∧ _ ∧ _)
    clear bC
    go_wp2_with fail
    have k3 := n1.seg
    have k4 := n2.seg
    clear n1 n2
    refine hKK.out _ _ hHeld ?_
    clear hHeld
    intro hHeld
    clear hKK KK
    try simp only [Act.put, List.setIfInBounds_toArray, List.set_cons_zero, List.set_cons_succ]
    refine wpAnyH_ready (rs := [6]) (by kernel_rfl) (by simp) ?_
    refine cons' rfl (fun KK hKK => ?_)
    go_simp
    refine (GC.out _ p q p2 q2 k1 k2 k3 k4).mono ?_
    rintro e w21 ⟨rfl, b1⟩
    have bC := b1
    replace GD := hide' (GD.out.below bC)
    replace bel := bel.trans (bC.mono bel.size)
    replace hS0 := hS0.later bC
    replace hT0 := hT0.later bC
    replace hS1 := hS1.later bC
    replace hT1 := hT1.later bC
    replace hS2 := hS2.later bC
    replace hT2 := hT2.later bC
    replace qa := qa.later bC
    replace qb := qb.later bC
    replace qc := qc.later bC
    replace qs := qs.later bC
    replace k1 := k1.later bC
    replace k2 := k2.later bC
    replace k3 := k3.later bC
    replace k4 := k4.later bC
    replace hHeld := (⟨below_cell bC hHeld.1, below_cell bC hHeld.2.1, below_cell bC hHeld.2.2.1, below_cell bC hHeld.2.2.2.1, below_cell bC hHeld.2.2.2.2.1, below_cell bC hHeld.2.2.2.2.2⟩ : _ ∧ _ ∧ _ ∧ _ ∧ _ ∧ _)
    clear bC
    go_wp2_with fail
    clear b1
    refine hKK.out _ _ hHeld ?_
    clear hHeld
    intro hHeld
    clear hKK KK
    try simp only [Act.put, List.setIfInBounds_toArray, List.set_cons_zero, List.set_cons_succ]
    refine take' 7 (v := ?_) rfl (by kernel_rfl) (by kernel_rfl) (by kernel_rfl) (fun _ _ _ h => h) (Or.inl ⟨by rfl, ?_⟩) (by assumption) ?_
    rotate_left
    · intro w9 hSw
      go_simp
      first | done | with_reducible rfl
    simp only [Act.put, List.setIfInBounds_toArray, List.set_cons_zero, List.set_cons_succ]
    refine take' 8 (v := ?_) rfl (by kernel_rfl) (by kernel_rfl) (by kernel_rfl) (fun _ _ _ h => h) (Or.inl ⟨by rfl, ?_⟩) (by assumption) ?_
    rotate_left
    · intro w9 hSw
      go_simp
      first | done | with_reducible rfl
    simp only [Act.put, List.setIfInBounds_toArray, List.set_cons_zero, List.set_cons_succ]
    refine take' 9 (v := ?_) rfl (by kernel_rfl) (by kernel_rfl) (by kernel_rfl) (fun _ _ _ h => h) (Or.inl ⟨by rfl, ?_⟩) (by assumption) ?_
    rotate_left
    · intro w9 hSw
      go_simp
      first | done | with_reducible rfl
    simp only [Act.put, List.setIfInBounds_toArray, List.set_cons_zero, List.set_cons_succ]
    refine wpAnyH_ready (rs := [10]) (by kernel_rfl) (by simp) ?_
    refine cons' rfl (fun KK hKK => ?_)
    go_simp
    refine (half_is _ GD.out).mono ?_
    rintro e w22 ⟨rfl, b1⟩
    have bC := b1
    replace GD := hide' (GD.out.below bC)
    replace bel := bel.trans (bC.mono bel.size)
    replace hS0 := hS0.later bC
    replace hT0 := hT0.later bC
    replace hS1 := hS1.later bC
    replace hT1 := hT1.later bC
    replace hS2 := hS2.later bC
    replace hT2 := hT2.later bC
    replace qa := qa.later bC
    replace qb := qb.later bC
    replace qc := qc.later bC
    replace qs := qs.later bC
    replace k1 := k1.later bC
    replace k2 := k2.later bC
    replace k3 := k3.later bC
    replace k4 := k4.later bC
    replace hHeld := (⟨below_cell bC hHeld.1, below_cell bC hHeld.2.1, below_cell bC hHeld.2.2.1, below_cell bC hHeld.2.2.2.1, below_cell bC hHeld.2.2.2.2.1, below_cell bC hHeld.2.2.2.2.2⟩ : _ ∧ _ ∧ _ ∧ _ ∧ _ ∧ _)
    clear bC
    go_wp2_with fail
    clear b1
    refine hKK.out _ _ hHeld ?_
    clear hHeld
    intro hHeld
    clear hKK KK
    try simp only [Act.put, List.setIfInBounds_toArray, List.set_cons_zero, List.set_cons_succ]
    refine take' 11 (v := ?_) rfl (by kernel_rfl) (by kernel_rfl) (by kernel_rfl) (fun _ _ _ h => h) (Or.inl ⟨by rfl, ?_⟩) (by assumption) ?_
    rotate_left
    · intro w9 hSw
      go_simp
      first | done | with_reducible rfl
    simp only [Act.put, List.setIfInBounds_toArray, List.set_cons_zero, List.set_cons_succ]
    refine take' 12 (v := ?_) rfl (by kernel_rfl) (by kernel_rfl) (by kernel_rfl) (fun _ _ _ h => h) (Or.inl ⟨by rfl, ?_⟩) (by assumption) ?_
    rotate_left
    · intro w9 hSw
      go_simp
      first | done | with_reducible rfl
    simp only [Act.put, List.setIfInBounds_toArray, List.set_cons_zero, List.set_cons_succ]
    refine wpAnyH_done (by kernel_rfl) ?_ _
    skip
    clear k1 k2 k3 k4
    clear GC
    go_wp2
    go_ret
    exact ⟨rfl, bel⟩
set_option maxHeartbeats 8000000 in
set_option maxRecDepth 100000 in
theorem walkE1 (s0 : Bool) (a0 : Option Addr) (n0 c0 X0 : Nat) (b0 : Option Addr) (m0 d0 Y0 : Nat) (s1 : Bool) (a1 : Option Addr) (n1 c1 X1 : Nat) (b1 : Option Addr) (m1 d1 Y1 : Nat) (s2 : Bool) (a2 : Option Addr) (n2 c2 X2 : Nat) (b2 : Option Addr) (m2 d2 Y2 : Nat) (w : World) (hc0 : n0 ≤ c0) (hm0 : n0 ≤ 35184372087808) (hS0 : Seg w a0 X0 n0) (hd0 : m0 ≤ d0) (hk0 : m0 ≤ 35184372087808) (hT0 : Seg w b0 Y0 m0) (hc1 : n1 ≤ c1) (hm1 : n1 ≤ 35184372087808) (hS1 : Seg w a1 X1 n1) (hd1 : m1 ≤ d1) (hk1 : m1 ≤ 35184372087808) (hT1 : Seg w b1 Y1 m1) (hc2 : n2 ≤ c2) (hm2 : n2 ≤ 35184372087808) (hS2 : Seg w a2 X2 n2) (hd2 : m2 ≤ d2) (hk2 : m2 ≤ 35184372087808) (hT2 : Seg w b2 Y2 m2) (hDg : Digits w) (hC : sgn (rn s0 X0 Y0 * ((rd Y1 : Nat) : Int) - rn s1 X1 Y1 * ((rd Y0 : Nat) : Int)) = 1) (hlt : ¬ rn s0 X0 Y0 * ((rd Y1 : Nat) : Int) < rn s1 X1 Y1 * ((rd Y0 : Nat) : Int)) :
    Calls Tryz.prog 4 #[Value.agg #[Value.bool s0, Value.slice a0 n0 c0, Value.slice b0 m0 d0], Value.agg #[Value.bool s1, Value.slice a1 n1 c1, Value.slice b1 m1 d1], Value.agg #[Value.bool s2, Value.slice a2 n2 c2, Value.slice b2 m2 d2]] w fun e w' => e = .returned (.bool true) ∧ Below w.heap.size w w' := by
  have GT0 := hide' (fun w' k1 k2 => ltwin_is s0 a0 n0 c0 X0 b0 m0 d0 Y0 w' hc0 (by omega) k1 hd0 (by omega) k2)
  have GT1 := hide' (fun w' k1 k2 => ltwin_is s1 a1 n1 c1 X1 b1 m1 d1 Y1 w' hc1 (by omega) k1 hd1 (by omega) k2)
  have G5 := hide' (fun w' p q p2 q2 (k1 : Seg w' p X0 n0) (k2 : Seg w' q Y0 m0) (k3 : Seg w' p2 X1 n1) (k4 : Seg w' q2 Y1 m1) => (Simplest_is s0 p n0 n0 X0 q m0 m0 Y0 s1 p2 n1 n1 X1 q2 m1 m1 Y1 w' (Nat.le_refl _) hm0 k1 (Nat.le_refl _) hk0 k2 (Nat.le_refl _) hm1 k3 (Nat.le_refl _) hk1 k4).mono (fun e w2 h => (show e = .returned (.tuple #[.agg #[.bool false, .slice none 0 0, .slice none 0 0], .int .i64 30]) ∧ Below w'.heap.size w' w2 by rcases h with ⟨_, h⟩ | ⟨h, _⟩ <;> first | exact h | omega)))
  have GC := hide' (fun w' p q p2 q2 (k1 : Seg w' p X0 n0) (k2 : Seg w' q Y0 m0) (k3 : Seg w' p2 X1 n1) (k4 : Seg w' q2 Y1 m1) => qCmp_is s0 p n0 n0 X0 q m0 m0 Y0 s1 p2 n1 n1 X1 q2 m1 m1 Y1 (1) w' (Nat.le_refl _) (by omega) k1 (Nat.le_refl _) (by omega) k2 (Nat.le_refl _) (by omega) k3 (Nat.le_refl _) (by omega) k4 hC)
  have GD := hide' hDg
  have HC := hide' hC
  have HL := hide' hlt
  clear hDg hC hlt
  have bel : Below w.heap.size w w := Below.refl _ _
  have bb := below_alloc (w := w) (.cells #[.bool s0, .slice a0 n0 c0, .slice b0 m0 d0] 27)
  replace hS0 := hS0.later bb
  replace hT0 := hT0.later bb
  replace hS1 := hS1.later bb
  replace hT1 := hT1.later bb
  replace hS2 := hS2.later bb
  replace hT2 := hT2.later bb
  replace GD := hide' (GD.out.below bb)
  replace bel := bel.trans (bb.mono bel.size)
  clear bb
  have qa := Blk.new w #[.bool s0, .slice a0 n0 c0, .slice b0 m0 d0] 27
  have bb := below_alloc (w := (w.alloc (.cells #[.bool s0, .slice a0 n0 c0, .slice b0 m0 d0] 27))) (.cells #[.bool s1, .slice a1 n1 c1, .slice b1 m1 d1] 27)
  replace hS0 := hS0.later bb
  replace hT0 := hT0.later bb
  replace hS1 := hS1.later bb
  replace hT1 := hT1.later bb
  replace hS2 := hS2.later bb
  replace hT2 := hT2.later bb
  replace qa := qa.later bb
  replace GD := hide' (GD.out.below bb)
  replace bel := bel.trans (bb.mono bel.size)
  clear bb
  have qb := Blk.new (w.alloc (.cells #[.bool s0, .slice a0 n0 c0, .slice b0 m0 d0] 27)) #[.bool s1, .slice a1 n1 c1, .slice b1 m1 d1] 27
  simp only [World.size_alloc] at qb
  have bb := below_alloc (w := ((w.alloc (.cells #[.bool s0, .slice a0 n0 c0, .slice b0 m0 d0] 27)).alloc (.cells #[.bool s1, .slice a1 n1 c1, .slice b1 m1 d1] 27))) (.cells #[.bool s2, .slice a2 n2 c2, .slice b2 m2 d2] 27)
  replace hS0 := hS0.later bb
  replace hT0 := hT0.later bb
  replace hS1 := hS1.later bb
  replace hT1 := hT1.later bb
  replace hS2 := hS2.later bb
  replace hT2 := hT2.later bb
  replace qa := qa.later bb
  replace qb := qb.later bb
  replace GD := hide' (GD.out.below bb)
  replace bel := bel.trans (bb.mono bel.size)
  clear bb
  have qc := Blk.new ((w.alloc (.cells #[.bool s0, .slice a0 n0 c0, .slice b0 m0 d0] 27)).alloc (.cells #[.bool s1, .slice a1 n1 c1, .slice b1 m1 d1] 27)) #[.bool s2, .slice a2 n2 c2, .slice b2 m2 d2] 27
  simp only [World.size_alloc] at qc
  go_enter Tryz.func4, Tryz.ntmps4
  go_wp2_with fail
  obtain ⟨W0, hW⟩ : ∃ W, (((w.alloc (.cells #[.bool s0, .slice a0 n0 c0, .slice b0 m0 d0] 27)).alloc (.cells #[.bool s1, .slice a1 n1 c1, .slice b1 m1 d1] 27)).alloc (.cells #[.bool s2, .slice a2 n2 c2, .slice b2 m2 d2] 27)) = W := ⟨_, rfl⟩
  rw [hW] at bel hS0 hT0 hS1 hT1 hS2 hT2 qa qb qc GD ⊢
  clear hW
  have hbs := bel.size
  have bT : Below W0.heap.size W0 W0 := Below.refl _ _
  go_cut [7, 8] from 11 to 18 (fun s7_ s8_ wx => ∃ wh9 cs, wh9 = wx ∧ s7_ = .pointer (some ⟨cs, 0, none⟩) ∧ s8_ = .int .i64 30 ∧ Blk wx cs #[.bool false, .slice none 0 0, .slice none 0 0] 27 ∧ Below W0.heap.size W0 wx)
  case first =>
    clear GD GC
    have qa_0 := qa.cell 0
    have qa_1 := qa.cell 1
    have qa_2 := qa.cell 2
    have qb_0 := qb.cell 0
    have qb_1 := qb.cell 1
    have qb_2 := qb.cell 2
    simp only [List.getElem?_toArray, List.getElem?_cons_zero, List.getElem?_cons_succ] at qa_0 qa_1 qa_2 qb_0 qb_1 qb_2
    have bD : Below W0.heap.size W0 W0.drew := (Below.refl _ _).drew
    have kqa_0 := below_cell bD qa_0
    have kqa_1 := below_cell bD qa_1
    have kqa_2 := below_cell bD qa_2
    have kqb_0 := below_cell bD qb_0
    have kqb_1 := below_cell bD qb_1
    have kqb_2 := below_cell bD qb_2
    replace bT := bT.trans (bD.mono bT.size)
    replace hS0 := hS0.later bD
    replace hT0 := hT0.later bD
    replace hS1 := hS1.later bD
    replace hT1 := hT1.later bD
    replace hS2 := hS2.later bD
    replace hT2 := hT2.later bD
    replace qa := qa.later bD
    replace qb := qb.later bD
    replace qc := qc.later bD
    refine wp_region_held_drew (S := fun w' => w'.cell? ⟨w.heap.size, 0, none⟩ = some (.bool s0) ∧ w'.cell? ⟨w.heap.size, 1, none⟩ = some (.slice a0 n0 c0) ∧ w'.cell? ⟨w.heap.size, 2, none⟩ = some (.slice b0 m0 d0) ∧ w'.cell? ⟨w.heap.size + 1, 0, none⟩ = some (.bool s1) ∧ w'.cell? ⟨w.heap.size + 1, 1, none⟩ = some (.slice a1 n1 c1) ∧ w'.cell? ⟨w.heap.size + 1, 2, none⟩ = some (.slice b1 m1 d1)) (by kernel_rfl) ⟨kqa_0, kqa_1, kqa_2, kqb_0, kqb_1, kqb_2⟩ (fun hHeld => ?_)
    clear kqa_0 kqa_1 kqa_2 kqb_0 kqb_1 kqb_2
    generalize W0.drew = w0F at bD hS0 hT0 hS1 hT1 hS2 hT2 qa qb qc bT hHeld ⊢
    clear bD qa_0 qa_1 qa_2 qb_0 qb_1 qb_2
    have lqa := qa.lt
    have lqb := qb.lt
    have lqc := qc.lt
    clear qa qb qc hS2 hT2
    refine take' 0 (v := ?_) rfl (by kernel_rfl) (by kernel_rfl) (by kernel_rfl) (fun _ _ _ h => h) (Or.inl ⟨by rfl, ?_⟩) (by assumption) ?_
    rotate_left
    · intro w9 hSw
      go_simp
      first | done | with_reducible rfl
    simp only [Act.put, List.setIfInBounds_toArray, List.set_cons_zero, List.set_cons_succ]
    refine take' 2 (v := ?_) rfl (by kernel_rfl) (by kernel_rfl) (by kernel_rfl) (fun _ _ _ h => h) (Or.inl ⟨by rfl, ?_⟩) (by assumption) ?_
    rotate_left
    · intro w9 hSw
      go_simp
      first | done | with_reducible rfl
    simp only [Act.put, List.setIfInBounds_toArray, List.set_cons_zero, List.set_cons_succ]
    refine wpAnyH_ready (rs := [1, 8]) (by kernel_rfl) (by simp) ?_
    refine consT rfl (fun KK hKK => ?_) ?_
    · skip
      go_simp
      refine (GT0.out _ hS0 hT0).mono ?_
      rintro e w1 ⟨p, q, rfl, n1, n2⟩
      have bC := n1.below
      replace bT := bT.trans (bC.mono bT.size)
      replace hS0 := hS0.later bC
      replace hT0 := hT0.later bC
      replace hS1 := hS1.later bC
      replace hT1 := hT1.later bC
      replace hHeld := (⟨below_cell bC hHeld.1, below_cell bC hHeld.2.1, below_cell bC hHeld.2.2.1, below_cell bC hHeld.2.2.2.1, below_cell bC hHeld.2.2.2.2.1, below_cell bC hHeld.2.2.2.2.2⟩ : _ ∧ _ ∧ _ ∧ _ ∧ _ ∧ _)
      clear bC
      go_wp2_with fail
      have k1 := n1.seg
      have k2 := n2.seg
      clear n1 n2
      refine hKK.out _ _ hHeld ?_
      clear hHeld
      intro hHeld
      clear hKK KK
      try simp only [Act.put, List.setIfInBounds_toArray, List.set_cons_zero, List.set_cons_succ]
      refine wpAnyH_ready (rs := [3, 8]) (by kernel_rfl) (by simp) ?_
      refine consT rfl (fun KK hKK => ?_) ?_
      · skip
        go_simp
        refine (GT1.out _ hS1 hT1).mono ?_
        rintro e w2 ⟨p2, q2, rfl, n1, n2⟩
        have bC := n1.below
        replace bT := bT.trans (bC.mono bT.size)
        replace hS0 := hS0.later bC
        replace hT0 := hT0.later bC
        replace hS1 := hS1.later bC
        replace hT1 := hT1.later bC
        replace k1 := k1.later bC
        replace k2 := k2.later bC
        replace hHeld := (⟨below_cell bC hHeld.1, below_cell bC hHeld.2.1, below_cell bC hHeld.2.2.1, below_cell bC hHeld.2.2.2.1, below_cell bC hHeld.2.2.2.2.1, below_cell bC hHeld.2.2.2.2.2⟩ : _ ∧ _ ∧ _ ∧ _ ∧ _ ∧ _)
        clear bC
        go_wp2_with fail
        have k3 := n1.seg
        have k4 := n2.seg
        clear n1 n2
        refine hKK.out _ _ hHeld ?_
        clear hHeld
        intro hHeld
        clear hKK KK
        try simp only [Act.put, List.setIfInBounds_toArray, List.set_cons_zero, List.set_cons_succ]
        refine wpAnyH_ready (rs := [4, 8]) (by kernel_rfl) (by simp) ?_
        refine consT rfl (fun KK hKK => ?_) ?_
        · skip
          go_simp
          refine (G5.out _ p q p2 q2 k1 k2 k3 k4).mono ?_
          rintro e w3 ⟨rfl, b5⟩
          have bC := b5
          replace bT := bT.trans (bC.mono bT.size)
          replace hS0 := hS0.later bC
          replace hT0 := hT0.later bC
          replace hS1 := hS1.later bC
          replace hT1 := hT1.later bC
          replace k1 := k1.later bC
          replace k2 := k2.later bC
          replace k3 := k3.later bC
          replace k4 := k4.later bC
          replace hHeld := (⟨below_cell bC hHeld.1, below_cell bC hHeld.2.1, below_cell bC hHeld.2.2.1, below_cell bC hHeld.2.2.2.1, below_cell bC hHeld.2.2.2.2.1, below_cell bC hHeld.2.2.2.2.2⟩ : _ ∧ _ ∧ _ ∧ _ ∧ _ ∧ _)
          clear bC
          go_wp2_with fail
          clear b5
          refine hKK.out _ _ hHeld ?_
          clear hHeld
          intro hHeld
          clear hKK KK
          try simp only [Act.put, List.setIfInBounds_toArray, List.set_cons_zero, List.set_cons_succ]
          refine take' 5 (v := ?_) rfl (by kernel_rfl) (by kernel_rfl) (by kernel_rfl) (fun _ _ _ h => h) (Or.inl ⟨by rfl, ?_⟩) (by assumption) ?_
          rotate_left
          · intro w9 hSw
            go_simp
            first | done | with_reducible rfl
          simp only [Act.put, List.setIfInBounds_toArray, List.set_cons_zero, List.set_cons_succ]
          refine take' 6 (v := ?_) rfl (by kernel_rfl) (by kernel_rfl) (by kernel_rfl) (fun _ _ _ h => h) (Or.inl ⟨by rfl, ?_⟩) (by assumption) ?_
          rotate_left
          · intro w9 hSw
            go_simp
            first | done | with_reducible rfl
          simp only [Act.put, List.setIfInBounds_toArray, List.set_cons_zero, List.set_cons_succ]
          refine take' 7 (v := ?_) rfl (by kernel_rfl) (by kernel_rfl) (by kernel_rfl) (fun _ _ _ h => h) (Or.inl ⟨by rfl, ?_⟩) (by assumption) ?_
          rotate_left
          · intro w9 hSw
            go_simp
            first | done | with_reducible rfl
          simp only [Act.put, List.setIfInBounds_toArray, List.set_cons_zero, List.set_cons_succ]
          refine wpAnyH_ready (rs := [8]) (by kernel_rfl) (by simp) ?_
          refine cons' rfl (fun KK hKK => ?_)
          go_simp
          have qs := Blk.new w3 #[.bool false, .slice none 0 0, .slice none 0 0] 27
          have bA := below_alloc (w := w3) (.cells #[.bool false, .slice none 0 0, .slice none 0 0] 27)
          have hqsge := bT.size
          have hqsc0 := cell_ltB hHeld.1
          have hqsc1 := cell_ltB hHeld.2.1
          have hqsc2 := cell_ltB hHeld.2.2.1
          have hqsc3 := cell_ltB hHeld.2.2.2.1
          have hqsc4 := cell_ltB hHeld.2.2.2.2.1
          have hqsc5 := cell_ltB hHeld.2.2.2.2.2
          generalize w3.alloc (.cells #[.bool false, .slice none 0 0, .slice none 0 0] 27) = w4 at qs bA ⊢
          replace bT := bT.trans (bA.mono bT.size)
          replace hS0 := hS0.later bA
          replace hT0 := hT0.later bA
          replace hS1 := hS1.later bA
          replace hT1 := hT1.later bA
          replace k1 := k1.later bA
          replace k2 := k2.later bA
          replace k3 := k3.later bA
          replace k4 := k4.later bA
          replace hHeld := (⟨below_cell bA hHeld.1, below_cell bA hHeld.2.1, below_cell bA hHeld.2.2.1, below_cell bA hHeld.2.2.2.1, below_cell bA hHeld.2.2.2.2.1, below_cell bA hHeld.2.2.2.2.2⟩ : _ ∧ _ ∧ _ ∧ _ ∧ _ ∧ _)
          clear bA
          refine hKK.out _ _ hHeld ?_
          clear hHeld
          intro hHeld
          clear hKK KK
          try simp only [Act.put, List.setIfInBounds_toArray, List.set_cons_zero, List.set_cons_succ]
          obtain ⟨cqs, hcc⟩ : ∃ cc, w3.heap.size = cc := ⟨_, rfl⟩
          rw [hcc] at qs hqsge hqsc0 hqsc1 hqsc2 hqsc3 hqsc4 hqsc5
          try rw [hcc]
          clear hcc
          refine wpAnyH_ready (rs := [9]) (by kernel_rfl) (by simp) ?_
          refine cons' rfl (fun KK hKK => ?_)
          have z0 := qs.cell 0
          have z1 := qs.cell 1
          have z2 := qs.cell 2
          simp only [List.getElem?_toArray, List.getElem?_cons_zero, List.getElem?_cons_succ] at z0 z1 z2
          have fz := fun o => qs.frozen o
          obtain ⟨c9, q9⟩ := qs.set3 (.bool false) (.slice none 0 0) (.slice none 0 0)
          have hno := qs.no (by simp)
          replace hS0 := hS0.ch c9 hno
          replace hT0 := hT0.ch c9 hno
          replace hS1 := hS1.ch c9 hno
          replace hT1 := hT1.ch c9 hno
          replace k1 := k1.ch c9 hno
          replace k2 := k2.ch c9 hno
          replace k3 := k3.ch c9 hno
          replace k4 := k4.ch c9 hno
          replace bT := bT.trans (c9.below (by omega))
          have hH2 := (⟨(World.cell?_of_block (w := w4) (a := ⟨w.heap.size, 0, none⟩) (c9.other (w.heap.size) (by omega))).trans hHeld.1, (World.cell?_of_block (w := w4) (a := ⟨w.heap.size, 1, none⟩) (c9.other (w.heap.size) (by omega))).trans hHeld.2.1, (World.cell?_of_block (w := w4) (a := ⟨w.heap.size, 2, none⟩) (c9.other (w.heap.size) (by omega))).trans hHeld.2.2.1, (World.cell?_of_block (w := w4) (a := ⟨w.heap.size + 1, 0, none⟩) (c9.other (w.heap.size + 1) (by omega))).trans hHeld.2.2.2.1, (World.cell?_of_block (w := w4) (a := ⟨w.heap.size + 1, 1, none⟩) (c9.other (w.heap.size + 1) (by omega))).trans hHeld.2.2.2.2.1, (World.cell?_of_block (w := w4) (a := ⟨w.heap.size + 1, 2, none⟩) (c9.other (w.heap.size + 1) (by omega))).trans hHeld.2.2.2.2.2⟩ : _ ∧ _ ∧ _ ∧ _ ∧ _ ∧ _)
          go_simp
          clear z0 z1 z2 fz hno c9
          replace qs := q9
          refine hKK.out _ _ hH2 ?_
          clear hHeld
          intro hHeld
          clear hKK KK
          try simp only [Act.put, List.setIfInBounds_toArray, List.set_cons_zero, List.set_cons_succ]
          clear hH2
          generalize (((w4.setCell ⟨cqs, 0, none⟩ (.bool false)).setCell ⟨cqs, 1, none⟩ (.slice none 0 0)).setCell ⟨cqs, 2, none⟩ (.slice none 0 0)) = w5 at bT hS0 hT0 hS1 hT1 k1 k2 k3 k4 qs hHeld ⊢
          refine take' 10 (v := ?_) rfl (by kernel_rfl) (by kernel_rfl) (by kernel_rfl) (fun _ _ _ h => h) (Or.inl ⟨by rfl, ?_⟩) (by assumption) ?_
          rotate_left
          · intro w9 hSw
            go_simp
            first | done | with_reducible rfl
          simp only [Act.put, List.setIfInBounds_toArray, List.set_cons_zero, List.set_cons_succ]
          refine wpAnyH_done (by kernel_rfl) ?_ _
          go_wp2_with fail
          go_meet
          exact ⟨_, cqs, rfl, rfl, rfl, qs, bT⟩
        refine consT rfl (fun KK hKK => ?_) ?_
        · skip
          go_simp
          have qs := Blk.new w2 #[.bool false, .slice none 0 0, .slice none 0 0] 27
          have bA := below_alloc (w := w2) (.cells #[.bool false, .slice none 0 0, .slice none 0 0] 27)
          have hqsge := bT.size
          have hqsc0 := cell_ltB hHeld.1
          have hqsc1 := cell_ltB hHeld.2.1
          have hqsc2 := cell_ltB hHeld.2.2.1
          have hqsc3 := cell_ltB hHeld.2.2.2.1
          have hqsc4 := cell_ltB hHeld.2.2.2.2.1
          have hqsc5 := cell_ltB hHeld.2.2.2.2.2
          generalize w2.alloc (.cells #[.bool false, .slice none 0 0, .slice none 0 0] 27) = w6 at qs bA ⊢
          replace bT := bT.trans (bA.mono bT.size)
          replace hS0 := hS0.later bA
          replace hT0 := hT0.later bA
          replace hS1 := hS1.later bA
          replace hT1 := hT1.later bA
          replace k1 := k1.later bA
          replace k2 := k2.later bA
          replace k3 := k3.later bA
          replace k4 := k4.later bA
          replace hHeld := (⟨below_cell bA hHeld.1, below_cell bA hHeld.2.1, below_cell bA hHeld.2.2.1, below_cell bA hHeld.2.2.2.1, below_cell bA hHeld.2.2.2.2.1, below_cell bA hHeld.2.2.2.2.2⟩ : _ ∧ _ ∧ _ ∧ _ ∧ _ ∧ _)
          clear bA
          refine hKK.out _ _ hHeld ?_
          clear hHeld
          intro hHeld
          clear hKK KK
          try simp only [Act.put, List.setIfInBounds_toArray, List.set_cons_zero, List.set_cons_succ]
          obtain ⟨cqs, hcc⟩ : ∃ cc, w2.heap.size = cc := ⟨_, rfl⟩
          rw [hcc] at qs hqsge hqsc0 hqsc1 hqsc2 hqsc3 hqsc4 hqsc5
          try rw [hcc]
          clear hcc
          refine wpAnyH_ready (rs := [4]) (by kernel_rfl) (by simp) ?_
          refine cons' rfl (fun KK hKK => ?_)
          go_simp
          refine (G5.out _ p q p2 q2 k1 k2 k3 k4).mono ?_
          rintro e w7 ⟨rfl, b5⟩
          have bC := b5
          replace bT := bT.trans (bC.mono bT.size)
          replace hS0 := hS0.later bC
          replace hT0 := hT0.later bC
          replace hS1 := hS1.later bC
          replace hT1 := hT1.later bC
          replace k1 := k1.later bC
          replace k2 := k2.later bC
          replace k3 := k3.later bC
          replace k4 := k4.later bC
          replace qs := qs.later bC
          replace hHeld := (⟨below_cell bC hHeld.1, below_cell bC hHeld.2.1, below_cell bC hHeld.2.2.1, below_cell bC hHeld.2.2.2.1, below_cell bC hHeld.2.2.2.2.1, below_cell bC hHeld.2.2.2.2.2⟩ : _ ∧ _ ∧ _ ∧ _ ∧ _ ∧ _)
          clear bC
          go_wp2_with fail
          clear b5
          refine hKK.out _ _ hHeld ?_
          clear hHeld
          intro hHeld
          clear hKK KK
          try simp only [Act.put, List.setIfInBounds_toArray, List.set_cons_zero, List.set_cons_succ]
          refine take' 5 (v := ?_) rfl (by kernel_rfl) (by kernel_rfl) (by kernel_rfl) (fun _ _ _ h => h) (Or.inl ⟨by rfl, ?_⟩) (by assumption) ?_
          rotate_left
          · intro w9 hSw
            go_simp
            first | done | with_reducible rfl
          simp only [Act.put, List.setIfInBounds_toArray, List.set_cons_zero, List.set_cons_succ]
          refine take' 6 (v := ?_) rfl (by kernel_rfl) (by kernel_rfl) (by kernel_rfl) (fun _ _ _ h => h) (Or.inl ⟨by rfl, ?_⟩) (by assumption) ?_
          rotate_left
          · intro w9 hSw
            go_simp
            first | done | with_reducible rfl
          simp only [Act.put, List.setIfInBounds_toArray, List.set_cons_zero, List.set_cons_succ]
          refine take' 7 (v := ?_) rfl (by kernel_rfl) (by kernel_rfl) (by kernel_rfl) (fun _ _ _ h => h) (Or.inl ⟨by rfl, ?_⟩) (by assumption) ?_
          rotate_left
          · intro w9 hSw
            go_simp
            first | done | with_reducible rfl
          simp only [Act.put, List.setIfInBounds_toArray, List.set_cons_zero, List.set_cons_succ]
          refine wpAnyH_ready (rs := [9]) (by kernel_rfl) (by simp) ?_
          refine cons' rfl (fun KK hKK => ?_)
          have z0 := qs.cell 0
          have z1 := qs.cell 1
          have z2 := qs.cell 2
          simp only [List.getElem?_toArray, List.getElem?_cons_zero, List.getElem?_cons_succ] at z0 z1 z2
          have fz := fun o => qs.frozen o
          obtain ⟨c9, q9⟩ := qs.set3 (.bool false) (.slice none 0 0) (.slice none 0 0)
          have hno := qs.no (by simp)
          replace hS0 := hS0.ch c9 hno
          replace hT0 := hT0.ch c9 hno
          replace hS1 := hS1.ch c9 hno
          replace hT1 := hT1.ch c9 hno
          replace k1 := k1.ch c9 hno
          replace k2 := k2.ch c9 hno
          replace k3 := k3.ch c9 hno
          replace k4 := k4.ch c9 hno
          replace bT := bT.trans (c9.below (by omega))
          have hH2 := (⟨(World.cell?_of_block (w := w7) (a := ⟨w.heap.size, 0, none⟩) (c9.other (w.heap.size) (by omega))).trans hHeld.1, (World.cell?_of_block (w := w7) (a := ⟨w.heap.size, 1, none⟩) (c9.other (w.heap.size) (by omega))).trans hHeld.2.1, (World.cell?_of_block (w := w7) (a := ⟨w.heap.size, 2, none⟩) (c9.other (w.heap.size) (by omega))).trans hHeld.2.2.1, (World.cell?_of_block (w := w7) (a := ⟨w.heap.size + 1, 0, none⟩) (c9.other (w.heap.size + 1) (by omega))).trans hHeld.2.2.2.1, (World.cell?_of_block (w := w7) (a := ⟨w.heap.size + 1, 1, none⟩) (c9.other (w.heap.size + 1) (by omega))).trans hHeld.2.2.2.2.1, (World.cell?_of_block (w := w7) (a := ⟨w.heap.size + 1, 2, none⟩) (c9.other (w.heap.size + 1) (by omega))).trans hHeld.2.2.2.2.2⟩ : _ ∧ _ ∧ _ ∧ _ ∧ _ ∧ _)
          go_simp
          clear z0 z1 z2 fz hno c9
          replace qs := q9
          refine hKK.out _ _ hH2 ?_
          clear hHeld
          intro hHeld
          clear hKK KK
          try simp only [Act.put, List.setIfInBounds_toArray, List.set_cons_zero, List.set_cons_succ]
          clear hH2
          generalize (((w7.setCell ⟨cqs, 0, none⟩ (.bool false)).setCell ⟨cqs, 1, none⟩ (.slice none 0 0)).setCell ⟨cqs, 2, none⟩ (.slice none 0 0)) = w8 at bT hS0 hT0 hS1 hT1 k1 k2 k3 k4 qs hHeld ⊢
          refine take' 10 (v := ?_) rfl (by kernel_rfl) (by kernel_rfl) (by kernel_rfl) (fun _ _ _ h => h) (Or.inl ⟨by rfl, ?_⟩) (by assumption) ?_
          rotate_left
          · intro w9 hSw
            go_simp
            first | done | with_reducible rfl
          simp only [Act.put, List.setIfInBounds_toArray, List.set_cons_zero, List.set_cons_succ]
          refine wpAnyH_done (by kernel_rfl) ?_ _
          go_wp2_with fail
          go_meet
          exact ⟨_, cqs, rfl, rfl, rfl, qs, bT⟩
        exact AllReadyH.nil
      refine consT rfl (fun KK hKK => ?_) ?_
      · skip
        go_simp
        have qs := Blk.new w1 #[.bool false, .slice none 0 0, .slice none 0 0] 27
        have bA := below_alloc (w := w1) (.cells #[.bool false, .slice none 0 0, .slice none 0 0] 27)
        have hqsge := bT.size
        have hqsc0 := cell_ltB hHeld.1
        have hqsc1 := cell_ltB hHeld.2.1
        have hqsc2 := cell_ltB hHeld.2.2.1
        have hqsc3 := cell_ltB hHeld.2.2.2.1
        have hqsc4 := cell_ltB hHeld.2.2.2.2.1
        have hqsc5 := cell_ltB hHeld.2.2.2.2.2
        generalize w1.alloc (.cells #[.bool false, .slice none 0 0, .slice none 0 0] 27) = w9 at qs bA ⊢
        replace bT := bT.trans (bA.mono bT.size)
        replace hS0 := hS0.later bA
        replace hT0 := hT0.later bA
        replace hS1 := hS1.later bA
        replace hT1 := hT1.later bA
        replace k1 := k1.later bA
        replace k2 := k2.later bA
        replace hHeld := (⟨below_cell bA hHeld.1, below_cell bA hHeld.2.1, below_cell bA hHeld.2.2.1, below_cell bA hHeld.2.2.2.1, below_cell bA hHeld.2.2.2.2.1, below_cell bA hHeld.2.2.2.2.2⟩ : _ ∧ _ ∧ _ ∧ _ ∧ _ ∧ _)
        clear bA
        refine hKK.out _ _ hHeld ?_
        clear hHeld
        intro hHeld
        clear hKK KK
        try simp only [Act.put, List.setIfInBounds_toArray, List.set_cons_zero, List.set_cons_succ]
        obtain ⟨cqs, hcc⟩ : ∃ cc, w1.heap.size = cc := ⟨_, rfl⟩
        rw [hcc] at qs hqsge hqsc0 hqsc1 hqsc2 hqsc3 hqsc4 hqsc5
        try rw [hcc]
        clear hcc
        refine wpAnyH_ready (rs := [3]) (by kernel_rfl) (by simp) ?_
        refine cons' rfl (fun KK hKK => ?_)
        go_simp
        refine (GT1.out _ hS1 hT1).mono ?_
        rintro e w10 ⟨p2, q2, rfl, n1, n2⟩
        have bC := n1.below
        replace bT := bT.trans (bC.mono bT.size)
        replace hS0 := hS0.later bC
        replace hT0 := hT0.later bC
        replace hS1 := hS1.later bC
        replace hT1 := hT1.later bC
        replace k1 := k1.later bC
        replace k2 := k2.later bC
        replace qs := qs.later bC
        replace hHeld := (⟨below_cell bC hHeld.1, below_cell bC hHeld.2.1, below_cell bC hHeld.2.2.1, below_cell bC hHeld.2.2.2.1, below_cell bC hHeld.2.2.2.2.1, below_cell bC hHeld.2.2.2.2.2⟩ : _ ∧ _ ∧ _ ∧ _ ∧ _ ∧ _)
        clear bC
        go_wp2_with fail
        have k3 := n1.seg
        have k4 := n2.seg
        clear n1 n2
        refine hKK.out _ _ hHeld ?_
        clear hHeld
        intro hHeld
        clear hKK KK
        try simp only [Act.put, List.setIfInBounds_toArray, List.set_cons_zero, List.set_cons_succ]
        refine wpAnyH_ready (rs := [4]) (by kernel_rfl) (by simp) ?_
        refine cons' rfl (fun KK hKK => ?_)
        go_simp
        refine (G5.out _ p q p2 q2 k1 k2 k3 k4).mono ?_
        rintro e w11 ⟨rfl, b5⟩
        have bC := b5
        replace bT := bT.trans (bC.mono bT.size)
        replace hS0 := hS0.later bC
        replace hT0 := hT0.later bC
        replace hS1 := hS1.later bC
        replace hT1 := hT1.later bC
        replace k1 := k1.later bC
        replace k2 := k2.later bC
        replace qs := qs.later bC
        replace k3 := k3.later bC
        replace k4 := k4.later bC
        replace hHeld := (⟨below_cell bC hHeld.1, below_cell bC hHeld.2.1, below_cell bC hHeld.2.2.1, below_cell bC hHeld.2.2.2.1, below_cell bC hHeld.2.2.2.2.1, below_cell bC hHeld.2.2.2.2.2⟩ : _ ∧ _ ∧ _ ∧ _ ∧ _ ∧ _)
        clear bC
        go_wp2_with fail
        clear b5
        refine hKK.out _ _ hHeld ?_
        clear hHeld
        intro hHeld
        clear hKK KK
        try simp only [Act.put, List.setIfInBounds_toArray, List.set_cons_zero, List.set_cons_succ]
        refine take' 5 (v := ?_) rfl (by kernel_rfl) (by kernel_rfl) (by kernel_rfl) (fun _ _ _ h => h) (Or.inl ⟨by rfl, ?_⟩) (by assumption) ?_
        rotate_left
        · intro w9 hSw
          go_simp
          first | done | with_reducible rfl
        simp only [Act.put, List.setIfInBounds_toArray, List.set_cons_zero, List.set_cons_succ]
        refine take' 6 (v := ?_) rfl (by kernel_rfl) (by kernel_rfl) (by kernel_rfl) (fun _ _ _ h => h) (Or.inl ⟨by rfl, ?_⟩) (by assumption) ?_
        rotate_left
        · intro w9 hSw
          go_simp
          first | done | with_reducible rfl
        simp only [Act.put, List.setIfInBounds_toArray, List.set_cons_zero, List.set_cons_succ]
        refine take' 7 (v := ?_) rfl (by kernel_rfl) (by kernel_rfl) (by kernel_rfl) (fun _ _ _ h => h) (Or.inl ⟨by rfl, ?_⟩) (by assumption) ?_
        rotate_left
        · intro w9 hSw
          go_simp
          first | done | with_reducible rfl
        simp only [Act.put, List.setIfInBounds_toArray, List.set_cons_zero, List.set_cons_succ]
        refine wpAnyH_ready (rs := [9]) (by kernel_rfl) (by simp) ?_
        refine cons' rfl (fun KK hKK => ?_)
        have z0 := qs.cell 0
        have z1 := qs.cell 1
        have z2 := qs.cell 2
        simp only [List.getElem?_toArray, List.getElem?_cons_zero, List.getElem?_cons_succ] at z0 z1 z2
        have fz := fun o => qs.frozen o
        obtain ⟨c9, q9⟩ := qs.set3 (.bool false) (.slice none 0 0) (.slice none 0 0)
        have hno := qs.no (by simp)
        replace hS0 := hS0.ch c9 hno
        replace hT0 := hT0.ch c9 hno
        replace hS1 := hS1.ch c9 hno
        replace hT1 := hT1.ch c9 hno
        replace k1 := k1.ch c9 hno
        replace k2 := k2.ch c9 hno
        replace k3 := k3.ch c9 hno
        replace k4 := k4.ch c9 hno
        replace bT := bT.trans (c9.below (by omega))
        have hH2 := (⟨(World.cell?_of_block (w := w11) (a := ⟨w.heap.size, 0, none⟩) (c9.other (w.heap.size) (by omega))).trans hHeld.1, (World.cell?_of_block (w := w11) (a := ⟨w.heap.size, 1, none⟩) (c9.other (w.heap.size) (by omega))).trans hHeld.2.1, (World.cell?_of_block (w := w11) (a := ⟨w.heap.size, 2, none⟩) (c9.other (w.heap.size) (by omega))).trans hHeld.2.2.1, (World.cell?_of_block (w := w11) (a := ⟨w.heap.size + 1, 0, none⟩) (c9.other (w.heap.size + 1) (by omega))).trans hHeld.2.2.2.1, (World.cell?_of_block (w := w11) (a := ⟨w.heap.size + 1, 1, none⟩) (c9.other (w.heap.size + 1) (by omega))).trans hHeld.2.2.2.2.1, (World.cell?_of_block (w := w11) (a := ⟨w.heap.size + 1, 2, none⟩) (c9.other (w.heap.size + 1) (by omega))).trans hHeld.2.2.2.2.2⟩ : _ ∧ _ ∧ _ ∧ _ ∧ _ ∧ _)
        go_simp
        clear z0 z1 z2 fz hno c9
        replace qs := q9
        refine hKK.out _ _ hH2 ?_
        clear hHeld
        intro hHeld
        clear hKK KK
        try simp only [Act.put, List.setIfInBounds_toArray, List.set_cons_zero, List.set_cons_succ]
        clear hH2
        generalize (((w11.setCell ⟨cqs, 0, none⟩ (.bool false)).setCell ⟨cqs, 1, none⟩ (.slice none 0 0)).setCell ⟨cqs, 2, none⟩ (.slice none 0 0)) = w12 at bT hS0 hT0 hS1 hT1 k1 k2 qs k3 k4 hHeld ⊢
        refine take' 10 (v := ?_) rfl (by kernel_rfl) (by kernel_rfl) (by kernel_rfl) (fun _ _ _ h => h) (Or.inl ⟨by rfl, ?_⟩) (by assumption) ?_
        rotate_left
        · intro w9 hSw
          go_simp
          first | done | with_reducible rfl
        simp only [Act.put, List.setIfInBounds_toArray, List.set_cons_zero, List.set_cons_succ]
        refine wpAnyH_done (by kernel_rfl) ?_ _
        go_wp2_with fail
        go_meet
        exact ⟨_, cqs, rfl, rfl, rfl, qs, bT⟩
      exact AllReadyH.nil
    refine consT rfl (fun KK hKK => ?_) ?_
    · skip
      go_simp
      have qs := Blk.new w0F #[.bool false, .slice none 0 0, .slice none 0 0] 27
      have bA := below_alloc (w := w0F) (.cells #[.bool false, .slice none 0 0, .slice none 0 0] 27)
      have hqsge := bT.size
      have hqsc0 := cell_ltB hHeld.1
      have hqsc1 := cell_ltB hHeld.2.1
      have hqsc2 := cell_ltB hHeld.2.2.1
      have hqsc3 := cell_ltB hHeld.2.2.2.1
      have hqsc4 := cell_ltB hHeld.2.2.2.2.1
      have hqsc5 := cell_ltB hHeld.2.2.2.2.2
      generalize w0F.alloc (.cells #[.bool false, .slice none 0 0, .slice none 0 0] 27) = w13 at qs bA ⊢
      replace bT := bT.trans (bA.mono bT.size)
      replace hS0 := hS0.later bA
      replace hT0 := hT0.later bA
      replace hS1 := hS1.later bA
      replace hT1 := hT1.later bA
      replace hHeld := (⟨below_cell bA hHeld.1, below_cell bA hHeld.2.1, below_cell bA hHeld.2.2.1, below_cell bA hHeld.2.2.2.1, below_cell bA hHeld.2.2.2.2.1, below_cell bA hHeld.2.2.2.2.2⟩ : _ ∧ _ ∧ _ ∧ _ ∧ _ ∧ _)
      clear bA
      refine hKK.out _ _ hHeld ?_
      clear hHeld
      intro hHeld
      clear hKK KK
      try simp only [Act.put, List.setIfInBounds_toArray, List.set_cons_zero, List.set_cons_succ]
      obtain ⟨cqs, hcc⟩ : ∃ cc, w0F.heap.size = cc := ⟨_, rfl⟩
      rw [hcc] at qs hqsge hqsc0 hqsc1 hqsc2 hqsc3 hqsc4 hqsc5
      try rw [hcc]
      clear hcc
      refine wpAnyH_ready (rs := [1]) (by kernel_rfl) (by simp) ?_
      refine cons' rfl (fun KK hKK => ?_)
      go_simp
      refine (GT0.out _ hS0 hT0).mono ?_
      rintro e w14 ⟨p, q, rfl, n1, n2⟩
      have bC := n1.below
      replace bT := bT.trans (bC.mono bT.size)
      replace hS0 := hS0.later bC
      replace hT0 := hT0.later bC
      replace hS1 := hS1.later bC
      replace hT1 := hT1.later bC
      replace qs := qs.later bC
      replace hHeld := (⟨below_cell bC hHeld.1, below_cell bC hHeld.2.1, below_cell bC hHeld.2.2.1, below_cell bC hHeld.2.2.2.1, below_cell bC hHeld.2.2.2.2.1, below_cell bC hHeld.2.2.2.2.2⟩ : _ ∧ _ ∧ _ ∧ _ ∧ _ ∧ _)
      clear bC
      go_wp2_with fail
      have k1 := n1.seg
      have k2 := n2.seg
      clear n1 n2
      refine hKK.out _ _ hHeld ?_
      clear hHeld
      intro hHeld
      clear hKK KK
      try simp only [Act.put, List.setIfInBounds_toArray, List.set_cons_zero, List.set_cons_succ]
      refine wpAnyH_ready (rs := [3]) (by kernel_rfl) (by simp) ?_
      refine cons' rfl (fun KK hKK => ?_)
      go_simp
      refine (GT1.out _ hS1 hT1).mono ?_
      rintro e w15 ⟨p2, q2, rfl, n1, n2⟩
      have bC := n1.below
      replace bT := bT.trans (bC.mono bT.size)
      replace hS0 := hS0.later bC
      replace hT0 := hT0.later bC
      replace hS1 := hS1.later bC
      replace hT1 := hT1.later bC
      replace qs := qs.later bC
      replace k1 := k1.later bC
      replace k2 := k2.later bC
      replace hHeld := (⟨below_cell bC hHeld.1, below_cell bC hHeld.2.1, below_cell bC hHeld.2.2.1, below_cell bC hHeld.2.2.2.1, below_cell bC hHeld.2.2.2.2.1, below_cell bC hHeld.2.2.2.2.2⟩ : _ ∧ _ ∧ _ ∧ _ ∧ _ ∧ _)
      clear bC
      go_wp2_with fail
      have k3 := n1.seg
      have k4 := n2.seg
      clear n1 n2
      refine hKK.out _ _ hHeld ?_
      clear hHeld
      intro hHeld
      clear hKK KK
      try simp only [Act.put, List.setIfInBounds_toArray, List.set_cons_zero, List.set_cons_succ]
      refine wpAnyH_ready (rs := [4]) (by kernel_rfl) (by simp) ?_
      refine cons' rfl (fun KK hKK => ?_)
      go_simp
      refine (G5.out _ p q p2 q2 k1 k2 k3 k4).mono ?_
      rintro e w16 ⟨rfl, b5⟩
      have bC := b5
      replace bT := bT.trans (bC.mono bT.size)
      replace hS0 := hS0.later bC
      replace hT0 := hT0.later bC
      replace hS1 := hS1.later bC
      replace hT1 := hT1.later bC
      replace qs := qs.later bC
      replace k1 := k1.later bC
      replace k2 := k2.later bC
      replace k3 := k3.later bC
      replace k4 := k4.later bC
      replace hHeld := (⟨below_cell bC hHeld.1, below_cell bC hHeld.2.1, below_cell bC hHeld.2.2.1, below_cell bC hHeld.2.2.2.1, below_cell bC hHeld.2.2.2.2.1, below_cell bC hHeld.2.2.2.2.2⟩ : _ ∧ _ ∧ _ ∧ _ ∧ _ ∧ _)
      clear bC
      go_wp2_with fail
      clear b5
      refine hKK.out _ _ hHeld ?_
      clear hHeld
      intro hHeld
      clear hKK KK
      try simp only [Act.put, List.setIfInBounds_toArray, List.set_cons_zero, List.set_cons_succ]
      refine take' 5 (v := ?_) rfl (by kernel_rfl) (by kernel_rfl) (by kernel_rfl) (fun _ _ _ h => h) (Or.inl ⟨by rfl, ?_⟩) (by assumption) ?_
      rotate_left
      · intro w9 hSw
        go_simp
        first | done | with_reducible rfl
      simp only [Act.put, List.setIfInBounds_toArray, List.set_cons_zero, List.set_cons_succ]
      refine take' 6 (v := ?_) rfl (by kernel_rfl) (by kernel_rfl) (by kernel_rfl) (fun _ _ _ h => h) (Or.inl ⟨by rfl, ?_⟩) (by assumption) ?_
      rotate_left
      · intro w9 hSw
        go_simp
        first | done | with_reducible rfl
      simp only [Act.put, List.setIfInBounds_toArray, List.set_cons_zero, List.set_cons_succ]
      refine take' 7 (v := ?_) rfl (by kernel_rfl) (by kernel_rfl) (by kernel_rfl) (fun _ _ _ h => h) (Or.inl ⟨by rfl, ?_⟩) (by assumption) ?_
      rotate_left
      · intro w9 hSw
        go_simp
        first | done | with_reducible rfl
      simp only [Act.put, List.setIfInBounds_toArray, List.set_cons_zero, List.set_cons_succ]
      refine wpAnyH_ready (rs := [9]) (by kernel_rfl) (by simp) ?_
      refine cons' rfl (fun KK hKK => ?_)
      have z0 := qs.cell 0
      have z1 := qs.cell 1
      have z2 := qs.cell 2
      simp only [List.getElem?_toArray, List.getElem?_cons_zero, List.getElem?_cons_succ] at z0 z1 z2
      have fz := fun o => qs.frozen o
      obtain ⟨c9, q9⟩ := qs.set3 (.bool false) (.slice none 0 0) (.slice none 0 0)
      have hno := qs.no (by simp)
      replace hS0 := hS0.ch c9 hno
      replace hT0 := hT0.ch c9 hno
      replace hS1 := hS1.ch c9 hno
      replace hT1 := hT1.ch c9 hno
      replace k1 := k1.ch c9 hno
      replace k2 := k2.ch c9 hno
      replace k3 := k3.ch c9 hno
      replace k4 := k4.ch c9 hno
      replace bT := bT.trans (c9.below (by omega))
      have hH2 := (⟨(World.cell?_of_block (w := w16) (a := ⟨w.heap.size, 0, none⟩) (c9.other (w.heap.size) (by omega))).trans hHeld.1, (World.cell?_of_block (w := w16) (a := ⟨w.heap.size, 1, none⟩) (c9.other (w.heap.size) (by omega))).trans hHeld.2.1, (World.cell?_of_block (w := w16) (a := ⟨w.heap.size, 2, none⟩) (c9.other (w.heap.size) (by omega))).trans hHeld.2.2.1, (World.cell?_of_block (w := w16) (a := ⟨w.heap.size + 1, 0, none⟩) (c9.other (w.heap.size + 1) (by omega))).trans hHeld.2.2.2.1, (World.cell?_of_block (w := w16) (a := ⟨w.heap.size + 1, 1, none⟩) (c9.other (w.heap.size + 1) (by omega))).trans hHeld.2.2.2.2.1, (World.cell?_of_block (w := w16) (a := ⟨w.heap.size + 1, 2, none⟩) (c9.other (w.heap.size + 1) (by omega))).trans hHeld.2.2.2.2.2⟩ : _ ∧ _ ∧ _ ∧ _ ∧ _ ∧ _)
      go_simp
      clear z0 z1 z2 fz hno c9
      replace qs := q9
      refine hKK.out _ _ hH2 ?_
      clear hHeld
      intro hHeld
      clear hKK KK
      try simp only [Act.put, List.setIfInBounds_toArray, List.set_cons_zero, List.set_cons_succ]
      clear hH2
      generalize (((w16.setCell ⟨cqs, 0, none⟩ (.bool false)).setCell ⟨cqs, 1, none⟩ (.slice none 0 0)).setCell ⟨cqs, 2, none⟩ (.slice none 0 0)) = w17 at bT hS0 hT0 hS1 hT1 qs k1 k2 k3 k4 hHeld ⊢
      refine take' 10 (v := ?_) rfl (by kernel_rfl) (by kernel_rfl) (by kernel_rfl) (fun _ _ _ h => h) (Or.inl ⟨by rfl, ?_⟩) (by assumption) ?_
      rotate_left
      · intro w9 hSw
        go_simp
        first | done | with_reducible rfl
      simp only [Act.put, List.setIfInBounds_toArray, List.set_cons_zero, List.set_cons_succ]
      refine wpAnyH_done (by kernel_rfl) ?_ _
      go_wp2_with fail
      go_meet
      exact ⟨_, cqs, rfl, rfl, rfl, qs, bT⟩
    exact AllReadyH.nil
  case rest =>
    obtain ⟨wc18, cs, hwv, rfl, rfl, qs, bT⟩ := hcut
    subst hwv
    replace hS0 := hS0.later bT
    replace hT0 := hT0.later bT
    replace hS1 := hS1.later bT
    replace hT1 := hT1.later bT
    replace hS2 := hS2.later bT
    replace hT2 := hT2.later bT
    replace qa := qa.later bT
    replace qb := qb.later bT
    replace qc := qc.later bT
    replace GD := hide' (GD.out.below bT)
    replace bel := bel.trans (bT.mono bel.size)
    clear bT
    clear G5 hbs
    go_upto_region 2 with fail
    have qa_0 := qa.cell 0
    have qa_1 := qa.cell 1
    have qa_2 := qa.cell 2
    have qb_0 := qb.cell 0
    have qb_1 := qb.cell 1
    have qb_2 := qb.cell 2
    simp only [List.getElem?_toArray, List.getElem?_cons_zero, List.getElem?_cons_succ] at qa_0 qa_1 qa_2 qb_0 qb_1 qb_2
    have bD : Below wc18.heap.size wc18 wc18.drew := (Below.refl _ _).drew
    have kqa_0 := below_cell bD qa_0
    have kqa_1 := below_cell bD qa_1
    have kqa_2 := below_cell bD qa_2
    have kqb_0 := below_cell bD qb_0
    have kqb_1 := below_cell bD qb_1
    have kqb_2 := below_cell bD qb_2
    replace GD := hide' (GD.out.below bD)
    replace bel := bel.trans (bD.mono bel.size)
    replace hS0 := hS0.later bD
    replace hT0 := hT0.later bD
    replace hS1 := hS1.later bD
    replace hT1 := hT1.later bD
    replace hS2 := hS2.later bD
    replace hT2 := hT2.later bD
    replace qa := qa.later bD
    replace qb := qb.later bD
    replace qc := qc.later bD
    replace qs := qs.later bD
    refine wp_region_held_drew (S := fun w' => w'.cell? ⟨w.heap.size, 0, none⟩ = some (.bool s0) ∧ w'.cell? ⟨w.heap.size, 1, none⟩ = some (.slice a0 n0 c0) ∧ w'.cell? ⟨w.heap.size, 2, none⟩ = some (.slice b0 m0 d0) ∧ w'.cell? ⟨w.heap.size + 1, 0, none⟩ = some (.bool s1) ∧ w'.cell? ⟨w.heap.size + 1, 1, none⟩ = some (.slice a1 n1 c1) ∧ w'.cell? ⟨w.heap.size + 1, 2, none⟩ = some (.slice b1 m1 d1)) (by kernel_rfl) ⟨kqa_0, kqa_1, kqa_2, kqb_0, kqb_1, kqb_2⟩ (fun hHeld => ?_)
    clear kqa_0 kqa_1 kqa_2 kqb_0 kqb_1 kqb_2
    generalize wc18.drew = w0G at bD GD hS0 hT0 hS1 hT1 hS2 hT2 qa qb qc qs bel hHeld ⊢
    clear bD qa_0 qa_1 qa_2 qb_0 qb_1 qb_2
    refine take' 0 (v := ?_) rfl (by kernel_rfl) (by kernel_rfl) (by kernel_rfl) (fun _ _ _ h => h) (Or.inl ⟨by rfl, ?_⟩) (by assumption) ?_
    rotate_left
    · intro w9 hSw
      go_simp
      first | done | with_reducible rfl
    simp only [Act.put, List.setIfInBounds_toArray, List.set_cons_zero, List.set_cons_succ]
    refine take' 1 (v := ?_) rfl (by kernel_rfl) (by kernel_rfl) (by kernel_rfl) (fun _ _ _ h => h) (Or.inl ⟨by rfl, ?_⟩) (by assumption) ?_
    rotate_left
    · intro w9 hSw
      go_simp
      first | done | with_reducible rfl
    simp only [Act.put, List.setIfInBounds_toArray, List.set_cons_zero, List.set_cons_succ]
    refine take' 2 (v := ?_) rfl (by kernel_rfl) (by kernel_rfl) (by kernel_rfl) (fun _ _ _ h => h) (Or.inl ⟨by rfl, ?_⟩) (by assumption) ?_
    rotate_left
    · intro w9 hSw
      go_simp
      first | done | with_reducible rfl
    simp only [Act.put, List.setIfInBounds_toArray, List.set_cons_zero, List.set_cons_succ]
    refine take' 4 (v := ?_) rfl (by kernel_rfl) (by kernel_rfl) (by kernel_rfl) (fun _ _ _ h => h) (Or.inl ⟨by rfl, ?_⟩) (by assumption) ?_
    rotate_left
    · intro w9 hSw
      go_simp
      first | done | with_reducible rfl
    simp only [Act.put, List.setIfInBounds_toArray, List.set_cons_zero, List.set_cons_succ]
    refine wpAnyH_ready (rs := [3]) (by kernel_rfl) (by simp) ?_
    refine cons' rfl (fun KK hKK => ?_)
    go_simp
    refine (GT0.out _ hS0 hT0).mono ?_
    rintro e w19 ⟨p, q, rfl, n1, n2⟩
    have bC := n1.below
    replace GD := hide' (GD.out.below bC)
    replace bel := bel.trans (bC.mono bel.size)
    replace hS0 := hS0.later bC
    replace hT0 := hT0.later bC
    replace hS1 := hS1.later bC
    replace hT1 := hT1.later bC
    replace hS2 := hS2.later bC
    replace hT2 := hT2.later bC
    replace qa := qa.later bC
    replace qb := qb.later bC
    replace qc := qc.later bC
    replace qs := qs.later bC
    replace hHeld := (⟨below_cell bC hHeld.1, below_cell bC hHeld.2.1, below_cell bC hHeld.2.2.1, below_cell bC hHeld.2.2.2.1, below_cell bC hHeld.2.2.2.2.1, below_cell bC hHeld.2.2.2.2.2⟩ : _ ∧ _ ∧ _ ∧ _ ∧ _ ∧ _)
    clear bC
    go_wp2_with fail
    have k1 := n1.seg
    have k2 := n2.seg
    clear n1 n2
    refine hKK.out _ _ hHeld ?_
    clear hHeld
    intro hHeld
    clear hKK KK
    try simp only [Act.put, List.setIfInBounds_toArray, List.set_cons_zero, List.set_cons_succ]
    refine wpAnyH_ready (rs := [5]) (by kernel_rfl) (by simp) ?_
    refine cons' rfl (fun KK hKK => ?_)
    go_simp
    refine (GT1.out _ hS1 hT1).mono ?_
    rintro e w20 ⟨p2, q2, rfl, n1, n2⟩
    have bC := n1.below
    replace GD := hide' (GD.out.below bC)
    replace bel := bel.trans (bC.mono bel.size)
    replace hS0 := hS0.later bC
    replace hT0 := hT0.later bC
    replace hS1 := hS1.later bC
    replace hT1 := hT1.later bC
    replace hS2 := hS2.later bC
    replace hT2 := hT2.later bC
    replace qa := qa.later bC
    replace qb := qb.later bC
    replace qc := qc.later bC
    replace qs := qs.later bC
    replace k1 := k1.later bC
    replace k2 := k2.later bC
    replace hHeld := (⟨below_cell bC hHeld.1, below_cell bC hHeld.2.1, below_cell bC hHeld.2.2.1, below_cell bC hHeld.2.2.2.1, below_cell bC hHeld.2.2.2.2.1, below_cell bC hHeld.2.2.2.2.2⟩ : _ ∧ _ ∧ _ ∧ _ ∧ _ ∧ _)
    clear bC
    go_wp2_with fail
    have k3 := n1.seg
    have k4 := n2.seg
    clear n1 n2
    refine hKK.out _ _ hHeld ?_
    clear hHeld
    intro hHeld
    clear hKK KK
    try simp only [Act.put, List.setIfInBounds_toArray, List.set_cons_zero, List.set_cons_succ]
    refine wpAnyH_ready (rs := [6]) (by kernel_rfl) (by simp) ?_
    refine cons' rfl (fun KK hKK => ?_)
    go_simp
    refine (GC.out _ p q p2 q2 k1 k2 k3 k4).mono ?_
    rintro e w21 ⟨rfl, b1⟩
    have bC := b1
    replace GD := hide' (GD.out.below bC)
    replace bel := bel.trans (bC.mono bel.size)
    replace hS0 := hS0.later bC
    replace hT0 := hT0.later bC
    replace hS1 := hS1.later bC
    replace hT1 := hT1.later bC
    replace hS2 := hS2.later bC
    replace hT2 := hT2.later bC
    replace qa := qa.later bC
    replace qb := qb.later bC
    replace qc := qc.later bC
    replace qs := qs.later bC
    replace k1 := k1.later bC
    replace k2 := k2.later bC
    replace k3 := k3.later bC
    replace k4 := k4.later bC
    replace hHeld := (⟨below_cell bC hHeld.1, below_cell bC hHeld.2.1, below_cell bC hHeld.2.2.1, below_cell bC hHeld.2.2.2.1, below_cell bC hHeld.2.2.2.2.1, below_cell bC hHeld.2.2.2.2.2⟩ : _ ∧ _ ∧ _ ∧ _ ∧ _ ∧ _)
    clear bC
    go_wp2_with fail
    clear b1
    refine hKK.out _ _ hHeld ?_
    clear hHeld
    intro hHeld
    clear hKK KK
    try simp only [Act.put, List.setIfInBounds_toArray, List.set_cons_zero, List.set_cons_succ]
    refine take' 7 (v := ?_) rfl (by kernel_rfl) (by kernel_rfl) (by kernel_rfl) (fun _ _ _ h => h) (Or.inl ⟨by rfl, ?_⟩) (by assumption) ?_
    rotate_left
    · intro w9 hSw
      go_simp
      first | done | with_reducible rfl
    simp only [Act.put, List.setIfInBounds_toArray, List.set_cons_zero, List.set_cons_succ]
    refine take' 8 (v := ?_) rfl (by kernel_rfl) (by kernel_rfl) (by kernel_rfl) (fun _ _ _ h => h) (Or.inl ⟨by rfl, ?_⟩) (by assumption) ?_
    rotate_left
    · intro w9 hSw
      go_simp
      first | done | with_reducible rfl
    simp only [Act.put, List.setIfInBounds_toArray, List.set_cons_zero, List.set_cons_succ]
    refine take' 9 (v := ?_) rfl (by kernel_rfl) (by kernel_rfl) (by kernel_rfl) (fun _ _ _ h => h) (Or.inl ⟨by rfl, ?_⟩) (by assumption) ?_
    rotate_left
    · intro w9 hSw
      go_simp
      first | done | with_reducible rfl
    simp only [Act.put, List.setIfInBounds_toArray, List.set_cons_zero, List.set_cons_succ]
    refine wpAnyH_ready (rs := [10]) (by kernel_rfl) (by simp) ?_
    refine cons' rfl (fun KK hKK => ?_)
    go_simp
    refine (half_is _ GD.out).mono ?_
    rintro e w22 ⟨rfl, b1⟩
    have bC := b1
    replace GD := hide' (GD.out.below bC)
    replace bel := bel.trans (bC.mono bel.size)
    replace hS0 := hS0.later bC
    replace hT0 := hT0.later bC
    replace hS1 := hS1.later bC
    replace hT1 := hT1.later bC
    replace hS2 := hS2.later bC
    replace hT2 := hT2.later bC
    replace qa := qa.later bC
    replace qb := qb.later bC
    replace qc := qc.later bC
    replace qs := qs.later bC
    replace k1 := k1.later bC
    replace k2 := k2.later bC
    replace k3 := k3.later bC
    replace k4 := k4.later bC
    replace hHeld := (⟨below_cell bC hHeld.1, below_cell bC hHeld.2.1, below_cell bC hHeld.2.2.1, below_cell bC hHeld.2.2.2.1, below_cell bC hHeld.2.2.2.2.1, below_cell bC hHeld.2.2.2.2.2⟩ : _ ∧ _ ∧ _ ∧ _ ∧ _ ∧ _)
    clear bC
    go_wp2_with fail
    clear b1
    refine hKK.out _ _ hHeld ?_
    clear hHeld
    intro hHeld
    clear hKK KK
    try simp only [Act.put, List.setIfInBounds_toArray, List.set_cons_zero, List.set_cons_succ]
    refine take' 11 (v := ?_) rfl (by kernel_rfl) (by kernel_rfl) (by kernel_rfl) (fun _ _ _ h => h) (Or.inl ⟨by rfl, ?_⟩) (by assumption) ?_
    rotate_left
    · intro w9 hSw
      go_simp
      first | done | with_reducible rfl
    simp only [Act.put, List.setIfInBounds_toArray, List.set_cons_zero, List.set_cons_succ]
    refine take' 12 (v := ?_) rfl (by kernel_rfl) (by kernel_rfl) (by kernel_rfl) (fun _ _ _ h => h) (Or.inl ⟨by rfl, ?_⟩) (by assumption) ?_
    rotate_left
    · intro w9 hSw
      go_simp
      first | done | with_reducible rfl
    simp only [Act.put, List.setIfInBounds_toArray, List.set_cons_zero, List.set_cons_succ]
    refine wpAnyH_done (by kernel_rfl) ?_ _
    skip
    clear k1 k2 k3 k4
    clear GC
    go_wp2
    go_ret
    exact ⟨rfl, bel⟩
set_option maxHeartbeats 8000000 in
set_option maxRecDepth 100000 in
theorem walkA (s0 : Bool) (a0 : Option Addr) (n0 c0 X0 : Nat) (b0 : Option Addr) (m0 d0 Y0 : Nat) (s1 : Bool) (a1 : Option Addr) (n1 c1 X1 : Nat) (b1 : Option Addr) (m1 d1 Y1 : Nat) (s2 : Bool) (a2 : Option Addr) (n2 c2 X2 : Nat) (b2 : Option Addr) (m2 d2 Y2 : Nat) (w : World) (hc0 : n0 ≤ c0) (hm0 : n0 ≤ 35184372087808) (hS0 : Seg w a0 X0 n0) (hd0 : m0 ≤ d0) (hk0 : m0 ≤ 35184372087808) (hT0 : Seg w b0 Y0 m0) (hc1 : n1 ≤ c1) (hm1 : n1 ≤ 35184372087808) (hS1 : Seg w a1 X1 n1) (hd1 : m1 ≤ d1) (hk1 : m1 ≤ 35184372087808) (hT1 : Seg w b1 Y1 m1) (hc2 : n2 ≤ c2) (hm2 : n2 ≤ 35184372087808) (hS2 : Seg w a2 X2 n2) (hd2 : m2 ≤ d2) (hk2 : m2 ≤ 35184372087808) (hT2 : Seg w b2 Y2 m2) (hDg : Digits w) (Zx : Int) (Vx : Nat) (hx : Low (rn s2 X2 Y2) ((rd Y2 : Nat) : Int) Zx Vx) (lZ : ln (am Zx) ≤ 35184372087809) (lV : ln Vx ≤ 35184372087809) (hC : sgn (rn s0 X0 Y0 * ((rd Y1 : Nat) : Int) - rn s1 X1 Y1 * ((rd Y0 : Nat) : Int)) = -1) (hlt : rn s0 X0 Y0 * ((rd Y1 : Nat) : Int) < rn s1 X1 Y1 * ((rd Y0 : Nat) : Int))  :
    Calls Tryz.prog 4 #[Value.agg #[Value.bool s0, Value.slice a0 n0 c0, Value.slice b0 m0 d0], Value.agg #[Value.bool s1, Value.slice a1 n1 c1, Value.slice b1 m1 d1], Value.agg #[Value.bool s2, Value.slice a2 n2 c2, Value.slice b2 m2 d2]] w fun e w' => e = .returned (.bool true) ∧ Below w.heap.size w w' := by
  have hV0 := hx.pos
  have GN := hide' (fun w' k1 k2 => vqNorm_is s2 a2 n2 c2 X2 b2 m2 d2 Y2 Vx Zx w' (by omega) k1 (by omega) k2 hx)
  clear hx
  have GT0 := hide' (fun w' k1 k2 => ltwin_is s0 a0 n0 c0 X0 b0 m0 d0 Y0 w' hc0 (by omega) k1 hd0 (by omega) k2)
  have GT1 := hide' (fun w' k1 k2 => ltwin_is s1 a1 n1 c1 X1 b1 m1 d1 Y1 w' hc1 (by omega) k1 hd1 (by omega) k2)
  have G5 := hide' (fun w' p q p2 q2 (k1 : Seg w' p X0 n0) (k2 : Seg w' q Y0 m0) (k3 : Seg w' p2 X1 n1) (k4 : Seg w' q2 Y1 m1) => (Simplest_is s0 p n0 n0 X0 q m0 m0 Y0 s1 p2 n1 n1 X1 q2 m1 m1 Y1 w' (Nat.le_refl _) hm0 k1 (Nat.le_refl _) hk0 k2 (Nat.le_refl _) hm1 k3 (Nat.le_refl _) hk1 k4).mono (fun e w2 h => (show ∃ (P : Int) (Q : Nat) (pa pb : Option Addr), Si (rn s0 X0 Y0) ((rd Y0 : Nat) : Int) (rn s1 X1 Y1) ((rd Y1 : Nat) : Int) P Q ∧ Nat.gcd (am P) Q = 1 ∧ ln (am P) ≤ 35184372087809 ∧ ln Q ≤ 35184372087809 ∧ e = .returned (.tuple #[.agg #[.bool (ng P), .slice pa (ln (am P)) (ln (am P)), .slice pb (ln Q) (ln Q)], .int .i64 0]) ∧ Below w'.heap.size w' w2 ∧ Seg w2 pa (am P) (ln (am P)) ∧ Seg w2 pb Q (ln Q) by rcases h with ⟨h, _⟩ | ⟨_, h⟩ <;> first | exact h | omega)))
  have GC := hide' (fun w' p q p2 q2 (k1 : Seg w' p X0 n0) (k2 : Seg w' q Y0 m0) (k3 : Seg w' p2 X1 n1) (k4 : Seg w' q2 Y1 m1) => qCmp_is s0 p n0 n0 X0 q m0 m0 Y0 s1 p2 n1 n1 X1 q2 m1 m1 Y1 (-1) w' (Nat.le_refl _) (by omega) k1 (Nat.le_refl _) (by omega) k2 (Nat.le_refl _) (by omega) k3 (Nat.le_refl _) (by omega) k4 hC)
  have GD := hide' hDg
  have HC := hide' hC
  have HL := hide' hlt
  clear hDg hC hlt
  have bel : Below w.heap.size w w := Below.refl _ _
  have bb := below_alloc (w := w) (.cells #[.bool s0, .slice a0 n0 c0, .slice b0 m0 d0] 27)
  replace hS0 := hS0.later bb
  replace hT0 := hT0.later bb
  replace hS1 := hS1.later bb
  replace hT1 := hT1.later bb
  replace hS2 := hS2.later bb
  replace hT2 := hT2.later bb
  replace GD := hide' (GD.out.below bb)
  replace bel := bel.trans (bb.mono bel.size)
  clear bb
  have qa := Blk.new w #[.bool s0, .slice a0 n0 c0, .slice b0 m0 d0] 27
  have bb := below_alloc (w := (w.alloc (.cells #[.bool s0, .slice a0 n0 c0, .slice b0 m0 d0] 27))) (.cells #[.bool s1, .slice a1 n1 c1, .slice b1 m1 d1] 27)
  replace hS0 := hS0.later bb
  replace hT0 := hT0.later bb
  replace hS1 := hS1.later bb
  replace hT1 := hT1.later bb
  replace hS2 := hS2.later bb
  replace hT2 := hT2.later bb
  replace qa := qa.later bb
  replace GD := hide' (GD.out.below bb)
  replace bel := bel.trans (bb.mono bel.size)
  clear bb
  have qb := Blk.new (w.alloc (.cells #[.bool s0, .slice a0 n0 c0, .slice b0 m0 d0] 27)) #[.bool s1, .slice a1 n1 c1, .slice b1 m1 d1] 27
  simp only [World.size_alloc] at qb
  have bb := below_alloc (w := ((w.alloc (.cells #[.bool s0, .slice a0 n0 c0, .slice b0 m0 d0] 27)).alloc (.cells #[.bool s1, .slice a1 n1 c1, .slice b1 m1 d1] 27))) (.cells #[.bool s2, .slice a2 n2 c2, .slice b2 m2 d2] 27)
  replace hS0 := hS0.later bb
  replace hT0 := hT0.later bb
  replace hS1 := hS1.later bb
  replace hT1 := hT1.later bb
  replace hS2 := hS2.later bb
  replace hT2 := hT2.later bb
  replace qa := qa.later bb
  replace qb := qb.later bb
  replace GD := hide' (GD.out.below bb)
  replace bel := bel.trans (bb.mono bel.size)
  clear bb
  have qc := Blk.new ((w.alloc (.cells #[.bool s0, .slice a0 n0 c0, .slice b0 m0 d0] 27)).alloc (.cells #[.bool s1, .slice a1 n1 c1, .slice b1 m1 d1] 27)) #[.bool s2, .slice a2 n2 c2, .slice b2 m2 d2] 27
  simp only [World.size_alloc] at qc
  go_enter Tryz.func4, Tryz.ntmps4
  go_wp2_with fail
  obtain ⟨W0, hW⟩ : ∃ W, (((w.alloc (.cells #[.bool s0, .slice a0 n0 c0, .slice b0 m0 d0] 27)).alloc (.cells #[.bool s1, .slice a1 n1 c1, .slice b1 m1 d1] 27)).alloc (.cells #[.bool s2, .slice a2 n2 c2, .slice b2 m2 d2] 27)) = W := ⟨_, rfl⟩
  rw [hW] at bel hS0 hT0 hS1 hT1 hS2 hT2 qa qb qc GD ⊢
  clear hW
  have hbs := bel.size
  have bT : Below W0.heap.size W0 W0 := Below.refl _ _
  go_cut [7, 8] from 11 to 18 (fun s7_ s8_ wx => ∃ (wh9 : World) (cs : Nat) (P : Int) (Q : Nat) (pa pb : Option Addr), wh9 = wx ∧ s7_ = .pointer (some ⟨cs, 0, none⟩) ∧ s8_ = .int .i64 0 ∧ Blk wx cs #[.bool (ng P), .slice pa (ln (am P)) (ln (am P)), .slice pb (ln Q) (ln Q)] 27 ∧ Seg wx pa (am P) (ln (am P)) ∧ Seg wx pb Q (ln Q) ∧ Si (rn s0 X0 Y0) ((rd Y0 : Nat) : Int) (rn s1 X1 Y1) ((rd Y1 : Nat) : Int) P Q ∧ Nat.gcd (am P) Q = 1 ∧ ln (am P) ≤ 35184372087809 ∧ ln Q ≤ 35184372087809 ∧ Below W0.heap.size W0 wx)
  case first =>
    clear GD GC
    have qa_0 := qa.cell 0
    have qa_1 := qa.cell 1
    have qa_2 := qa.cell 2
    have qb_0 := qb.cell 0
    have qb_1 := qb.cell 1
    have qb_2 := qb.cell 2
    simp only [List.getElem?_toArray, List.getElem?_cons_zero, List.getElem?_cons_succ] at qa_0 qa_1 qa_2 qb_0 qb_1 qb_2
    have bD : Below W0.heap.size W0 W0.drew := (Below.refl _ _).drew
    have kqa_0 := below_cell bD qa_0
    have kqa_1 := below_cell bD qa_1
    have kqa_2 := below_cell bD qa_2
    have kqb_0 := below_cell bD qb_0
    have kqb_1 := below_cell bD qb_1
    have kqb_2 := below_cell bD qb_2
    replace bT := bT.trans (bD.mono bT.size)
    replace hS0 := hS0.later bD
    replace hT0 := hT0.later bD
    replace hS1 := hS1.later bD
    replace hT1 := hT1.later bD
    replace hS2 := hS2.later bD
    replace hT2 := hT2.later bD
    replace qa := qa.later bD
    replace qb := qb.later bD
    replace qc := qc.later bD
    refine wp_region_held_drew (S := fun w' => w'.cell? ⟨w.heap.size, 0, none⟩ = some (.bool s0) ∧ w'.cell? ⟨w.heap.size, 1, none⟩ = some (.slice a0 n0 c0) ∧ w'.cell? ⟨w.heap.size, 2, none⟩ = some (.slice b0 m0 d0) ∧ w'.cell? ⟨w.heap.size + 1, 0, none⟩ = some (.bool s1) ∧ w'.cell? ⟨w.heap.size + 1, 1, none⟩ = some (.slice a1 n1 c1) ∧ w'.cell? ⟨w.heap.size + 1, 2, none⟩ = some (.slice b1 m1 d1)) (by kernel_rfl) ⟨kqa_0, kqa_1, kqa_2, kqb_0, kqb_1, kqb_2⟩ (fun hHeld => ?_)
    clear kqa_0 kqa_1 kqa_2 kqb_0 kqb_1 kqb_2
    generalize W0.drew = w0F at bD hS0 hT0 hS1 hT1 hS2 hT2 qa qb qc bT hHeld ⊢
    clear bD qa_0 qa_1 qa_2 qb_0 qb_1 qb_2
    have lqa := qa.lt
    have lqb := qb.lt
    have lqc := qc.lt
    clear qa qb qc hS2 hT2
    refine take' 0 (v := ?_) rfl (by kernel_rfl) (by kernel_rfl) (by kernel_rfl) (fun _ _ _ h => h) (Or.inl ⟨by rfl, ?_⟩) (by assumption) ?_
    rotate_left
    · intro w9 hSw
      go_simp
      first | done | with_reducible rfl
    simp only [Act.put, List.setIfInBounds_toArray, List.set_cons_zero, List.set_cons_succ]
    refine take' 2 (v := ?_) rfl (by kernel_rfl) (by kernel_rfl) (by kernel_rfl) (fun _ _ _ h => h) (Or.inl ⟨by rfl, ?_⟩) (by assumption) ?_
    rotate_left
    · intro w9 hSw
      go_simp
      first | done | with_reducible rfl
    simp only [Act.put, List.setIfInBounds_toArray, List.set_cons_zero, List.set_cons_succ]
    refine wpAnyH_ready (rs := [1, 8]) (by kernel_rfl) (by simp) ?_
    refine consT rfl (fun KK hKK => ?_) ?_
    · skip
      go_simp
      refine (GT0.out _ hS0 hT0).mono ?_
      rintro e w1 ⟨p, q, rfl, n1, n2⟩
      have bC := n1.below
      replace bT := bT.trans (bC.mono bT.size)
      replace hS0 := hS0.later bC
      replace hT0 := hT0.later bC
      replace hS1 := hS1.later bC
      replace hT1 := hT1.later bC
      replace hHeld := (⟨below_cell bC hHeld.1, below_cell bC hHeld.2.1, below_cell bC hHeld.2.2.1, below_cell bC hHeld.2.2.2.1, below_cell bC hHeld.2.2.2.2.1, below_cell bC hHeld.2.2.2.2.2⟩ : _ ∧ _ ∧ _ ∧ _ ∧ _ ∧ _)
      clear bC
      go_wp2_with fail
      have k1 := n1.seg
      have k2 := n2.seg
      clear n1 n2
      refine hKK.out _ _ hHeld ?_
      clear hHeld
      intro hHeld
      clear hKK KK
      try simp only [Act.put, List.setIfInBounds_toArray, List.set_cons_zero, List.set_cons_succ]
      refine wpAnyH_ready (rs := [3, 8]) (by kernel_rfl) (by simp) ?_
      refine consT rfl (fun KK hKK => ?_) ?_
      · skip
        go_simp
        refine (GT1.out _ hS1 hT1).mono ?_
        rintro e w2 ⟨p2, q2, rfl, n1, n2⟩
        have bC := n1.below
        replace bT := bT.trans (bC.mono bT.size)
        replace hS0 := hS0.later bC
        replace hT0 := hT0.later bC
        replace hS1 := hS1.later bC
        replace hT1 := hT1.later bC
        replace k1 := k1.later bC
        replace k2 := k2.later bC
        replace hHeld := (⟨below_cell bC hHeld.1, below_cell bC hHeld.2.1, below_cell bC hHeld.2.2.1, below_cell bC hHeld.2.2.2.1, below_cell bC hHeld.2.2.2.2.1, below_cell bC hHeld.2.2.2.2.2⟩ : _ ∧ _ ∧ _ ∧ _ ∧ _ ∧ _)
        clear bC
        go_wp2_with fail
        have k3 := n1.seg
        have k4 := n2.seg
        clear n1 n2
        refine hKK.out _ _ hHeld ?_
        clear hHeld
        intro hHeld
        clear hKK KK
        try simp only [Act.put, List.setIfInBounds_toArray, List.set_cons_zero, List.set_cons_succ]
        refine wpAnyH_ready (rs := [4, 8]) (by kernel_rfl) (by simp) ?_
        refine consT rfl (fun KK hKK => ?_) ?_
        · skip
          go_simp
          refine (G5.out _ p q p2 q2 k1 k2 k3 k4).mono ?_
          rintro e w3 ⟨P, Q, pa, pb, hSi, hg, lP, lQ, rfl, b5, kP, kQ⟩
          have bC := b5
          replace bT := bT.trans (bC.mono bT.size)
          replace hS0 := hS0.later bC
          replace hT0 := hT0.later bC
          replace hS1 := hS1.later bC
          replace hT1 := hT1.later bC
          replace k1 := k1.later bC
          replace k2 := k2.later bC
          replace k3 := k3.later bC
          replace k4 := k4.later bC
          replace hHeld := (⟨below_cell bC hHeld.1, below_cell bC hHeld.2.1, below_cell bC hHeld.2.2.1, below_cell bC hHeld.2.2.2.1, below_cell bC hHeld.2.2.2.2.1, below_cell bC hHeld.2.2.2.2.2⟩ : _ ∧ _ ∧ _ ∧ _ ∧ _ ∧ _)
          clear bC
          go_wp2_with fail
          clear b5
          refine hKK.out _ _ hHeld ?_
          clear hHeld
          intro hHeld
          clear hKK KK
          try simp only [Act.put, List.setIfInBounds_toArray, List.set_cons_zero, List.set_cons_succ]
          have HF := hide' (And.intro hSi (And.intro hg (And.intro lP lQ)))
          clear hSi hg lP lQ
          refine take' 5 (v := ?_) rfl (by kernel_rfl) (by kernel_rfl) (by kernel_rfl) (fun _ _ _ h => h) (Or.inl ⟨by rfl, ?_⟩) (by assumption) ?_
          rotate_left
          · intro w9 hSw
            go_simp
            first | done | with_reducible rfl
          simp only [Act.put, List.setIfInBounds_toArray, List.set_cons_zero, List.set_cons_succ]
          refine take' 6 (v := ?_) rfl (by kernel_rfl) (by kernel_rfl) (by kernel_rfl) (fun _ _ _ h => h) (Or.inl ⟨by rfl, ?_⟩) (by assumption) ?_
          rotate_left
          · intro w9 hSw
            go_simp
            first | done | with_reducible rfl
          simp only [Act.put, List.setIfInBounds_toArray, List.set_cons_zero, List.set_cons_succ]
          refine take' 7 (v := ?_) rfl (by kernel_rfl) (by kernel_rfl) (by kernel_rfl) (fun _ _ _ h => h) (Or.inl ⟨by rfl, ?_⟩) (by assumption) ?_
          rotate_left
          · intro w9 hSw
            go_simp
            first | done | with_reducible rfl
          simp only [Act.put, List.setIfInBounds_toArray, List.set_cons_zero, List.set_cons_succ]
          refine wpAnyH_ready (rs := [8]) (by kernel_rfl) (by simp) ?_
          refine cons' rfl (fun KK hKK => ?_)
          go_simp
          have qs := Blk.new w3 #[.bool false, .slice none 0 0, .slice none 0 0] 27
          have bA := below_alloc (w := w3) (.cells #[.bool false, .slice none 0 0, .slice none 0 0] 27)
          have hqsge := bT.size
          have hqsc0 := cell_ltB hHeld.1
          have hqsc1 := cell_ltB hHeld.2.1
          have hqsc2 := cell_ltB hHeld.2.2.1
          have hqsc3 := cell_ltB hHeld.2.2.2.1
          have hqsc4 := cell_ltB hHeld.2.2.2.2.1
          have hqsc5 := cell_ltB hHeld.2.2.2.2.2
          generalize w3.alloc (.cells #[.bool false, .slice none 0 0, .slice none 0 0] 27) = w4 at qs bA ⊢
          replace bT := bT.trans (bA.mono bT.size)
          replace hS0 := hS0.later bA
          replace hT0 := hT0.later bA
          replace hS1 := hS1.later bA
          replace hT1 := hT1.later bA
          replace k1 := k1.later bA
          replace k2 := k2.later bA
          replace k3 := k3.later bA
          replace k4 := k4.later bA
          replace kP := kP.later bA
          replace kQ := kQ.later bA
          replace hHeld := (⟨below_cell bA hHeld.1, below_cell bA hHeld.2.1, below_cell bA hHeld.2.2.1, below_cell bA hHeld.2.2.2.1, below_cell bA hHeld.2.2.2.2.1, below_cell bA hHeld.2.2.2.2.2⟩ : _ ∧ _ ∧ _ ∧ _ ∧ _ ∧ _)
          clear bA
          refine hKK.out _ _ hHeld ?_
          clear hHeld
          intro hHeld
          clear hKK KK
          try simp only [Act.put, List.setIfInBounds_toArray, List.set_cons_zero, List.set_cons_succ]
          obtain ⟨cqs, hcc⟩ : ∃ cc, w3.heap.size = cc := ⟨_, rfl⟩
          rw [hcc] at qs hqsge hqsc0 hqsc1 hqsc2 hqsc3 hqsc4 hqsc5
          try rw [hcc]
          clear hcc
          refine wpAnyH_ready (rs := [9]) (by kernel_rfl) (by simp) ?_
          refine cons' rfl (fun KK hKK => ?_)
          have z0 := qs.cell 0
          have z1 := qs.cell 1
          have z2 := qs.cell 2
          simp only [List.getElem?_toArray, List.getElem?_cons_zero, List.getElem?_cons_succ] at z0 z1 z2
          have fz := fun o => qs.frozen o
          obtain ⟨c9, q9⟩ := qs.set3 (.bool (ng P)) (.slice pa (ln (am P)) (ln (am P))) (.slice pb (ln Q) (ln Q))
          have hno := qs.no (by simp)
          replace hS0 := hS0.ch c9 hno
          replace hT0 := hT0.ch c9 hno
          replace hS1 := hS1.ch c9 hno
          replace hT1 := hT1.ch c9 hno
          replace k1 := k1.ch c9 hno
          replace k2 := k2.ch c9 hno
          replace k3 := k3.ch c9 hno
          replace k4 := k4.ch c9 hno
          replace kP := kP.ch c9 hno
          replace kQ := kQ.ch c9 hno
          replace bT := bT.trans (c9.below (by omega))
          have hH2 := (⟨(World.cell?_of_block (w := w4) (a := ⟨w.heap.size, 0, none⟩) (c9.other (w.heap.size) (by omega))).trans hHeld.1, (World.cell?_of_block (w := w4) (a := ⟨w.heap.size, 1, none⟩) (c9.other (w.heap.size) (by omega))).trans hHeld.2.1, (World.cell?_of_block (w := w4) (a := ⟨w.heap.size, 2, none⟩) (c9.other (w.heap.size) (by omega))).trans hHeld.2.2.1, (World.cell?_of_block (w := w4) (a := ⟨w.heap.size + 1, 0, none⟩) (c9.other (w.heap.size + 1) (by omega))).trans hHeld.2.2.2.1, (World.cell?_of_block (w := w4) (a := ⟨w.heap.size + 1, 1, none⟩) (c9.other (w.heap.size + 1) (by omega))).trans hHeld.2.2.2.2.1, (World.cell?_of_block (w := w4) (a := ⟨w.heap.size + 1, 2, none⟩) (c9.other (w.heap.size + 1) (by omega))).trans hHeld.2.2.2.2.2⟩ : _ ∧ _ ∧ _ ∧ _ ∧ _ ∧ _)
          go_simp
          clear z0 z1 z2 fz hno c9
          replace qs := q9
          refine hKK.out _ _ hH2 ?_
          clear hHeld
          intro hHeld
          clear hKK KK
          try simp only [Act.put, List.setIfInBounds_toArray, List.set_cons_zero, List.set_cons_succ]
          clear hH2
          generalize (((w4.setCell ⟨cqs, 0, none⟩ (.bool (ng P))).setCell ⟨cqs, 1, none⟩ (.slice pa (ln (am P)) (ln (am P)))).setCell ⟨cqs, 2, none⟩ (.slice pb (ln Q) (ln Q))) = w5 at bT hS0 hT0 hS1 hT1 k1 k2 k3 k4 kP kQ qs hHeld ⊢
          refine take' 10 (v := ?_) rfl (by kernel_rfl) (by kernel_rfl) (by kernel_rfl) (fun _ _ _ h => h) (Or.inl ⟨by rfl, ?_⟩) (by assumption) ?_
          rotate_left
          · intro w9 hSw
            go_simp
            first | done | with_reducible rfl
          simp only [Act.put, List.setIfInBounds_toArray, List.set_cons_zero, List.set_cons_succ]
          refine wpAnyH_done (by kernel_rfl) ?_ _
          go_wp2_with fail
          go_meet
          exact ⟨_, cqs, P, Q, pa, pb, rfl, rfl, rfl, qs, kP, kQ, HF.out.1, HF.out.2.1, HF.out.2.2.1, HF.out.2.2.2, bT⟩
        refine consT rfl (fun KK hKK => ?_) ?_
        · skip
          go_simp
          have qs := Blk.new w2 #[.bool false, .slice none 0 0, .slice none 0 0] 27
          have bA := below_alloc (w := w2) (.cells #[.bool false, .slice none 0 0, .slice none 0 0] 27)
          have hqsge := bT.size
          have hqsc0 := cell_ltB hHeld.1
          have hqsc1 := cell_ltB hHeld.2.1
          have hqsc2 := cell_ltB hHeld.2.2.1
          have hqsc3 := cell_ltB hHeld.2.2.2.1
          have hqsc4 := cell_ltB hHeld.2.2.2.2.1
          have hqsc5 := cell_ltB hHeld.2.2.2.2.2
          generalize w2.alloc (.cells #[.bool false, .slice none 0 0, .slice none 0 0] 27) = w6 at qs bA ⊢
          replace bT := bT.trans (bA.mono bT.size)
          replace hS0 := hS0.later bA
          replace hT0 := hT0.later bA
          replace hS1 := hS1.later bA
          replace hT1 := hT1.later bA
          replace k1 := k1.later bA
          replace k2 := k2.later bA
          replace k3 := k3.later bA
          replace k4 := k4.later bA
          replace hHeld := (⟨below_cell bA hHeld.1, below_cell bA hHeld.2.1, below_cell bA hHeld.2.2.1, below_cell bA hHeld.2.2.2.1, below_cell bA hHeld.2.2.2.2.1, below_cell bA hHeld.2.2.2.2.2⟩ : _ ∧ _ ∧ _ ∧ _ ∧ _ ∧ _)
          clear bA
          refine hKK.out _ _ hHeld ?_
          clear hHeld
          intro hHeld
          clear hKK KK
          try simp only [Act.put, List.setIfInBounds_toArray, List.set_cons_zero, List.set_cons_succ]
          obtain ⟨cqs, hcc⟩ : ∃ cc, w2.heap.size = cc := ⟨_, rfl⟩
          rw [hcc] at qs hqsge hqsc0 hqsc1 hqsc2 hqsc3 hqsc4 hqsc5
          try rw [hcc]
          clear hcc
          refine wpAnyH_ready (rs := [4]) (by kernel_rfl) (by simp) ?_
          refine cons' rfl (fun KK hKK => ?_)
          go_simp
          refine (G5.out _ p q p2 q2 k1 k2 k3 k4).mono ?_
          rintro e w7 ⟨P, Q, pa, pb, hSi, hg, lP, lQ, rfl, b5, kP, kQ⟩
          have bC := b5
          replace bT := bT.trans (bC.mono bT.size)
          replace hS0 := hS0.later bC
          replace hT0 := hT0.later bC
          replace hS1 := hS1.later bC
          replace hT1 := hT1.later bC
          replace k1 := k1.later bC
          replace k2 := k2.later bC
          replace k3 := k3.later bC
          replace k4 := k4.later bC
          replace qs := qs.later bC
          replace hHeld := (⟨below_cell bC hHeld.1, below_cell bC hHeld.2.1, below_cell bC hHeld.2.2.1, below_cell bC hHeld.2.2.2.1, below_cell bC hHeld.2.2.2.2.1, below_cell bC hHeld.2.2.2.2.2⟩ : _ ∧ _ ∧ _ ∧ _ ∧ _ ∧ _)
          clear bC
          go_wp2_with fail
          clear b5
          refine hKK.out _ _ hHeld ?_
          clear hHeld
          intro hHeld
          clear hKK KK
          try simp only [Act.put, List.setIfInBounds_toArray, List.set_cons_zero, List.set_cons_succ]
          have HF := hide' (And.intro hSi (And.intro hg (And.intro lP lQ)))
          clear hSi hg lP lQ
          refine take' 5 (v := ?_) rfl (by kernel_rfl) (by kernel_rfl) (by kernel_rfl) (fun _ _ _ h => h) (Or.inl ⟨by rfl, ?_⟩) (by assumption) ?_
          rotate_left
          · intro w9 hSw
            go_simp
            first | done | with_reducible rfl
          simp only [Act.put, List.setIfInBounds_toArray, List.set_cons_zero, List.set_cons_succ]
          refine take' 6 (v := ?_) rfl (by kernel_rfl) (by kernel_rfl) (by kernel_rfl) (fun _ _ _ h => h) (Or.inl ⟨by rfl, ?_⟩) (by assumption) ?_
          rotate_left
          · intro w9 hSw
            go_simp
            first | done | with_reducible rfl
          simp only [Act.put, List.setIfInBounds_toArray, List.set_cons_zero, List.set_cons_succ]
          refine take' 7 (v := ?_) rfl (by kernel_rfl) (by kernel_rfl) (by kernel_rfl) (fun _ _ _ h => h) (Or.inl ⟨by rfl, ?_⟩) (by assumption) ?_
          rotate_left
          · intro w9 hSw
            go_simp
            first | done | with_reducible rfl
          simp only [Act.put, List.setIfInBounds_toArray, List.set_cons_zero, List.set_cons_succ]
          refine wpAnyH_ready (rs := [9]) (by kernel_rfl) (by simp) ?_
          refine cons' rfl (fun KK hKK => ?_)
          have z0 := qs.cell 0
          have z1 := qs.cell 1
          have z2 := qs.cell 2
          simp only [List.getElem?_toArray, List.getElem?_cons_zero, List.getElem?_cons_succ] at z0 z1 z2
          have fz := fun o => qs.frozen o
          obtain ⟨c9, q9⟩ := qs.set3 (.bool (ng P)) (.slice pa (ln (am P)) (ln (am P))) (.slice pb (ln Q) (ln Q))
          have hno := qs.no (by simp)
          replace hS0 := hS0.ch c9 hno
          replace hT0 := hT0.ch c9 hno
          replace hS1 := hS1.ch c9 hno
          replace hT1 := hT1.ch c9 hno
          replace k1 := k1.ch c9 hno
          replace k2 := k2.ch c9 hno
          replace k3 := k3.ch c9 hno
          replace k4 := k4.ch c9 hno
          replace kP := kP.ch c9 hno
          replace kQ := kQ.ch c9 hno
          replace bT := bT.trans (c9.below (by omega))
          have hH2 := (⟨(World.cell?_of_block (w := w7) (a := ⟨w.heap.size, 0, none⟩) (c9.other (w.heap.size) (by omega))).trans hHeld.1, (World.cell?_of_block (w := w7) (a := ⟨w.heap.size, 1, none⟩) (c9.other (w.heap.size) (by omega))).trans hHeld.2.1, (World.cell?_of_block (w := w7) (a := ⟨w.heap.size, 2, none⟩) (c9.other (w.heap.size) (by omega))).trans hHeld.2.2.1, (World.cell?_of_block (w := w7) (a := ⟨w.heap.size + 1, 0, none⟩) (c9.other (w.heap.size + 1) (by omega))).trans hHeld.2.2.2.1, (World.cell?_of_block (w := w7) (a := ⟨w.heap.size + 1, 1, none⟩) (c9.other (w.heap.size + 1) (by omega))).trans hHeld.2.2.2.2.1, (World.cell?_of_block (w := w7) (a := ⟨w.heap.size + 1, 2, none⟩) (c9.other (w.heap.size + 1) (by omega))).trans hHeld.2.2.2.2.2⟩ : _ ∧ _ ∧ _ ∧ _ ∧ _ ∧ _)
          go_simp
          clear z0 z1 z2 fz hno c9
          replace qs := q9
          refine hKK.out _ _ hH2 ?_
          clear hHeld
          intro hHeld
          clear hKK KK
          try simp only [Act.put, List.setIfInBounds_toArray, List.set_cons_zero, List.set_cons_succ]
          clear hH2
          generalize (((w7.setCell ⟨cqs, 0, none⟩ (.bool (ng P))).setCell ⟨cqs, 1, none⟩ (.slice pa (ln (am P)) (ln (am P)))).setCell ⟨cqs, 2, none⟩ (.slice pb (ln Q) (ln Q))) = w8 at bT hS0 hT0 hS1 hT1 k1 k2 k3 k4 qs kP kQ hHeld ⊢
          refine take' 10 (v := ?_) rfl (by kernel_rfl) (by kernel_rfl) (by kernel_rfl) (fun _ _ _ h => h) (Or.inl ⟨by rfl, ?_⟩) (by assumption) ?_
          rotate_left
          · intro w9 hSw
            go_simp
            first | done | with_reducible rfl
          simp only [Act.put, List.setIfInBounds_toArray, List.set_cons_zero, List.set_cons_succ]
          refine wpAnyH_done (by kernel_rfl) ?_ _
          go_wp2_with fail
          go_meet
          exact ⟨_, cqs, P, Q, pa, pb, rfl, rfl, rfl, qs, kP, kQ, HF.out.1, HF.out.2.1, HF.out.2.2.1, HF.out.2.2.2, bT⟩
        exact AllReadyH.nil
      refine consT rfl (fun KK hKK => ?_) ?_
      · skip
        go_simp
        have qs := Blk.new w1 #[.bool false, .slice none 0 0, .slice none 0 0] 27
        have bA := below_alloc (w := w1) (.cells #[.bool false, .slice none 0 0, .slice none 0 0] 27)
        have hqsge := bT.size
        have hqsc0 := cell_ltB hHeld.1
        have hqsc1 := cell_ltB hHeld.2.1
        have hqsc2 := cell_ltB hHeld.2.2.1
        have hqsc3 := cell_ltB hHeld.2.2.2.1
        have hqsc4 := cell_ltB hHeld.2.2.2.2.1
        have hqsc5 := cell_ltB hHeld.2.2.2.2.2
        generalize w1.alloc (.cells #[.bool false, .slice none 0 0, .slice none 0 0] 27) = w9 at qs bA ⊢
        replace bT := bT.trans (bA.mono bT.size)
        replace hS0 := hS0.later bA
        replace hT0 := hT0.later bA
        replace hS1 := hS1.later bA
        replace hT1 := hT1.later bA
        replace k1 := k1.later bA
        replace k2 := k2.later bA
        replace hHeld := (⟨below_cell bA hHeld.1, below_cell bA hHeld.2.1, below_cell bA hHeld.2.2.1, below_cell bA hHeld.2.2.2.1, below_cell bA hHeld.2.2.2.2.1, below_cell bA hHeld.2.2.2.2.2⟩ : _ ∧ _ ∧ _ ∧ _ ∧ _ ∧ _)
        clear bA
        refine hKK.out _ _ hHeld ?_
        clear hHeld
        intro hHeld
        clear hKK KK
        try simp only [Act.put, List.setIfInBounds_toArray, List.set_cons_zero, List.set_cons_succ]
        obtain ⟨cqs, hcc⟩ : ∃ cc, w1.heap.size = cc := ⟨_, rfl⟩
        rw [hcc] at qs hqsge hqsc0 hqsc1 hqsc2 hqsc3 hqsc4 hqsc5
        try rw [hcc]
        clear hcc
        refine wpAnyH_ready (rs := [3]) (by kernel_rfl) (by simp) ?_
        refine cons' rfl (fun KK hKK => ?_)
        go_simp
        refine (GT1.out _ hS1 hT1).mono ?_
        rintro e w10 ⟨p2, q2, rfl, n1, n2⟩
        have bC := n1.below
        replace bT := bT.trans (bC.mono bT.size)
        replace hS0 := hS0.later bC
        replace hT0 := hT0.later bC
        replace hS1 := hS1.later bC
        replace hT1 := hT1.later bC
        replace k1 := k1.later bC
        replace k2 := k2.later bC
        replace qs := qs.later bC
        replace hHeld := (⟨below_cell bC hHeld.1, below_cell bC hHeld.2.1, below_cell bC hHeld.2.2.1, below_cell bC hHeld.2.2.2.1, below_cell bC hHeld.2.2.2.2.1, below_cell bC hHeld.2.2.2.2.2⟩ : _ ∧ _ ∧ _ ∧ _ ∧ _ ∧ _)
        clear bC
        go_wp2_with fail
        have k3 := n1.seg
        have k4 := n2.seg
        clear n1 n2
        refine hKK.out _ _ hHeld ?_
        clear hHeld
        intro hHeld
        clear hKK KK
        try simp only [Act.put, List.setIfInBounds_toArray, List.set_cons_zero, List.set_cons_succ]
        refine wpAnyH_ready (rs := [4]) (by kernel_rfl) (by simp) ?_
        refine cons' rfl (fun KK hKK => ?_)
        go_simp
        refine (G5.out _ p q p2 q2 k1 k2 k3 k4).mono ?_
        rintro e w11 ⟨P, Q, pa, pb, hSi, hg, lP, lQ, rfl, b5, kP, kQ⟩
        have bC := b5
        replace bT := bT.trans (bC.mono bT.size)
        replace hS0 := hS0.later bC
        replace hT0 := hT0.later bC
        replace hS1 := hS1.later bC
        replace hT1 := hT1.later bC
        replace k1 := k1.later bC
        replace k2 := k2.later bC
        replace qs := qs.later bC
        replace k3 := k3.later bC
        replace k4 := k4.later bC
        replace hHeld := (⟨below_cell bC hHeld.1, below_cell bC hHeld.2.1, below_cell bC hHeld.2.2.1, below_cell bC hHeld.2.2.2.1, below_cell bC hHeld.2.2.2.2.1, below_cell bC hHeld.2.2.2.2.2⟩ : _ ∧ _ ∧ _ ∧ _ ∧ _ ∧ _)
        clear bC
        go_wp2_with fail
        clear b5
        refine hKK.out _ _ hHeld ?_
        clear hHeld
        intro hHeld
        clear hKK KK
        try simp only [Act.put, List.setIfInBounds_toArray, List.set_cons_zero, List.set_cons_succ]
        have HF := hide' (And.intro hSi (And.intro hg (And.intro lP lQ)))
        clear hSi hg lP lQ
        refine take' 5 (v := ?_) rfl (by kernel_rfl) (by kernel_rfl) (by kernel_rfl) (fun _ _ _ h => h) (Or.inl ⟨by rfl, ?_⟩) (by assumption) ?_
        rotate_left
        · intro w9 hSw
          go_simp
          first | done | with_reducible rfl
        simp only [Act.put, List.setIfInBounds_toArray, List.set_cons_zero, List.set_cons_succ]
        refine take' 6 (v := ?_) rfl (by kernel_rfl) (by kernel_rfl) (by kernel_rfl) (fun _ _ _ h => h) (Or.inl ⟨by rfl, ?_⟩) (by assumption) ?_
        rotate_left
        · intro w9 hSw
          go_simp
          first | done | with_reducible rfl
        simp only [Act.put, List.setIfInBounds_toArray, List.set_cons_zero, List.set_cons_succ]
        refine take' 7 (v := ?_) rfl (by kernel_rfl) (by kernel_rfl) (by kernel_rfl) (fun _ _ _ h => h) (Or.inl ⟨by rfl, ?_⟩) (by assumption) ?_
        rotate_left
        · intro w9 hSw
          go_simp
          first | done | with_reducible rfl
        simp only [Act.put, List.setIfInBounds_toArray, List.set_cons_zero, List.set_cons_succ]
        refine wpAnyH_ready (rs := [9]) (by kernel_rfl) (by simp) ?_
        refine cons' rfl (fun KK hKK => ?_)
        have z0 := qs.cell 0
        have z1 := qs.cell 1
        have z2 := qs.cell 2
        simp only [List.getElem?_toArray, List.getElem?_cons_zero, List.getElem?_cons_succ] at z0 z1 z2
        have fz := fun o => qs.frozen o
        obtain ⟨c9, q9⟩ := qs.set3 (.bool (ng P)) (.slice pa (ln (am P)) (ln (am P))) (.slice pb (ln Q) (ln Q))
        have hno := qs.no (by simp)
        replace hS0 := hS0.ch c9 hno
        replace hT0 := hT0.ch c9 hno
        replace hS1 := hS1.ch c9 hno
        replace hT1 := hT1.ch c9 hno
        replace k1 := k1.ch c9 hno
        replace k2 := k2.ch c9 hno
        replace k3 := k3.ch c9 hno
        replace k4 := k4.ch c9 hno
        replace kP := kP.ch c9 hno
        replace kQ := kQ.ch c9 hno
        replace bT := bT.trans (c9.below (by omega))
        have hH2 := (⟨(World.cell?_of_block (w := w11) (a := ⟨w.heap.size, 0, none⟩) (c9.other (w.heap.size) (by omega))).trans hHeld.1, (World.cell?_of_block (w := w11) (a := ⟨w.heap.size, 1, none⟩) (c9.other (w.heap.size) (by omega))).trans hHeld.2.1, (World.cell?_of_block (w := w11) (a := ⟨w.heap.size, 2, none⟩) (c9.other (w.heap.size) (by omega))).trans hHeld.2.2.1, (World.cell?_of_block (w := w11) (a := ⟨w.heap.size + 1, 0, none⟩) (c9.other (w.heap.size + 1) (by omega))).trans hHeld.2.2.2.1, (World.cell?_of_block (w := w11) (a := ⟨w.heap.size + 1, 1, none⟩) (c9.other (w.heap.size + 1) (by omega))).trans hHeld.2.2.2.2.1, (World.cell?_of_block (w := w11) (a := ⟨w.heap.size + 1, 2, none⟩) (c9.other (w.heap.size + 1) (by omega))).trans hHeld.2.2.2.2.2⟩ : _ ∧ _ ∧ _ ∧ _ ∧ _ ∧ _)
        go_simp
        clear z0 z1 z2 fz hno c9
        replace qs := q9
        refine hKK.out _ _ hH2 ?_
        clear hHeld
        intro hHeld
        clear hKK KK
        try simp only [Act.put, List.setIfInBounds_toArray, List.set_cons_zero, List.set_cons_succ]
        clear hH2
        generalize (((w11.setCell ⟨cqs, 0, none⟩ (.bool (ng P))).setCell ⟨cqs, 1, none⟩ (.slice pa (ln (am P)) (ln (am P)))).setCell ⟨cqs, 2, none⟩ (.slice pb (ln Q) (ln Q))) = w12 at bT hS0 hT0 hS1 hT1 k1 k2 qs k3 k4 kP kQ hHeld ⊢
        refine take' 10 (v := ?_) rfl (by kernel_rfl) (by kernel_rfl) (by kernel_rfl) (fun _ _ _ h => h) (Or.inl ⟨by rfl, ?_⟩) (by assumption) ?_
        rotate_left
        · intro w9 hSw
          go_simp
          first | done | with_reducible rfl
        simp only [Act.put, List.setIfInBounds_toArray, List.set_cons_zero, List.set_cons_succ]
        refine wpAnyH_done (by kernel_rfl) ?_ _
        go_wp2_with fail
        go_meet
        exact ⟨_, cqs, P, Q, pa, pb, rfl, rfl, rfl, qs, kP, kQ, HF.out.1, HF.out.2.1, HF.out.2.2.1, HF.out.2.2.2, bT⟩
      exact AllReadyH.nil
    refine consT rfl (fun KK hKK => ?_) ?_
    · skip
      go_simp
      have qs := Blk.new w0F #[.bool false, .slice none 0 0, .slice none 0 0] 27
      have bA := below_alloc (w := w0F) (.cells #[.bool false, .slice none 0 0, .slice none 0 0] 27)
      have hqsge := bT.size
      have hqsc0 := cell_ltB hHeld.1
      have hqsc1 := cell_ltB hHeld.2.1
      have hqsc2 := cell_ltB hHeld.2.2.1
      have hqsc3 := cell_ltB hHeld.2.2.2.1
      have hqsc4 := cell_ltB hHeld.2.2.2.2.1
      have hqsc5 := cell_ltB hHeld.2.2.2.2.2
      generalize w0F.alloc (.cells #[.bool false, .slice none 0 0, .slice none 0 0] 27) = w13 at qs bA ⊢
      replace bT := bT.trans (bA.mono bT.size)
      replace hS0 := hS0.later bA
      replace hT0 := hT0.later bA
      replace hS1 := hS1.later bA
      replace hT1 := hT1.later bA
      replace hHeld := (⟨below_cell bA hHeld.1, below_cell bA hHeld.2.1, below_cell bA hHeld.2.2.1, below_cell bA hHeld.2.2.2.1, below_cell bA hHeld.2.2.2.2.1, below_cell bA hHeld.2.2.2.2.2⟩ : _ ∧ _ ∧ _ ∧ _ ∧ _ ∧ _)
      clear bA
      refine hKK.out _ _ hHeld ?_
      clear hHeld
      intro hHeld
      clear hKK KK
      try simp only [Act.put, List.setIfInBounds_toArray, List.set_cons_zero, List.set_cons_succ]
      obtain ⟨cqs, hcc⟩ : ∃ cc, w0F.heap.size = cc := ⟨_, rfl⟩
      rw [hcc] at qs hqsge hqsc0 hqsc1 hqsc2 hqsc3 hqsc4 hqsc5
      try rw [hcc]
      clear hcc
      refine wpAnyH_ready (rs := [1]) (by kernel_rfl) (by simp) ?_
      refine cons' rfl (fun KK hKK => ?_)
      go_simp
      refine (GT0.out _ hS0 hT0).mono ?_
      rintro e w14 ⟨p, q, rfl, n1, n2⟩
      have bC := n1.below
      replace bT := bT.trans (bC.mono bT.size)
      replace hS0 := hS0.later bC
      replace hT0 := hT0.later bC
      replace hS1 := hS1.later bC
      replace hT1 := hT1.later bC
      replace qs := qs.later bC
      replace hHeld := (⟨below_cell bC hHeld.1, below_cell bC hHeld.2.1, below_cell bC hHeld.2.2.1, below_cell bC hHeld.2.2.2.1, below_cell bC hHeld.2.2.2.2.1, below_cell bC hHeld.2.2.2.2.2⟩ : _ ∧ _ ∧ _ ∧ _ ∧ _ ∧ _)
      clear bC
      go_wp2_with fail
      have k1 := n1.seg
      have k2 := n2.seg
      clear n1 n2
      refine hKK.out _ _ hHeld ?_
      clear hHeld
      intro hHeld
      clear hKK KK
      try simp only [Act.put, List.setIfInBounds_toArray, List.set_cons_zero, List.set_cons_succ]
      refine wpAnyH_ready (rs := [3]) (by kernel_rfl) (by simp) ?_
      refine cons' rfl (fun KK hKK => ?_)
      go_simp
      refine (GT1.out _ hS1 hT1).mono ?_
      rintro e w15 ⟨p2, q2, rfl, n1, n2⟩
      have bC := n1.below
      replace bT := bT.trans (bC.mono bT.size)
      replace hS0 := hS0.later bC
      replace hT0 := hT0.later bC
      replace hS1 := hS1.later bC
      replace hT1 := hT1.later bC
      replace qs := qs.later bC
      replace k1 := k1.later bC
      replace k2 := k2.later bC
      replace hHeld := (⟨below_cell bC hHeld.1, below_cell bC hHeld.2.1, below_cell bC hHeld.2.2.1, below_cell bC hHeld.2.2.2.1, below_cell bC hHeld.2.2.2.2.1, below_cell bC hHeld.2.2.2.2.2⟩ : _ ∧ _ ∧ _ ∧ _ ∧ _ ∧ _)
      clear bC
      go_wp2_with fail
      have k3 := n1.seg
      have k4 := n2.seg
      clear n1 n2
      refine hKK.out _ _ hHeld ?_
      clear hHeld
      intro hHeld
      clear hKK KK
      try simp only [Act.put, List.setIfInBounds_toArray, List.set_cons_zero, List.set_cons_succ]
      refine wpAnyH_ready (rs := [4]) (by kernel_rfl) (by simp) ?_
      refine cons' rfl (fun KK hKK => ?_)
      go_simp
      refine (G5.out _ p q p2 q2 k1 k2 k3 k4).mono ?_
      rintro e w16 ⟨P, Q, pa, pb, hSi, hg, lP, lQ, rfl, b5, kP, kQ⟩
      have bC := b5
      replace bT := bT.trans (bC.mono bT.size)
      replace hS0 := hS0.later bC
      replace hT0 := hT0.later bC
      replace hS1 := hS1.later bC
      replace hT1 := hT1.later bC
      replace qs := qs.later bC
      replace k1 := k1.later bC
      replace k2 := k2.later bC
      replace k3 := k3.later bC
      replace k4 := k4.later bC
      replace hHeld := (⟨below_cell bC hHeld.1, below_cell bC hHeld.2.1, below_cell bC hHeld.2.2.1, below_cell bC hHeld.2.2.2.1, below_cell bC hHeld.2.2.2.2.1, below_cell bC hHeld.2.2.2.2.2⟩ : _ ∧ _ ∧ _ ∧ _ ∧ _ ∧ _)
      clear bC
      go_wp2_with fail
      clear b5
      refine hKK.out _ _ hHeld ?_
      clear hHeld
      intro hHeld
      clear hKK KK
      try simp only [Act.put, List.setIfInBounds_toArray, List.set_cons_zero, List.set_cons_succ]
      have HF := hide' (And.intro hSi (And.intro hg (And.intro lP lQ)))
      clear hSi hg lP lQ
      refine take' 5 (v := ?_) rfl (by kernel_rfl) (by kernel_rfl) (by kernel_rfl) (fun _ _ _ h => h) (Or.inl ⟨by rfl, ?_⟩) (by assumption) ?_
      rotate_left
      · intro w9 hSw
        go_simp
        first | done | with_reducible rfl
      simp only [Act.put, List.setIfInBounds_toArray, List.set_cons_zero, List.set_cons_succ]
      refine take' 6 (v := ?_) rfl (by kernel_rfl) (by kernel_rfl) (by kernel_rfl) (fun _ _ _ h => h) (Or.inl ⟨by rfl, ?_⟩) (by assumption) ?_
      rotate_left
      · intro w9 hSw
        go_simp
        first | done | with_reducible rfl
      simp only [Act.put, List.setIfInBounds_toArray, List.set_cons_zero, List.set_cons_succ]
      refine take' 7 (v := ?_) rfl (by kernel_rfl) (by kernel_rfl) (by kernel_rfl) (fun _ _ _ h => h) (Or.inl ⟨by rfl, ?_⟩) (by assumption) ?_
      rotate_left
      · intro w9 hSw
        go_simp
        first | done | with_reducible rfl
      simp only [Act.put, List.setIfInBounds_toArray, List.set_cons_zero, List.set_cons_succ]
      refine wpAnyH_ready (rs := [9]) (by kernel_rfl) (by simp) ?_
      refine cons' rfl (fun KK hKK => ?_)
      have z0 := qs.cell 0
      have z1 := qs.cell 1
      have z2 := qs.cell 2
      simp only [List.getElem?_toArray, List.getElem?_cons_zero, List.getElem?_cons_succ] at z0 z1 z2
      have fz := fun o => qs.frozen o
      obtain ⟨c9, q9⟩ := qs.set3 (.bool (ng P)) (.slice pa (ln (am P)) (ln (am P))) (.slice pb (ln Q) (ln Q))
      have hno := qs.no (by simp)
      replace hS0 := hS0.ch c9 hno
      replace hT0 := hT0.ch c9 hno
      replace hS1 := hS1.ch c9 hno
      replace hT1 := hT1.ch c9 hno
      replace k1 := k1.ch c9 hno
      replace k2 := k2.ch c9 hno
      replace k3 := k3.ch c9 hno
      replace k4 := k4.ch c9 hno
      replace kP := kP.ch c9 hno
      replace kQ := kQ.ch c9 hno
      replace bT := bT.trans (c9.below (by omega))
      have hH2 := (⟨(World.cell?_of_block (w := w16) (a := ⟨w.heap.size, 0, none⟩) (c9.other (w.heap.size) (by omega))).trans hHeld.1, (World.cell?_of_block (w := w16) (a := ⟨w.heap.size, 1, none⟩) (c9.other (w.heap.size) (by omega))).trans hHeld.2.1, (World.cell?_of_block (w := w16) (a := ⟨w.heap.size, 2, none⟩) (c9.other (w.heap.size) (by omega))).trans hHeld.2.2.1, (World.cell?_of_block (w := w16) (a := ⟨w.heap.size + 1, 0, none⟩) (c9.other (w.heap.size + 1) (by omega))).trans hHeld.2.2.2.1, (World.cell?_of_block (w := w16) (a := ⟨w.heap.size + 1, 1, none⟩) (c9.other (w.heap.size + 1) (by omega))).trans hHeld.2.2.2.2.1, (World.cell?_of_block (w := w16) (a := ⟨w.heap.size + 1, 2, none⟩) (c9.other (w.heap.size + 1) (by omega))).trans hHeld.2.2.2.2.2⟩ : _ ∧ _ ∧ _ ∧ _ ∧ _ ∧ _)
      go_simp
      clear z0 z1 z2 fz hno c9
      replace qs := q9
      refine hKK.out _ _ hH2 ?_
      clear hHeld
      intro hHeld
      clear hKK KK
      try simp only [Act.put, List.setIfInBounds_toArray, List.set_cons_zero, List.set_cons_succ]
      clear hH2
      generalize (((w16.setCell ⟨cqs, 0, none⟩ (.bool (ng P))).setCell ⟨cqs, 1, none⟩ (.slice pa (ln (am P)) (ln (am P)))).setCell ⟨cqs, 2, none⟩ (.slice pb (ln Q) (ln Q))) = w17 at bT hS0 hT0 hS1 hT1 qs k1 k2 k3 k4 kP kQ hHeld ⊢
      refine take' 10 (v := ?_) rfl (by kernel_rfl) (by kernel_rfl) (by kernel_rfl) (fun _ _ _ h => h) (Or.inl ⟨by rfl, ?_⟩) (by assumption) ?_
      rotate_left
      · intro w9 hSw
        go_simp
        first | done | with_reducible rfl
      simp only [Act.put, List.setIfInBounds_toArray, List.set_cons_zero, List.set_cons_succ]
      refine wpAnyH_done (by kernel_rfl) ?_ _
      go_wp2_with fail
      go_meet
      exact ⟨_, cqs, P, Q, pa, pb, rfl, rfl, rfl, qs, kP, kQ, HF.out.1, HF.out.2.1, HF.out.2.2.1, HF.out.2.2.2, bT⟩
    exact AllReadyH.nil
  case rest =>
    obtain ⟨wc18, cs, P, Q, pa, pb, hwv, rfl, rfl, qs, kP, kQ, hSi, hg, lP, lQ, bT⟩ := hcut
    subst hwv
    replace hS0 := hS0.later bT
    replace hT0 := hT0.later bT
    replace hS1 := hS1.later bT
    replace hT1 := hT1.later bT
    replace hS2 := hS2.later bT
    replace hT2 := hT2.later bT
    replace qa := qa.later bT
    replace qb := qb.later bT
    replace qc := qc.later bT
    replace GD := hide' (GD.out.below bT)
    replace bel := bel.trans (bT.mono bel.size)
    clear bT
    have hQ0 : 0 < Q := by have := hSi.q0; omega
    have HF := hide' (And.intro hSi hg)
    clear hSi hg
    clear G5 hbs
    go_upto_region 2 with fail
    have qa_0 := qa.cell 0
    have qa_1 := qa.cell 1
    have qa_2 := qa.cell 2
    have qb_0 := qb.cell 0
    have qb_1 := qb.cell 1
    have qb_2 := qb.cell 2
    simp only [List.getElem?_toArray, List.getElem?_cons_zero, List.getElem?_cons_succ] at qa_0 qa_1 qa_2 qb_0 qb_1 qb_2
    have bD : Below wc18.heap.size wc18 wc18.drew := (Below.refl _ _).drew
    have kqa_0 := below_cell bD qa_0
    have kqa_1 := below_cell bD qa_1
    have kqa_2 := below_cell bD qa_2
    have kqb_0 := below_cell bD qb_0
    have kqb_1 := below_cell bD qb_1
    have kqb_2 := below_cell bD qb_2
    replace GD := hide' (GD.out.below bD)
    replace bel := bel.trans (bD.mono bel.size)
    replace hS0 := hS0.later bD
    replace hT0 := hT0.later bD
    replace hS1 := hS1.later bD
    replace hT1 := hT1.later bD
    replace hS2 := hS2.later bD
    replace hT2 := hT2.later bD
    replace qa := qa.later bD
    replace qb := qb.later bD
    replace qc := qc.later bD
    replace kP := kP.later bD
    replace kQ := kQ.later bD
    replace qs := qs.later bD
    refine wp_region_held_drew (S := fun w' => w'.cell? ⟨w.heap.size, 0, none⟩ = some (.bool s0) ∧ w'.cell? ⟨w.heap.size, 1, none⟩ = some (.slice a0 n0 c0) ∧ w'.cell? ⟨w.heap.size, 2, none⟩ = some (.slice b0 m0 d0) ∧ w'.cell? ⟨w.heap.size + 1, 0, none⟩ = some (.bool s1) ∧ w'.cell? ⟨w.heap.size + 1, 1, none⟩ = some (.slice a1 n1 c1) ∧ w'.cell? ⟨w.heap.size + 1, 2, none⟩ = some (.slice b1 m1 d1)) (by kernel_rfl) ⟨kqa_0, kqa_1, kqa_2, kqb_0, kqb_1, kqb_2⟩ (fun hHeld => ?_)
    clear kqa_0 kqa_1 kqa_2 kqb_0 kqb_1 kqb_2
    generalize wc18.drew = w0G at bD GD hS0 hT0 hS1 hT1 hS2 hT2 qa qb qc kP kQ qs bel hHeld ⊢
    clear bD qa_0 qa_1 qa_2 qb_0 qb_1 qb_2
    refine take' 0 (v := ?_) rfl (by kernel_rfl) (by kernel_rfl) (by kernel_rfl) (fun _ _ _ h => h) (Or.inl ⟨by rfl, ?_⟩) (by assumption) ?_
    rotate_left
    · intro w9 hSw
      go_simp
      first | done | with_reducible rfl
    simp only [Act.put, List.setIfInBounds_toArray, List.set_cons_zero, List.set_cons_succ]
    refine take' 1 (v := ?_) rfl (by kernel_rfl) (by kernel_rfl) (by kernel_rfl) (fun _ _ _ h => h) (Or.inl ⟨by rfl, ?_⟩) (by assumption) ?_
    rotate_left
    · intro w9 hSw
      go_simp
      first | done | with_reducible rfl
    simp only [Act.put, List.setIfInBounds_toArray, List.set_cons_zero, List.set_cons_succ]
    refine take' 2 (v := ?_) rfl (by kernel_rfl) (by kernel_rfl) (by kernel_rfl) (fun _ _ _ h => h) (Or.inl ⟨by rfl, ?_⟩) (by assumption) ?_
    rotate_left
    · intro w9 hSw
      go_simp
      first | done | with_reducible rfl
    simp only [Act.put, List.setIfInBounds_toArray, List.set_cons_zero, List.set_cons_succ]
    refine take' 4 (v := ?_) rfl (by kernel_rfl) (by kernel_rfl) (by kernel_rfl) (fun _ _ _ h => h) (Or.inl ⟨by rfl, ?_⟩) (by assumption) ?_
    rotate_left
    · intro w9 hSw
      go_simp
      first | done | with_reducible rfl
    simp only [Act.put, List.setIfInBounds_toArray, List.set_cons_zero, List.set_cons_succ]
    refine wpAnyH_ready (rs := [3]) (by kernel_rfl) (by simp) ?_
    refine cons' rfl (fun KK hKK => ?_)
    go_simp
    refine (GT0.out _ hS0 hT0).mono ?_
    rintro e w19 ⟨p, q, rfl, n1, n2⟩
    have bC := n1.below
    replace GD := hide' (GD.out.below bC)
    replace bel := bel.trans (bC.mono bel.size)
    replace hS0 := hS0.later bC
    replace hT0 := hT0.later bC
    replace hS1 := hS1.later bC
    replace hT1 := hT1.later bC
    replace hS2 := hS2.later bC
    replace hT2 := hT2.later bC
    replace qa := qa.later bC
    replace qb := qb.later bC
    replace qc := qc.later bC
    replace kP := kP.later bC
    replace kQ := kQ.later bC
    replace qs := qs.later bC
    replace hHeld := (⟨below_cell bC hHeld.1, below_cell bC hHeld.2.1, below_cell bC hHeld.2.2.1, below_cell bC hHeld.2.2.2.1, below_cell bC hHeld.2.2.2.2.1, below_cell bC hHeld.2.2.2.2.2⟩ : _ ∧ _ ∧ _ ∧ _ ∧ _ ∧ _)
    clear bC
    go_wp2_with fail
    have k1 := n1.seg
    have k2 := n2.seg
    clear n1 n2
    refine hKK.out _ _ hHeld ?_
    clear hHeld
    intro hHeld
    clear hKK KK
    try simp only [Act.put, List.setIfInBounds_toArray, List.set_cons_zero, List.set_cons_succ]
    refine wpAnyH_ready (rs := [5]) (by kernel_rfl) (by simp) ?_
    refine cons' rfl (fun KK hKK => ?_)
    go_simp
    refine (GT1.out _ hS1 hT1).mono ?_
    rintro e w20 ⟨p2, q2, rfl, n1, n2⟩
    have bC := n1.below
    replace GD := hide' (GD.out.below bC)
    replace bel := bel.trans (bC.mono bel.size)
    replace hS0 := hS0.later bC
    replace hT0 := hT0.later bC
    replace hS1 := hS1.later bC
    replace hT1 := hT1.later bC
    replace hS2 := hS2.later bC
    replace hT2 := hT2.later bC
    replace qa := qa.later bC
    replace qb := qb.later bC
    replace qc := qc.later bC
    replace kP := kP.later bC
    replace kQ := kQ.later bC
    replace qs := qs.later bC
    replace k1 := k1.later bC
    replace k2 := k2.later bC
    replace hHeld := (⟨below_cell bC hHeld.1, below_cell bC hHeld.2.1, below_cell bC hHeld.2.2.1, below_cell bC hHeld.2.2.2.1, below_cell bC hHeld.2.2.2.2.1, below_cell bC hHeld.2.2.2.2.2⟩ : _ ∧ _ ∧ _ ∧ _ ∧ _ ∧ _)
    clear bC
    go_wp2_with fail
    have k3 := n1.seg
    have k4 := n2.seg
    clear n1 n2
    refine hKK.out _ _ hHeld ?_
    clear hHeld
    intro hHeld
    clear hKK KK
    try simp only [Act.put, List.setIfInBounds_toArray, List.set_cons_zero, List.set_cons_succ]
    refine wpAnyH_ready (rs := [6]) (by kernel_rfl) (by simp) ?_
    refine cons' rfl (fun KK hKK => ?_)
    go_simp
    refine (GC.out _ p q p2 q2 k1 k2 k3 k4).mono ?_
    rintro e w21 ⟨rfl, b1⟩
    have bC := b1
    replace GD := hide' (GD.out.below bC)
    replace bel := bel.trans (bC.mono bel.size)
    replace hS0 := hS0.later bC
    replace hT0 := hT0.later bC
    replace hS1 := hS1.later bC
    replace hT1 := hT1.later bC
    replace hS2 := hS2.later bC
    replace hT2 := hT2.later bC
    replace qa := qa.later bC
    replace qb := qb.later bC
    replace qc := qc.later bC
    replace kP := kP.later bC
    replace kQ := kQ.later bC
    replace qs := qs.later bC
    replace k1 := k1.later bC
    replace k2 := k2.later bC
    replace k3 := k3.later bC
    replace k4 := k4.later bC
    replace hHeld := (⟨below_cell bC hHeld.1, below_cell bC hHeld.2.1, below_cell bC hHeld.2.2.1, below_cell bC hHeld.2.2.2.1, below_cell bC hHeld.2.2.2.2.1, below_cell bC hHeld.2.2.2.2.2⟩ : _ ∧ _ ∧ _ ∧ _ ∧ _ ∧ _)
    clear bC
    go_wp2_with fail
    clear b1
    refine hKK.out _ _ hHeld ?_
    clear hHeld
    intro hHeld
    clear hKK KK
    try simp only [Act.put, List.setIfInBounds_toArray, List.set_cons_zero, List.set_cons_succ]
    refine take' 7 (v := ?_) rfl (by kernel_rfl) (by kernel_rfl) (by kernel_rfl) (fun _ _ _ h => h) (Or.inl ⟨by rfl, ?_⟩) (by assumption) ?_
    rotate_left
    · intro w9 hSw
      go_simp
      first | done | with_reducible rfl
    simp only [Act.put, List.setIfInBounds_toArray, List.set_cons_zero, List.set_cons_succ]
    refine take' 8 (v := ?_) rfl (by kernel_rfl) (by kernel_rfl) (by kernel_rfl) (fun _ _ _ h => h) (Or.inl ⟨by rfl, ?_⟩) (by assumption) ?_
    rotate_left
    · intro w9 hSw
      go_simp
      first | done | with_reducible rfl
    simp only [Act.put, List.setIfInBounds_toArray, List.set_cons_zero, List.set_cons_succ]
    refine take' 9 (v := ?_) rfl (by kernel_rfl) (by kernel_rfl) (by kernel_rfl) (fun _ _ _ h => h) (Or.inl ⟨by rfl, ?_⟩) (by assumption) ?_
    rotate_left
    · intro w9 hSw
      go_simp
      first | done | with_reducible rfl
    simp only [Act.put, List.setIfInBounds_toArray, List.set_cons_zero, List.set_cons_succ]
    refine wpAnyH_ready (rs := [10]) (by kernel_rfl) (by simp) ?_
    refine cons' rfl (fun KK hKK => ?_)
    go_simp
    refine (half_is _ GD.out).mono ?_
    rintro e w22 ⟨rfl, b1⟩
    have bC := b1
    replace GD := hide' (GD.out.below bC)
    replace bel := bel.trans (bC.mono bel.size)
    replace hS0 := hS0.later bC
    replace hT0 := hT0.later bC
    replace hS1 := hS1.later bC
    replace hT1 := hT1.later bC
    replace hS2 := hS2.later bC
    replace hT2 := hT2.later bC
    replace qa := qa.later bC
    replace qb := qb.later bC
    replace qc := qc.later bC
    replace kP := kP.later bC
    replace kQ := kQ.later bC
    replace qs := qs.later bC
    replace k1 := k1.later bC
    replace k2 := k2.later bC
    replace k3 := k3.later bC
    replace k4 := k4.later bC
    replace hHeld := (⟨below_cell bC hHeld.1, below_cell bC hHeld.2.1, below_cell bC hHeld.2.2.1, below_cell bC hHeld.2.2.2.1, below_cell bC hHeld.2.2.2.2.1, below_cell bC hHeld.2.2.2.2.2⟩ : _ ∧ _ ∧ _ ∧ _ ∧ _ ∧ _)
    clear bC
    go_wp2_with fail
    clear b1
    refine hKK.out _ _ hHeld ?_
    clear hHeld
    intro hHeld
    clear hKK KK
    try simp only [Act.put, List.setIfInBounds_toArray, List.set_cons_zero, List.set_cons_succ]
    refine take' 11 (v := ?_) rfl (by kernel_rfl) (by kernel_rfl) (by kernel_rfl) (fun _ _ _ h => h) (Or.inl ⟨by rfl, ?_⟩) (by assumption) ?_
    rotate_left
    · intro w9 hSw
      go_simp
      first | done | with_reducible rfl
    simp only [Act.put, List.setIfInBounds_toArray, List.set_cons_zero, List.set_cons_succ]
    refine take' 12 (v := ?_) rfl (by kernel_rfl) (by kernel_rfl) (by kernel_rfl) (fun _ _ _ h => h) (Or.inl ⟨by rfl, ?_⟩) (by assumption) ?_
    rotate_left
    · intro w9 hSw
      go_simp
      first | done | with_reducible rfl
    simp only [Act.put, List.setIfInBounds_toArray, List.set_cons_zero, List.set_cons_succ]
    refine wpAnyH_done (by kernel_rfl) ?_ _
    skip
    clear k1 k2 k3 k4
    clear GC
    have SI := HF.out.1
    have GL := hide' (fun w' p q (k1 : Seg w' p X0 n0) (k2 : Seg w' q Y0 m0) (k3 : Seg w' pa (am P) (ln (am P))) (k4 : Seg w' pb Q (ln Q)) => qCmp_is s0 p n0 n0 X0 q m0 m0 Y0 (ng P) pa (ln (am P)) (ln (am P)) (am P) pb (ln Q) (ln Q) Q (-1) w' (Nat.le_refl _) (by omega) k1 (Nat.le_refl _) (by omega) k2 (Nat.le_refl _) (by omega) k3 (Nat.le_refl _) (by omega) k4 (by rw [rn_nf hQ0, rd_nf hQ0]; exact sgn_neg (by have := SI.lo; omega)))
    have GH := hide' (fun w' p q (k1 : Seg w' p X1 n1) (k2 : Seg w' q Y1 m1) (k3 : Seg w' pa (am P) (ln (am P))) (k4 : Seg w' pb Q (ln Q)) => qCmp_is (ng P) pa (ln (am P)) (ln (am P)) (am P) pb (ln Q) (ln Q) Q s1 p n1 n1 X1 q m1 m1 Y1 (-1) w' (Nat.le_refl _) (by omega) k3 (Nat.le_refl _) (by omega) k4 (Nat.le_refl _) (by omega) k1 (Nat.le_refl _) (by omega) k2 (by rw [rn_nf hQ0, rd_nf hQ0]; exact sgn_neg (by have := SI.hi; omega)))
    clear SI
    go_upto_region 6 with fail
    have qa_0 := qa.cell 0
    have qa_1 := qa.cell 1
    have qa_2 := qa.cell 2
    have qb_0 := qb.cell 0
    have qb_1 := qb.cell 1
    have qb_2 := qb.cell 2
    have qs_0 := qs.cell 0
    have qs_1 := qs.cell 1
    have qs_2 := qs.cell 2
    simp only [List.getElem?_toArray, List.getElem?_cons_zero, List.getElem?_cons_succ] at qa_0 qa_1 qa_2 qb_0 qb_1 qb_2 qs_0 qs_1 qs_2
    have bD : Below w22.heap.size w22 w22.drew := (Below.refl _ _).drew
    have kqa_0 := below_cell bD qa_0
    have kqa_1 := below_cell bD qa_1
    have kqa_2 := below_cell bD qa_2
    have kqb_0 := below_cell bD qb_0
    have kqb_1 := below_cell bD qb_1
    have kqb_2 := below_cell bD qb_2
    have kqs_0 := below_cell bD qs_0
    have kqs_1 := below_cell bD qs_1
    have kqs_2 := below_cell bD qs_2
    replace GD := hide' (GD.out.below bD)
    replace bel := bel.trans (bD.mono bel.size)
    replace hS0 := hS0.later bD
    replace hT0 := hT0.later bD
    replace hS1 := hS1.later bD
    replace hT1 := hT1.later bD
    replace hS2 := hS2.later bD
    replace hT2 := hT2.later bD
    replace qa := qa.later bD
    replace qb := qb.later bD
    replace qc := qc.later bD
    replace kP := kP.later bD
    replace kQ := kQ.later bD
    replace qs := qs.later bD
    refine wp_region_held_drew (S := fun w' => w'.cell? ⟨w.heap.size, 0, none⟩ = some (.bool s0) ∧ w'.cell? ⟨w.heap.size, 1, none⟩ = some (.slice a0 n0 c0) ∧ w'.cell? ⟨w.heap.size, 2, none⟩ = some (.slice b0 m0 d0) ∧ w'.cell? ⟨w.heap.size + 1, 0, none⟩ = some (.bool s1) ∧ w'.cell? ⟨w.heap.size + 1, 1, none⟩ = some (.slice a1 n1 c1) ∧ w'.cell? ⟨w.heap.size + 1, 2, none⟩ = some (.slice b1 m1 d1) ∧ w'.cell? ⟨cs, 0, none⟩ = some (.bool (ng P)) ∧ w'.cell? ⟨cs, 1, none⟩ = some (.slice pa (ln (am P)) (ln (am P))) ∧ w'.cell? ⟨cs, 2, none⟩ = some (.slice pb (ln Q) (ln Q))) (by kernel_rfl) ⟨kqa_0, kqa_1, kqa_2, kqb_0, kqb_1, kqb_2, kqs_0, kqs_1, kqs_2⟩ (fun hHeld => ?_)
    clear kqa_0 kqa_1 kqa_2 kqb_0 kqb_1 kqb_2 kqs_0 kqs_1 kqs_2
    generalize w22.drew = w0H at bD GD hS0 hT0 hS1 hT1 hS2 hT2 qa qb qc kP kQ qs bel hHeld ⊢
    clear bD qa_0 qa_1 qa_2 qb_0 qb_1 qb_2 qs_0 qs_1 qs_2
    refine take' 0 (v := ?_) rfl (by kernel_rfl) (by kernel_rfl) (by kernel_rfl) (fun _ _ _ h => h) (Or.inl ⟨by rfl, ?_⟩) (by assumption) ?_
    rotate_left
    · intro w9 hSw
      go_simp
      first | done | with_reducible rfl
    simp only [Act.put, List.setIfInBounds_toArray, List.set_cons_zero, List.set_cons_succ]
    refine take' 2 (v := ?_) rfl (by kernel_rfl) (by kernel_rfl) (by kernel_rfl) (fun _ _ _ h => h) (Or.inl ⟨by rfl, ?_⟩) (by assumption) ?_
    rotate_left
    · intro w9 hSw
      go_simp
      first | done | with_reducible rfl
    simp only [Act.put, List.setIfInBounds_toArray, List.set_cons_zero, List.set_cons_succ]
    refine wpAnyH_ready (rs := [1]) (by kernel_rfl) (by simp) ?_
    refine cons' rfl (fun KK hKK => ?_)
    go_simp
    refine (GT0.out _ hS0 hT0).mono ?_
    rintro e w23 ⟨p, q, rfl, n1, n2⟩
    have bC := n1.below
    replace GD := hide' (GD.out.below bC)
    replace bel := bel.trans (bC.mono bel.size)
    replace hS0 := hS0.later bC
    replace hT0 := hT0.later bC
    replace hS1 := hS1.later bC
    replace hT1 := hT1.later bC
    replace hS2 := hS2.later bC
    replace hT2 := hT2.later bC
    replace qa := qa.later bC
    replace qb := qb.later bC
    replace qc := qc.later bC
    replace kP := kP.later bC
    replace kQ := kQ.later bC
    replace qs := qs.later bC
    replace hHeld := (⟨below_cell bC hHeld.1, below_cell bC hHeld.2.1, below_cell bC hHeld.2.2.1, below_cell bC hHeld.2.2.2.1, below_cell bC hHeld.2.2.2.2.1, below_cell bC hHeld.2.2.2.2.2.1, below_cell bC hHeld.2.2.2.2.2.2.1, below_cell bC hHeld.2.2.2.2.2.2.2.1, below_cell bC hHeld.2.2.2.2.2.2.2.2⟩ : _ ∧ _ ∧ _ ∧ _ ∧ _ ∧ _ ∧ _ ∧ _ ∧ _)
    clear bC
    go_wp2_with fail
    have k1 := n1.seg
    have k2 := n2.seg
    clear n1 n2
    refine hKK.out _ _ hHeld ?_
    clear hHeld
    intro hHeld
    clear hKK KK
    try simp only [Act.put, List.setIfInBounds_toArray, List.set_cons_zero, List.set_cons_succ]
    refine wpAnyH_ready (rs := [3]) (by kernel_rfl) (by simp) ?_
    refine cons' rfl (fun KK hKK => ?_)
    go_simp
    refine (GL.out _ p q k1 k2 kP kQ).mono ?_
    rintro e w24 ⟨rfl, b1⟩
    have bC := b1
    replace GD := hide' (GD.out.below bC)
    replace bel := bel.trans (bC.mono bel.size)
    replace hS0 := hS0.later bC
    replace hT0 := hT0.later bC
    replace hS1 := hS1.later bC
    replace hT1 := hT1.later bC
    replace hS2 := hS2.later bC
    replace hT2 := hT2.later bC
    replace qa := qa.later bC
    replace qb := qb.later bC
    replace qc := qc.later bC
    replace kP := kP.later bC
    replace kQ := kQ.later bC
    replace qs := qs.later bC
    replace k1 := k1.later bC
    replace k2 := k2.later bC
    replace hHeld := (⟨below_cell bC hHeld.1, below_cell bC hHeld.2.1, below_cell bC hHeld.2.2.1, below_cell bC hHeld.2.2.2.1, below_cell bC hHeld.2.2.2.2.1, below_cell bC hHeld.2.2.2.2.2.1, below_cell bC hHeld.2.2.2.2.2.2.1, below_cell bC hHeld.2.2.2.2.2.2.2.1, below_cell bC hHeld.2.2.2.2.2.2.2.2⟩ : _ ∧ _ ∧ _ ∧ _ ∧ _ ∧ _ ∧ _ ∧ _ ∧ _)
    clear bC
    go_wp2_with fail
    clear b1
    refine hKK.out _ _ hHeld ?_
    clear hHeld
    intro hHeld
    clear hKK KK
    try simp only [Act.put, List.setIfInBounds_toArray, List.set_cons_zero, List.set_cons_succ]
    refine take' 4 (v := ?_) rfl (by kernel_rfl) (by kernel_rfl) (by kernel_rfl) (fun _ _ _ h => h) (Or.inl ⟨by rfl, ?_⟩) (by assumption) ?_
    rotate_left
    · intro w9 hSw
      go_simp
      first | done | with_reducible rfl
    simp only [Act.put, List.setIfInBounds_toArray, List.set_cons_zero, List.set_cons_succ]
    refine take' 5 (v := ?_) rfl (by kernel_rfl) (by kernel_rfl) (by kernel_rfl) (fun _ _ _ h => h) (Or.inl ⟨by rfl, ?_⟩) (by assumption) ?_
    rotate_left
    · intro w9 hSw
      go_simp
      first | done | with_reducible rfl
    simp only [Act.put, List.setIfInBounds_toArray, List.set_cons_zero, List.set_cons_succ]
    refine take' 6 (v := ?_) rfl (by kernel_rfl) (by kernel_rfl) (by kernel_rfl) (fun _ _ _ h => h) (Or.inl ⟨by rfl, ?_⟩) (by assumption) ?_
    rotate_left
    · intro w9 hSw
      go_simp
      first | done | with_reducible rfl
    simp only [Act.put, List.setIfInBounds_toArray, List.set_cons_zero, List.set_cons_succ]
    refine take' 7 (v := ?_) rfl (by kernel_rfl) (by kernel_rfl) (by kernel_rfl) (fun _ _ _ h => h) (Or.inl ⟨by rfl, ?_⟩) (by assumption) ?_
    rotate_left
    · intro w9 hSw
      go_simp
      first | done | with_reducible rfl
    simp only [Act.put, List.setIfInBounds_toArray, List.set_cons_zero, List.set_cons_succ]
    refine wpAnyH_ready (rs := [8]) (by kernel_rfl) (by simp) ?_
    refine cons' rfl (fun KK hKK => ?_)
    go_simp
    refine (GT1.out _ hS1 hT1).mono ?_
    rintro e w25 ⟨p2, q2, rfl, n1, n2⟩
    have bC := n1.below
    replace GD := hide' (GD.out.below bC)
    replace bel := bel.trans (bC.mono bel.size)
    replace hS0 := hS0.later bC
    replace hT0 := hT0.later bC
    replace hS1 := hS1.later bC
    replace hT1 := hT1.later bC
    replace hS2 := hS2.later bC
    replace hT2 := hT2.later bC
    replace qa := qa.later bC
    replace qb := qb.later bC
    replace qc := qc.later bC
    replace kP := kP.later bC
    replace kQ := kQ.later bC
    replace qs := qs.later bC
    replace k1 := k1.later bC
    replace k2 := k2.later bC
    replace hHeld := (⟨below_cell bC hHeld.1, below_cell bC hHeld.2.1, below_cell bC hHeld.2.2.1, below_cell bC hHeld.2.2.2.1, below_cell bC hHeld.2.2.2.2.1, below_cell bC hHeld.2.2.2.2.2.1, below_cell bC hHeld.2.2.2.2.2.2.1, below_cell bC hHeld.2.2.2.2.2.2.2.1, below_cell bC hHeld.2.2.2.2.2.2.2.2⟩ : _ ∧ _ ∧ _ ∧ _ ∧ _ ∧ _ ∧ _ ∧ _ ∧ _)
    clear bC
    go_wp2_with fail
    have k3 := n1.seg
    have k4 := n2.seg
    clear n1 n2
    refine hKK.out _ _ hHeld ?_
    clear hHeld
    intro hHeld
    clear hKK KK
    try simp only [Act.put, List.setIfInBounds_toArray, List.set_cons_zero, List.set_cons_succ]
    refine wpAnyH_ready (rs := [9]) (by kernel_rfl) (by simp) ?_
    refine cons' rfl (fun KK hKK => ?_)
    go_simp
    refine (GH.out _ p2 q2 k3 k4 kP kQ).mono ?_
    rintro e w26 ⟨rfl, b1⟩
    have bC := b1
    replace GD := hide' (GD.out.below bC)
    replace bel := bel.trans (bC.mono bel.size)
    replace hS0 := hS0.later bC
    replace hT0 := hT0.later bC
    replace hS1 := hS1.later bC
    replace hT1 := hT1.later bC
    replace hS2 := hS2.later bC
    replace hT2 := hT2.later bC
    replace qa := qa.later bC
    replace qb := qb.later bC
    replace qc := qc.later bC
    replace kP := kP.later bC
    replace kQ := kQ.later bC
    replace qs := qs.later bC
    replace k1 := k1.later bC
    replace k2 := k2.later bC
    replace k3 := k3.later bC
    replace k4 := k4.later bC
    replace hHeld := (⟨below_cell bC hHeld.1, below_cell bC hHeld.2.1, below_cell bC hHeld.2.2.1, below_cell bC hHeld.2.2.2.1, below_cell bC hHeld.2.2.2.2.1, below_cell bC hHeld.2.2.2.2.2.1, below_cell bC hHeld.2.2.2.2.2.2.1, below_cell bC hHeld.2.2.2.2.2.2.2.1, below_cell bC hHeld.2.2.2.2.2.2.2.2⟩ : _ ∧ _ ∧ _ ∧ _ ∧ _ ∧ _ ∧ _ ∧ _ ∧ _)
    clear bC
    go_wp2_with fail
    clear b1
    refine hKK.out _ _ hHeld ?_
    clear hHeld
    intro hHeld
    clear hKK KK
    try simp only [Act.put, List.setIfInBounds_toArray, List.set_cons_zero, List.set_cons_succ]
    refine take' 10 (v := ?_) rfl (by kernel_rfl) (by kernel_rfl) (by kernel_rfl) (fun _ _ _ h => h) (Or.inl ⟨by rfl, ?_⟩) (by assumption) ?_
    rotate_left
    · intro w9 hSw
      go_simp
      first | done | with_reducible rfl
    simp only [Act.put, List.setIfInBounds_toArray, List.set_cons_zero, List.set_cons_succ]
    refine take' 11 (v := ?_) rfl (by kernel_rfl) (by kernel_rfl) (by kernel_rfl) (fun _ _ _ h => h) (Or.inl ⟨by rfl, ?_⟩) (by assumption) ?_
    rotate_left
    · intro w9 hSw
      go_simp
      first | done | with_reducible rfl
    simp only [Act.put, List.setIfInBounds_toArray, List.set_cons_zero, List.set_cons_succ]
    refine wpAnyH_done (by kernel_rfl) ?_ _
    skip
    clear k1 k2 k3 k4
    clear GL GH GT0 GT1
    go_upto_region 8 with fail
    have qc_0 := qc.cell 0
    have qc_1 := qc.cell 1
    have qc_2 := qc.cell 2
    simp only [List.getElem?_toArray, List.getElem?_cons_zero, List.getElem?_cons_succ] at qc_0 qc_1 qc_2
    go_wp2_with fail
    clear qc_0 qc_1 qc_2
    refine (GN.out _ hS2 hT2).mono ?_
    rintro e w27 ⟨px, qx, rfl, n1, n2⟩
    have bb := n1.below
    replace hS0 := hS0.later bb
    replace hT0 := hT0.later bb
    replace hS1 := hS1.later bb
    replace hT1 := hT1.later bb
    replace hS2 := hS2.later bb
    replace hT2 := hT2.later bb
    replace qa := qa.later bb
    replace qb := qb.later bb
    replace qc := qc.later bb
    replace kP := kP.later bb
    replace kQ := kQ.later bb
    replace qs := qs.later bb
    replace GD := hide' (GD.out.below bb)
    replace bel := bel.trans (bb.mono bel.size)
    clear bb
    have kX := n1.seg
    have kV := n2.seg
    clear n1 n2
    clear GN
    have qa_0 := qa.cell 0
    have qa_1 := qa.cell 1
    have qa_2 := qa.cell 2
    simp only [List.getElem?_toArray, List.getElem?_cons_zero, List.getElem?_cons_succ] at qa_0 qa_1 qa_2
    have lqnqa := qa.lt
    have lqnqb := qb.lt
    have lqnqc := qc.lt
    have lqnqs := qs.lt
    have bb := below_alloc (w := w27) (.cells #[.bool (ng Zx), .slice px (ln (am Zx)) (ln (am Zx)), .slice qx (ln Vx) (ln Vx)] 27)
    replace hS0 := hS0.later bb
    replace hT0 := hT0.later bb
    replace hS1 := hS1.later bb
    replace hT1 := hT1.later bb
    replace hS2 := hS2.later bb
    replace hT2 := hT2.later bb
    replace qa := qa.later bb
    replace qb := qb.later bb
    replace qc := qc.later bb
    replace kP := kP.later bb
    replace kQ := kQ.later bb
    replace qs := qs.later bb
    replace kX := kX.later bb
    replace kV := kV.later bb
    replace GD := hide' (GD.out.below bb)
    replace bel := bel.trans (bb.mono bel.size)
    clear bb
    have qn := Blk.new w27 #[.bool (ng Zx), .slice px (ln (am Zx)) (ln (am Zx)), .slice qx (ln Vx) (ln Vx)] 27
    go_wp2_with fail
    clear qa_0 qa_1 qa_2
    obtain ⟨wN, hW⟩ : ∃ W, (w27.alloc (.cells #[.bool (ng Zx), .slice px (ln (am Zx)) (ln (am Zx)), .slice qx (ln Vx) (ln Vx)] 27)) = W := ⟨_, rfl⟩
    rw [hW] at bel hS0 hT0 hS1 hT1 hS2 hT2 qa qb qc kP kQ qs kX kV qn GD ⊢
    clear hW
    obtain ⟨C3, hC3⟩ : ∃ C, sgn (rn s0 X0 Y0 * (Vx : Int) - Zx * ((rd Y0 : Nat) : Int)) = C := ⟨_, rfl⟩
    obtain ⟨C4, hC4⟩ : ∃ C, sgn (Zx * ((rd Y1 : Nat) : Int) - rn s1 X1 Y1 * (Vx : Int)) = C := ⟨_, rfl⟩
    have G3 := hide' (fun w' k1 k2 k3 k4 => vqCmp_is s0 a0 n0 c0 X0 b0 m0 d0 Y0 (ng Zx) px (ln (am Zx)) (ln (am Zx)) (am Zx) qx (ln Vx) (ln Vx) Vx C3 w' hc0 (by omega) k1 hd0 (by omega) k2 (Nat.le_refl _) (by omega) k3 (Nat.le_refl _) (by omega) k4 (by rw [rn_nf hV0, rd_nf hV0]; exact hC3))
    have G4 := hide' (fun w' k1 k2 k3 k4 => vqCmp_is (ng Zx) px (ln (am Zx)) (ln (am Zx)) (am Zx) qx (ln Vx) (ln Vx) Vx s1 a1 n1 c1 X1 b1 m1 d1 Y1 C4 w' (Nat.le_refl _) (by omega) k3 (Nat.le_refl _) (by omega) k4 hc1 (by omega) k1 hd1 (by omega) k2 (by rw [rn_nf hV0, rd_nf hV0]; exact hC4))
    have H34 := hide' (And.intro hC3 hC4)
    clear hC3 hC4
    refine (G3.out _ hS0 hT0 kX kV).mono ?_
    rintro e w28 ⟨rfl, b1⟩
    have bb := b1
    replace hS0 := hS0.later bb
    replace hT0 := hT0.later bb
    replace hS1 := hS1.later bb
    replace hT1 := hT1.later bb
    replace hS2 := hS2.later bb
    replace hT2 := hT2.later bb
    replace qa := qa.later bb
    replace qb := qb.later bb
    replace qc := qc.later bb
    replace kP := kP.later bb
    replace kQ := kQ.later bb
    replace qs := qs.later bb
    replace kX := kX.later bb
    replace kV := kV.later bb
    replace qn := qn.later bb
    replace GD := hide' (GD.out.below bb)
    replace bel := bel.trans (bb.mono bel.size)
    clear bb
    clear b1
    clear G3
    by_cases h3 : 0 ≤ C3
    · go_wp2
      go_ret
      exact ⟨rfl, bel⟩
    · skip
      have qn_0 := qn.cell 0
      have qn_1 := qn.cell 1
      have qn_2 := qn.cell 2
      have qb_0 := qb.cell 0
      have qb_1 := qb.cell 1
      have qb_2 := qb.cell 2
      simp only [List.getElem?_toArray, List.getElem?_cons_zero, List.getElem?_cons_succ] at qn_0 qn_1 qn_2 qb_0 qb_1 qb_2
      go_wp2_with fail
      clear qn_0 qn_1 qn_2 qb_0 qb_1 qb_2
      refine (G4.out _ hS1 hT1 kX kV).mono ?_
      rintro e w29 ⟨rfl, b1⟩
      have bb := b1
      replace hS0 := hS0.later bb
      replace hT0 := hT0.later bb
      replace hS1 := hS1.later bb
      replace hT1 := hT1.later bb
      replace hS2 := hS2.later bb
      replace hT2 := hT2.later bb
      replace qa := qa.later bb
      replace qb := qb.later bb
      replace qc := qc.later bb
      replace kP := kP.later bb
      replace kQ := kQ.later bb
      replace qs := qs.later bb
      replace kX := kX.later bb
      replace kV := kV.later bb
      replace qn := qn.later bb
      replace GD := hide' (GD.out.below bb)
      replace bel := bel.trans (bb.mono bel.size)
      clear bb
      clear b1
      clear G4
      by_cases h4 : 0 ≤ C4
      · go_wp2
        go_ret
        exact ⟨rfl, bel⟩
      · skip
        have hlst : (Q : Int) < (Vx : Int) ∨ (Q : Int) = (Vx : Int) ∧ P.natAbs ≤ Zx.natAbs := by
          obtain ⟨hC3, hC4⟩ := H34.out
          refine HF.out.1.least Zx Vx (by omega) ?_ ?_
          · rcases sgn_cases (rn s0 X0 Y0 * (Vx : Int) - Zx * ((rd Y0 : Nat) : Int)) with ⟨h, _⟩ | ⟨_, h⟩
            · omega
            · omega
          · rcases sgn_cases (Zx * ((rd Y1 : Nat) : Int) - rn s1 X1 Y1 * (Vx : Int)) with ⟨h, _⟩ | ⟨_, h⟩
            · omega
            · omega
        have GR := hide' (fun w' k1 k2 => (rCmp_any qx pb (ln Vx) (ln Vx) Vx (ln Q) (ln Q) Q w' (by omega) k1 (by omega) k2).mono (fun e w2 h => (show e = .returned (.int .i64 (cmpI Vx Q)) ∧ Below w'.heap.size w' w2 from ⟨h.1, h.2 ▸ Below.refl _ _⟩)))
        have GR2 := hide' (fun w' k1 k2 => (rCmp_any px pa (ln (am Zx)) (ln (am Zx)) (am Zx) (ln (am P)) (ln (am P)) (am P) w' (by omega) k1 (by omega) k2).mono (fun e w2 h => (show e = .returned (.int .i64 (cmpI (am Zx) (am P))) ∧ Below w'.heap.size w' w2 from ⟨h.1, h.2 ▸ Below.refl _ _⟩)))
        go_upto_region 11 with fail
        rcases hlst with hq | ⟨hq, hp⟩
        · rw [cmpI_gt (show Q < Vx by omega)] at GR
          clear hq
          have qn_0 := qn.cell 0
          have qn_1 := qn.cell 1
          have qn_2 := qn.cell 2
          have qs_0 := qs.cell 0
          have qs_1 := qs.cell 1
          have qs_2 := qs.cell 2
          simp only [List.getElem?_toArray, List.getElem?_cons_zero, List.getElem?_cons_succ] at qn_0 qn_1 qn_2 qs_0 qs_1 qs_2
          go_wp2_with fail
          clear qn_0 qn_1 qn_2 qs_0 qs_1 qs_2
          refine (GR.out _ kV kQ).mono ?_
          rintro e w30 ⟨rfl, b1⟩
          have bb := b1
          replace hS0 := hS0.later bb
          replace hT0 := hT0.later bb
          replace hS1 := hS1.later bb
          replace hT1 := hT1.later bb
          replace hS2 := hS2.later bb
          replace hT2 := hT2.later bb
          replace qa := qa.later bb
          replace qb := qb.later bb
          replace qc := qc.later bb
          replace kP := kP.later bb
          replace kQ := kQ.later bb
          replace qs := qs.later bb
          replace kX := kX.later bb
          replace kV := kV.later bb
          replace qn := qn.later bb
          replace GD := hide' (GD.out.below bb)
          replace bel := bel.trans (bb.mono bel.size)
          clear bb
          clear b1
          go_wp2
          go_ret
          exact ⟨rfl, bel⟩
        · rw [cmpI_eq (show Vx = Q by omega)] at GR
          clear hq
          rcases Nat.lt_or_ge (am P) (am Zx) with ha | ha
          · rw [cmpI_gt ha] at GR2
            clear ha hp
            have qn_0 := qn.cell 0
            have qn_1 := qn.cell 1
            have qn_2 := qn.cell 2
            have qs_0 := qs.cell 0
            have qs_1 := qs.cell 1
            have qs_2 := qs.cell 2
            simp only [List.getElem?_toArray, List.getElem?_cons_zero, List.getElem?_cons_succ] at qn_0 qn_1 qn_2 qs_0 qs_1 qs_2
            go_wp2_with fail
            clear qn_0 qn_1 qn_2 qs_0 qs_1 qs_2
            refine (GR.out _ kV kQ).mono ?_
            rintro e w31 ⟨rfl, b1⟩
            have bb := b1
            replace hS0 := hS0.later bb
            replace hT0 := hT0.later bb
            replace hS1 := hS1.later bb
            replace hT1 := hT1.later bb
            replace hS2 := hS2.later bb
            replace hT2 := hT2.later bb
            replace qa := qa.later bb
            replace qb := qb.later bb
            replace qc := qc.later bb
            replace kP := kP.later bb
            replace kQ := kQ.later bb
            replace qs := qs.later bb
            replace kX := kX.later bb
            replace kV := kV.later bb
            replace qn := qn.later bb
            replace GD := hide' (GD.out.below bb)
            replace bel := bel.trans (bb.mono bel.size)
            clear bb
            clear b1
            have qn_0 := qn.cell 0
            have qn_1 := qn.cell 1
            have qn_2 := qn.cell 2
            have qs_0 := qs.cell 0
            have qs_1 := qs.cell 1
            have qs_2 := qs.cell 2
            simp only [List.getElem?_toArray, List.getElem?_cons_zero, List.getElem?_cons_succ] at qn_0 qn_1 qn_2 qs_0 qs_1 qs_2
            go_wp2_with fail
            clear qn_0 qn_1 qn_2 qs_0 qs_1 qs_2
            refine (GR2.out _ kX kP).mono ?_
            rintro e w32 ⟨rfl, b1⟩
            have bb := b1
            replace hS0 := hS0.later bb
            replace hT0 := hT0.later bb
            replace hS1 := hS1.later bb
            replace hT1 := hT1.later bb
            replace hS2 := hS2.later bb
            replace hT2 := hT2.later bb
            replace qa := qa.later bb
            replace qb := qb.later bb
            replace qc := qc.later bb
            replace kP := kP.later bb
            replace kQ := kQ.later bb
            replace qs := qs.later bb
            replace kX := kX.later bb
            replace kV := kV.later bb
            replace qn := qn.later bb
            replace GD := hide' (GD.out.below bb)
            replace bel := bel.trans (bb.mono bel.size)
            clear bb
            clear b1
            go_wp2
            go_ret
            exact ⟨rfl, bel⟩
          · rw [cmpI_eq (show am Zx = am P by unfold am at *; omega)] at GR2
            clear ha hp
            have qn_0 := qn.cell 0
            have qn_1 := qn.cell 1
            have qn_2 := qn.cell 2
            have qs_0 := qs.cell 0
            have qs_1 := qs.cell 1
            have qs_2 := qs.cell 2
            simp only [List.getElem?_toArray, List.getElem?_cons_zero, List.getElem?_cons_succ] at qn_0 qn_1 qn_2 qs_0 qs_1 qs_2
            go_wp2_with fail
            clear qn_0 qn_1 qn_2 qs_0 qs_1 qs_2
            refine (GR.out _ kV kQ).mono ?_
            rintro e w33 ⟨rfl, b1⟩
            have bb := b1
            replace hS0 := hS0.later bb
            replace hT0 := hT0.later bb
            replace hS1 := hS1.later bb
            replace hT1 := hT1.later bb
            replace hS2 := hS2.later bb
            replace hT2 := hT2.later bb
            replace qa := qa.later bb
            replace qb := qb.later bb
            replace qc := qc.later bb
            replace kP := kP.later bb
            replace kQ := kQ.later bb
            replace qs := qs.later bb
            replace kX := kX.later bb
            replace kV := kV.later bb
            replace qn := qn.later bb
            replace GD := hide' (GD.out.below bb)
            replace bel := bel.trans (bb.mono bel.size)
            clear bb
            clear b1
            have qn_0 := qn.cell 0
            have qn_1 := qn.cell 1
            have qn_2 := qn.cell 2
            have qs_0 := qs.cell 0
            have qs_1 := qs.cell 1
            have qs_2 := qs.cell 2
            simp only [List.getElem?_toArray, List.getElem?_cons_zero, List.getElem?_cons_succ] at qn_0 qn_1 qn_2 qs_0 qs_1 qs_2
            go_wp2_with fail
            clear qn_0 qn_1 qn_2 qs_0 qs_1 qs_2
            refine (GR2.out _ kX kP).mono ?_
            rintro e w34 ⟨rfl, b1⟩
            have bb := b1
            replace hS0 := hS0.later bb
            replace hT0 := hT0.later bb
            replace hS1 := hS1.later bb
            replace hT1 := hT1.later bb
            replace hS2 := hS2.later bb
            replace hT2 := hT2.later bb
            replace qa := qa.later bb
            replace qb := qb.later bb
            replace qc := qc.later bb
            replace kP := kP.later bb
            replace kQ := kQ.later bb
            replace qs := qs.later bb
            replace kX := kX.later bb
            replace kV := kV.later bb
            replace qn := qn.later bb
            replace GD := hide' (GD.out.below bb)
            replace bel := bel.trans (bb.mono bel.size)
            clear bb
            clear b1
            go_wp2
            go_ret
            exact ⟨rfl, bel⟩
set_option maxHeartbeats 8000000 in
set_option maxRecDepth 100000 in
theorem walk (s0 : Bool) (a0 : Option Addr) (n0 c0 X0 : Nat) (b0 : Option Addr) (m0 d0 Y0 : Nat) (s1 : Bool) (a1 : Option Addr) (n1 c1 X1 : Nat) (b1 : Option Addr) (m1 d1 Y1 : Nat) (s2 : Bool) (a2 : Option Addr) (n2 c2 X2 : Nat) (b2 : Option Addr) (m2 d2 Y2 : Nat) (w : World) (hc0 : n0 ≤ c0) (hm0 : n0 ≤ 35184372087808) (hS0 : Seg w a0 X0 n0) (hd0 : m0 ≤ d0) (hk0 : m0 ≤ 35184372087808) (hT0 : Seg w b0 Y0 m0) (hc1 : n1 ≤ c1) (hm1 : n1 ≤ 35184372087808) (hS1 : Seg w a1 X1 n1) (hd1 : m1 ≤ d1) (hk1 : m1 ≤ 35184372087808) (hT1 : Seg w b1 Y1 m1) (hc2 : n2 ≤ c2) (hm2 : n2 ≤ 35184372087808) (hS2 : Seg w a2 X2 n2) (hd2 : m2 ≤ d2) (hk2 : m2 ≤ 35184372087808) (hT2 : Seg w b2 Y2 m2) (hDg : Digits w)  :
    Calls Tryz.prog 4 #[Value.agg #[Value.bool s0, Value.slice a0 n0 c0, Value.slice b0 m0 d0], Value.agg #[Value.bool s1, Value.slice a1 n1 c1, Value.slice b1 m1 d1], Value.agg #[Value.bool s2, Value.slice a2 n2 c2, Value.slice b2 m2 d2]] w fun e w' => e = .returned (.bool true) ∧ Below w.heap.size w w' := by
  obtain ⟨Zx, Vx, hx⟩ := low_ex (rn s2 X2 Y2) ((rd Y2 : Nat) : Int) (rd_ne Y2)
  obtain ⟨lZ, lV⟩ := low_ln hS2.1 hT2.1 hx
  rcases sgn_cases (rn s0 X0 Y0 * ((rd Y1 : Nat) : Int) - rn s1 X1 Y1 * ((rd Y0 : Nat) : Int)) with ⟨h, hC⟩ | ⟨h, hC | hC⟩
  · exact walkA s0 a0 n0 c0 X0 b0 m0 d0 Y0 s1 a1 n1 c1 X1 b1 m1 d1 Y1 s2 a2 n2 c2 X2 b2 m2 d2 Y2 w hc0 hm0 hS0 hd0 hk0 hT0 hc1 hm1 hS1 hd1 hk1 hT1 hc2 hm2 hS2 hd2 hk2 hT2 hDg Zx Vx hx (by omega) (by omega) hC (by omega)
  · exact walkE0 s0 a0 n0 c0 X0 b0 m0 d0 Y0 s1 a1 n1 c1 X1 b1 m1 d1 Y1 s2 a2 n2 c2 X2 b2 m2 d2 Y2 w hc0 hm0 hS0 hd0 hk0 hT0 hc1 hm1 hS1 hd1 hk1 hT1 hc2 hm2 hS2 hd2 hk2 hT2 hDg hC (by omega)
  · exact walkE1 s0 a0 n0 c0 X0 b0 m0 d0 Y0 s1 a1 n1 c1 X1 b1 m1 d1 Y1 s2 a2 n2 c2 X2 b2 m2 d2 Y2 w hc0 hm0 hS0 hd0 hk0 hT0 hc1 hm1 hS1 hd1 hk1 hT1 hc2 hm2 hS2 hd2 hk2 hT2 hDg hC (by omega)
end Go.Proofs.YtejlnodillnoaaaGreatDoor.ratioLeast
