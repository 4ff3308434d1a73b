import Derived.Test.YtejlnodillnoaaaGreatDoorWSB
import Derived.Test.YtejlnodillnoaaaGreatDoorNumN4
set_option linter.unusedSimpArgs false
namespace Go.Proofs.YtejlnodillnoaaaGreatDoor
open Go.RowKit
set_option linter.unusedVariables false
theorem cell_ltU {w : World} {c o : Nat} {v : Value} (h : w.cell? ⟨c, o, none⟩ = some v) : c < w.heap.size := World.block_lt_of_cell? w _ h
theorem floorE_is (Z V T G : Int) (p q : Option Addr) (w : World) (hV : 0 < V) (l1 : ln (am Z) ≤ 70368744177650) (l2 : ln (am V) ≤ 70368744177650) (k1 : Seg w p (am Z) (ln (am Z))) (k2 : Seg w q (am V) (ln (am V))) (hT : Z / V = T) (hG : Z % V = G) :
    Calls Tryz.prog 66 #[.agg #[.bool (ng Z), .slice p (ln (am Z)) (ln (am Z))], .agg #[.bool (ng V), .slice q (ln (am V)) (ln (am V))]] w fun e w' => ∃ aq ar, e = .returned (.tuple #[.agg #[.bool (ng T), .slice aq (ln (am T)) (ln (am T))], .agg #[.bool (ng G), .slice ar (ln (am G)) (ln (am G))], .int .i64 0]) ∧ New w w' aq (am T) (ln (am T)) ∧ New w w' ar (am G) (ln (am G)) := by
  have hV0 : am V ≠ 0 := by unfold am; omega
  have hn : ng V = false := by unfold ng; exact decide_eq_false (by omega)
  have eV : ((am V : Nat) : Int) = V := by unfold am; omega
  obtain ⟨Zf, Zg, he, hsg, hlt, hle, hcall⟩ := floor_of (ng Z) p (ln (am Z)) (ln (am Z)) (am Z) (ng V) q (ln (am V)) (ln (am V)) (am V) (Nat.le_refl _) l1 (Nat.le_refl _) l2 hV0
  rw [hn] at he hsg
  have hZg := fr_rest hV0 hsg hlt
  obtain ⟨hcd, hcm⟩ := fr_step (A := Z) (Zf := Zf) (Zg := Zg) hV0 (by rw [sg_na] at he; simpa [sg] using he) hZg.1 hZg.2
  rw [eV, hT] at hcd
  rw [eV, hG] at hcm
  subst hcd hcm
  exact hcall w k1 k2
set_option maxHeartbeats 8000000 in
set_option maxRecDepth 100000 in
theorem upTo_is (Z0 Z1 Z2 Z3 T : Int) (p0 p1 p2 p3 : Option Addr) (a : Option Addr) (n c M : Nat) (A B : Int) (w : World) (h0 : Seg w p0 (am Z0) (ln (am Z0))) (l0 : ln (am Z0) ≤ 35184372087900) (h1 : Seg w p1 (am Z1) (ln (am Z1))) (l1 : ln (am Z1) ≤ 35184372087900) (h2 : Seg w p2 (am Z2) (ln (am Z2))) (l2 : ln (am Z2) ≤ 35184372087900) (h3 : Seg w p3 (am Z3) (ln (am Z3))) (l3 : ln (am Z3) ≤ 35184372087900) (hc : n ≤ c) (hn : n ≤ 35184372087808) (hS : Seg w a M n) (hZ3 : 0 < Z3) (hZ1 : 0 ≤ Z1 ∧ Z1 ≤ M) (hT : ((M : Int) - Z1) / Z3 = T) (hA : Z2 * T + Z0 = A) (hB : Z3 * T + Z1 = B) :
    Calls Tryz.prog 52 #[.agg #[.bool (ng Z0), .slice p0 (ln (am Z0)) (ln (am Z0)), .bool (ng Z1), .slice p1 (ln (am Z1)) (ln (am Z1)), .bool (ng Z2), .slice p2 (ln (am Z2)) (ln (am Z2)), .bool (ng Z3), .slice p3 (ln (am Z3)) (ln (am Z3))], .agg #[.bool false, .slice a n c]] w fun e w' => ∃ pa pb, e = .returned (.agg #[.bool (ng A), .slice pa (ln (am A)) (ln (am A)), .bool (ng B), .slice pb (ln (am B)) (ln (am B))]) ∧ Below w.heap.size w w' ∧ Seg w' pa (am A) (ln (am A)) ∧ Seg w' pb (am B) (ln (am B)) := by
  obtain ⟨Zs, hZs⟩ : ∃ Z, (M : Int) - Z1 = Z := ⟨_, rfl⟩
  rw [hZs] at hT
  obtain ⟨G, hG⟩ : ∃ Z, Zs % Z3 = Z := ⟨_, rfl⟩
  have hs0 : 0 ≤ Zs := by omega
  have lS : ln (am Zs) ≤ n := ln_le_of_lt (Nat.lt_of_le_of_lt (show am Zs ≤ M by unfold am; omega) hS.1)
  have lT : ln (am T) ≤ n := by
    have h9 : T ≤ Zs := by rw [← hT]; exact Int.ediv_le_self _ hs0
    have h8 : 0 ≤ T := by rw [← hT]; exact Int.ediv_nonneg hs0 (by omega)
    exact ln_le_of_lt (Nat.lt_of_le_of_lt (show am T ≤ M by unfold am; omega) hS.1)
  have GS := hide' (fun w' k1 k2 => wSub_is false a n c M (ng Z1) p1 (ln (am Z1)) (ln (am Z1)) (am Z1) Zs w' hc (by omega) k1 (Nat.le_refl _) (by omega) k2 (by rw [sg_na]; simpa [sg] using hZs))
  have GF := hide' (fun w' p k1 k2 => floorE_is Zs Z3 T G p p3 w' hZ3 (by omega) (by omega) k1 k2 hT hG)
  have GM := hide' (fun w' p k0 k1 k2 k3 k4 => mixed_is Z0 Z1 Z2 Z3 p0 p1 p2 p3 (ng T) p (ln (am T)) (ln (am T)) (am T) A B w' k0 (by omega) k1 (by omega) k2 (by omega) k3 (by omega) (Nat.le_refl _) (by omega) k4 (by rw [sg_na]; exact hA) (by rw [sg_na]; exact hB))
  clear hT hG hZs hs0 hA hB
  have bel : Below w.heap.size w w := Below.refl _ _
  have bb := below_alloc (w := w) (.cells #[.bool (ng Z0), .slice p0 (ln (am Z0)) (ln (am Z0)), .bool (ng Z1), .slice p1 (ln (am Z1)) (ln (am Z1)), .bool (ng Z2), .slice p2 (ln (am Z2)) (ln (am Z2)), .bool (ng Z3), .slice p3 (ln (am Z3)) (ln (am Z3))] 68)
  replace h0 := h0.later bb
  replace h1 := h1.later bb
  replace h2 := h2.later bb
  replace h3 := h3.later bb
  replace hS := hS.later bb
  replace bel := bel.trans (bb.mono bel.size)
  clear bb
  have qv := Blk.new w #[.bool (ng Z0), .slice p0 (ln (am Z0)) (ln (am Z0)), .bool (ng Z1), .slice p1 (ln (am Z1)) (ln (am Z1)), .bool (ng Z2), .slice p2 (ln (am Z2)) (ln (am Z2)), .bool (ng Z3), .slice p3 (ln (am Z3)) (ln (am Z3))] 68
  have bb := below_alloc (w := (w.alloc (.cells #[.bool (ng Z0), .slice p0 (ln (am Z0)) (ln (am Z0)), .bool (ng Z1), .slice p1 (ln (am Z1)) (ln (am Z1)), .bool (ng Z2), .slice p2 (ln (am Z2)) (ln (am Z2)), .bool (ng Z3), .slice p3 (ln (am Z3)) (ln (am Z3))] 68))) (.cells #[.bool false, .slice a n c] 25)
  replace h0 := h0.later bb
  replace h1 := h1.later bb
  replace h2 := h2.later bb
  replace h3 := h3.later bb
  replace hS := hS.later bb
  replace qv := qv.later bb
  replace bel := bel.trans (bb.mono bel.size)
  clear bb
  have ql := Blk.new (w.alloc (.cells #[.bool (ng Z0), .slice p0 (ln (am Z0)) (ln (am Z0)), .bool (ng Z1), .slice p1 (ln (am Z1)) (ln (am Z1)), .bool (ng Z2), .slice p2 (ln (am Z2)) (ln (am Z2)), .bool (ng Z3), .slice p3 (ln (am Z3)) (ln (am Z3))] 68)) #[.bool false, .slice a n c] 25
  simp only [World.size_alloc] at ql
  have bb := below_alloc (w := ((w.alloc (.cells #[.bool (ng Z0), .slice p0 (ln (am Z0)) (ln (am Z0)), .bool (ng Z1), .slice p1 (ln (am Z1)) (ln (am Z1)), .bool (ng Z2), .slice p2 (ln (am Z2)) (ln (am Z2)), .bool (ng Z3), .slice p3 (ln (am Z3)) (ln (am Z3))] 68)).alloc (.cells #[.bool false, .slice a n c] 25))) (.cells #[.bool false, .slice none 0 0, .bool false, .slice none 0 0] 43)
  replace h0 := h0.later bb
  replace h1 := h1.later bb
  replace h2 := h2.later bb
  replace h3 := h3.later bb
  replace hS := hS.later bb
  replace qv := qv.later bb
  replace ql := ql.later bb
  replace bel := bel.trans (bb.mono bel.size)
  clear bb
  have qo := Blk.new ((w.alloc (.cells #[.bool (ng Z0), .slice p0 (ln (am Z0)) (ln (am Z0)), .bool (ng Z1), .slice p1 (ln (am Z1)) (ln (am Z1)), .bool (ng Z2), .slice p2 (ln (am Z2)) (ln (am Z2)), .bool (ng Z3), .slice p3 (ln (am Z3)) (ln (am Z3))] 68)).alloc (.cells #[.bool false, .slice a n c] 25)) #[.bool false, .slice none 0 0, .bool false, .slice none 0 0] 43
  simp only [World.size_alloc] at qo
  go_enter Tryz.func52, Tryz.ntmps52
  go_wp2_with fail
  obtain ⟨W0, hW⟩ : ∃ W, (((w.alloc (.cells #[.bool (ng Z0), .slice p0 (ln (am Z0)) (ln (am Z0)), .bool (ng Z1), .slice p1 (ln (am Z1)) (ln (am Z1)), .bool (ng Z2), .slice p2 (ln (am Z2)) (ln (am Z2)), .bool (ng Z3), .slice p3 (ln (am Z3)) (ln (am Z3))] 68)).alloc (.cells #[.bool false, .slice a n c] 25)).alloc (.cells #[.bool false, .slice none 0 0, .bool false, .slice none 0 0] 43)) = W := ⟨_, rfl⟩
  rw [hW] at bel h0 h1 h2 h3 hS qv ql qo ⊢
  clear hW
  have lqo := qo.lt
  have hbs := bel.size
  have bT : Below W0.heap.size W0 W0 := Below.refl _ _
  go_cut [5, 6, 7] from 8 to 20 (fun s5_ s6_ s7_ wx => ∃ (wh9 : World) (c5 c6 : Nat) (pt : Option Addr), wh9 = wx ∧ s5_ = .pointer (some ⟨c5, 0, none⟩) ∧ s6_ = .pointer (some ⟨c6, 0, none⟩) ∧ s7_ = .int .i64 0 ∧ Blk wx c5 #[.bool (ng T), .slice pt (ln (am T)) (ln (am T))] 25 ∧ Seg wx pt (am T) (ln (am T)) ∧ W0.heap.size ≤ c5 ∧ Below W0.heap.size W0 wx)
  case first =>
    have qv_0 := qv.cell 0
    have qv_1 := qv.cell 1
    have qv_2 := qv.cell 2
    have qv_3 := qv.cell 3
    have qv_4 := qv.cell 4
    have qv_5 := qv.cell 5
    have qv_6 := qv.cell 6
    have qv_7 := qv.cell 7
    have ql_0 := ql.cell 0
    have ql_1 := ql.cell 1
    simp only [List.getElem?_toArray, List.getElem?_cons_zero, List.getElem?_cons_succ] at qv_0 qv_1 qv_2 qv_3 qv_4 qv_5 qv_6 qv_7 ql_0 ql_1
    have bD : Below W0.heap.size W0 W0.drew := (Below.refl _ _).drew
    have kqv_0 := below_cell bD qv_0
    have kqv_1 := below_cell bD qv_1
    have kqv_2 := below_cell bD qv_2
    have kqv_3 := below_cell bD qv_3
    have kqv_4 := below_cell bD qv_4
    have kqv_5 := below_cell bD qv_5
    have kqv_6 := below_cell bD qv_6
    have kqv_7 := below_cell bD qv_7
    have kql_0 := below_cell bD ql_0
    have kql_1 := below_cell bD ql_1
    replace bT := bT.trans (bD.mono bT.size)
    replace h0 := h0.later bD
    replace h1 := h1.later bD
    replace h2 := h2.later bD
    replace h3 := h3.later bD
    replace hS := hS.later bD
    replace qv := qv.later bD
    replace ql := ql.later bD
    replace qo := qo.later bD
    refine wp_region_held_drew (S := fun w' => w'.cell? ⟨w.heap.size, 0, none⟩ = some (.bool (ng Z0)) ∧ w'.cell? ⟨w.heap.size, 1, none⟩ = some (.slice p0 (ln (am Z0)) (ln (am Z0))) ∧ w'.cell? ⟨w.heap.size, 2, none⟩ = some (.bool (ng Z1)) ∧ w'.cell? ⟨w.heap.size, 3, none⟩ = some (.slice p1 (ln (am Z1)) (ln (am Z1))) ∧ w'.cell? ⟨w.heap.size, 4, none⟩ = some (.bool (ng Z2)) ∧ w'.cell? ⟨w.heap.size, 5, none⟩ = some (.slice p2 (ln (am Z2)) (ln (am Z2))) ∧ w'.cell? ⟨w.heap.size, 6, none⟩ = some (.bool (ng Z3)) ∧ w'.cell? ⟨w.heap.size, 7, none⟩ = some (.slice p3 (ln (am Z3)) (ln (am Z3))) ∧ w'.cell? ⟨w.heap.size + 1, 0, none⟩ = some (.bool false) ∧ w'.cell? ⟨w.heap.size + 1, 1, none⟩ = some (.slice a n c)) (by kernel_rfl) ⟨kqv_0, kqv_1, kqv_2, kqv_3, kqv_4, kqv_5, kqv_6, kqv_7, kql_0, kql_1⟩ (fun hHeld => ?_)
    clear kqv_0 kqv_1 kqv_2 kqv_3 kqv_4 kqv_5 kqv_6 kqv_7 kql_0 kql_1
    generalize W0.drew = w0F at bD h0 h1 h2 h3 hS qv ql qo bT hHeld ⊢
    clear bD qv_0 qv_1 qv_2 qv_3 qv_4 qv_5 qv_6 qv_7 ql_0 ql_1
    have lqv := qv.lt
    have lql := ql.lt
    clear qv ql qo h0 h2 GM
    refine tk 0 (v := ?_) rfl (Or.inl ⟨by rfl, ?_⟩) ?_
    rotate_left
    · intro w9 hSw
      go_simp
      first | done | with_reducible rfl
    simp only [pP, pN, pS, pZ, pC]
    refine tk 1 (v := ?_) rfl (Or.inl ⟨by rfl, ?_⟩) ?_
    rotate_left
    · intro w9 hSw
      go_simp
      first | done | with_reducible rfl
    simp only [pP, pN, pS, pZ, pC]
    refine tk 2 (v := ?_) rfl (Or.inl ⟨by rfl, ?_⟩) ?_
    rotate_left
    · intro w9 hSw
      go_simp
      first | done | with_reducible rfl
    simp only [pP, pN, pS, pZ, pC]
    refine tk 3 (v := ?_) rfl (Or.inl ⟨by rfl, ?_⟩) ?_
    rotate_left
    · intro w9 hSw
      go_simp
      first | done | with_reducible rfl
    simp only [pP, pN, pS, pZ, pC]
    refine tk 5 (v := ?_) rfl (Or.inl ⟨by rfl, ?_⟩) ?_
    rotate_left
    · intro w9 hSw
      go_simp
      first | done | with_reducible rfl
    simp only [pP, pN, pS, pZ, pC]
    refine tk 6 (v := ?_) rfl (Or.inl ⟨by rfl, ?_⟩) ?_
    rotate_left
    · intro w9 hSw
      go_simp
      first | done | with_reducible rfl
    simp only [pP, pN, pS, pZ, pC]
    refine tk 7 (v := ?_) rfl (Or.inl ⟨by rfl, ?_⟩) ?_
    rotate_left
    · intro w9 hSw
      go_simp
      first | done | with_reducible rfl
    simp only [pP, pN, pS, pZ, pC]
    refine wpAnyH_ready (rs := [4, 13, 14]) (by kernel_rfl) (by simp) ?_
    refine consT rfl (fun KK hKK => ?_) ?_
    · skip
      go_simp
      refine (GS.out _ hS h1).mono ?_
      rintro e w1 ⟨ps, rfl, n1⟩
      have bC := n1.below
      replace bT := bT.trans (bC.mono bT.size)
      replace h1 := h1.later bC
      replace h3 := h3.later bC
      replace hS := hS.later bC
      replace hHeld := (⟨below_cell bC hHeld.1, below_cell bC hHeld.2.1, below_cell bC hHeld.2.2.1, below_cell bC hHeld.2.2.2.1, below_cell bC hHeld.2.2.2.2.1, below_cell bC hHeld.2.2.2.2.2.1, below_cell bC hHeld.2.2.2.2.2.2.1, below_cell bC hHeld.2.2.2.2.2.2.2.1, below_cell bC hHeld.2.2.2.2.2.2.2.2.1, below_cell bC hHeld.2.2.2.2.2.2.2.2.2⟩ : _ ∧ _ ∧ _ ∧ _ ∧ _ ∧ _ ∧ _ ∧ _ ∧ _ ∧ _)
      clear bC
      go_wp2_with fail
      have ks := n1.seg
      clear n1
      refine hKK.out _ _ hHeld ?_
      clear hHeld
      intro hHeld
      clear hKK KK
      try simp only [pP, pN, pS, pZ, pC]
      refine wpAnyH_ready (rs := [8, 13, 14]) (by kernel_rfl) (by simp) ?_
      refine consT rfl (fun KK hKK => ?_) ?_
      · skip
        go_simp
        refine (GF.out _ ps ks h3).mono ?_
        rintro e w2 ⟨pt, pg, rfl, n1, n2⟩
        have bC := n1.below
        replace bT := bT.trans (bC.mono bT.size)
        replace h1 := h1.later bC
        replace h3 := h3.later bC
        replace hS := hS.later bC
        replace ks := ks.later bC
        replace hHeld := (⟨below_cell bC hHeld.1, below_cell bC hHeld.2.1, below_cell bC hHeld.2.2.1, below_cell bC hHeld.2.2.2.1, below_cell bC hHeld.2.2.2.2.1, below_cell bC hHeld.2.2.2.2.2.1, below_cell bC hHeld.2.2.2.2.2.2.1, below_cell bC hHeld.2.2.2.2.2.2.2.1, below_cell bC hHeld.2.2.2.2.2.2.2.2.1, below_cell bC hHeld.2.2.2.2.2.2.2.2.2⟩ : _ ∧ _ ∧ _ ∧ _ ∧ _ ∧ _ ∧ _ ∧ _ ∧ _ ∧ _)
        clear bC
        go_wp2_with fail
        have kt := n1.seg
        have kg := n2.seg
        clear n1 n2
        refine hKK.out _ _ hHeld ?_
        clear hHeld
        intro hHeld
        clear hKK KK
        try simp only [pP, pN, pS, pZ, pC]
        refine tk 9 (v := ?_) rfl (Or.inl ⟨by rfl, ?_⟩) ?_
        rotate_left
        · intro w9 hSw
          go_simp
          first | done | with_reducible rfl
        simp only [pP, pN, pS, pZ, pC]
        refine tk 10 (v := ?_) rfl (Or.inl ⟨by rfl, ?_⟩) ?_
        rotate_left
        · intro w9 hSw
          go_simp
          first | done | with_reducible rfl
        simp only [pP, pN, pS, pZ, pC]
        refine tk 11 (v := ?_) rfl (Or.inl ⟨by rfl, ?_⟩) ?_
        rotate_left
        · intro w9 hSw
          go_simp
          first | done | with_reducible rfl
        simp only [pP, pN, pS, pZ, pC]
        refine tk 12 (v := ?_) rfl (Or.inl ⟨by rfl, ?_⟩) ?_
        rotate_left
        · intro w9 hSw
          go_simp
          first | done | with_reducible rfl
        simp only [pP, pN, pS, pZ, pC]
        refine wpAnyH_ready (rs := [13, 14]) (by kernel_rfl) (by simp) ?_
        refine consT rfl (fun KK hKK => ?_) ?_
        · skip
          go_simp
          have q5 := Blk.new w2 #[.bool false, .slice none 0 0] 25
          have bA := below_alloc (w := w2) (.cells #[.bool false, .slice none 0 0] 25)
          have hq5ge := bT.size
          have hq5c0 := cell_ltU hHeld.1
          have hq5c1 := cell_ltU hHeld.2.1
          have hq5c2 := cell_ltU hHeld.2.2.1
          have hq5c3 := cell_ltU hHeld.2.2.2.1
          have hq5c4 := cell_ltU hHeld.2.2.2.2.1
          have hq5c5 := cell_ltU hHeld.2.2.2.2.2.1
          have hq5c6 := cell_ltU hHeld.2.2.2.2.2.2.1
          have hq5c7 := cell_ltU hHeld.2.2.2.2.2.2.2.1
          have hq5c8 := cell_ltU hHeld.2.2.2.2.2.2.2.2.1
          have hq5c9 := cell_ltU hHeld.2.2.2.2.2.2.2.2.2
          generalize w2.alloc (.cells #[.bool false, .slice none 0 0] 25) = w3 at q5 bA ⊢
          replace bT := bT.trans (bA.mono bT.size)
          replace h1 := h1.later bA
          replace h3 := h3.later bA
          replace hS := hS.later bA
          replace ks := ks.later bA
          replace kt := kt.later bA
          replace kg := kg.later bA
          replace hHeld := (⟨below_cell bA hHeld.1, below_cell bA hHeld.2.1, below_cell bA hHeld.2.2.1, below_cell bA hHeld.2.2.2.1, below_cell bA hHeld.2.2.2.2.1, below_cell bA hHeld.2.2.2.2.2.1, below_cell bA hHeld.2.2.2.2.2.2.1, below_cell bA hHeld.2.2.2.2.2.2.2.1, below_cell bA hHeld.2.2.2.2.2.2.2.2.1, below_cell bA hHeld.2.2.2.2.2.2.2.2.2⟩ : _ ∧ _ ∧ _ ∧ _ ∧ _ ∧ _ ∧ _ ∧ _ ∧ _ ∧ _)
          clear bA
          refine hKK.out _ _ hHeld ?_
          clear hHeld
          intro hHeld
          clear hKK KK
          try simp only [pP, pN, pS, pZ, pC]
          obtain ⟨cq5, hcc⟩ : ∃ cc, w2.heap.size = cc := ⟨_, rfl⟩
          rw [hcc] at q5 hq5ge hq5c0 hq5c1 hq5c2 hq5c3 hq5c4 hq5c5 hq5c6 hq5c7 hq5c8 hq5c9
          try rw [hcc]
          clear hcc
          refine wpAnyH_ready (rs := [14]) (by kernel_rfl) (by simp) ?_
          refine cons' rfl (fun KK hKK => ?_)
          go_simp
          have q6 := Blk.new w3 #[.bool false, .slice none 0 0] 25
          have bA := below_alloc (w := w3) (.cells #[.bool false, .slice none 0 0] 25)
          have hq6ge := bT.size
          have hq6q5 := q5.lt
          have hq6c0 := cell_ltU hHeld.1
          have hq6c1 := cell_ltU hHeld.2.1
          have hq6c2 := cell_ltU hHeld.2.2.1
          have hq6c3 := cell_ltU hHeld.2.2.2.1
          have hq6c4 := cell_ltU hHeld.2.2.2.2.1
          have hq6c5 := cell_ltU hHeld.2.2.2.2.2.1
          have hq6c6 := cell_ltU hHeld.2.2.2.2.2.2.1
          have hq6c7 := cell_ltU hHeld.2.2.2.2.2.2.2.1
          have hq6c8 := cell_ltU hHeld.2.2.2.2.2.2.2.2.1
          have hq6c9 := cell_ltU hHeld.2.2.2.2.2.2.2.2.2
          generalize w3.alloc (.cells #[.bool false, .slice none 0 0] 25) = w4 at q6 bA ⊢
          replace bT := bT.trans (bA.mono bT.size)
          replace h1 := h1.later bA
          replace h3 := h3.later bA
          replace hS := hS.later bA
          replace ks := ks.later bA
          replace kt := kt.later bA
          replace kg := kg.later bA
          replace q5 := q5.later bA
          replace hHeld := (⟨below_cell bA hHeld.1, below_cell bA hHeld.2.1, below_cell bA hHeld.2.2.1, below_cell bA hHeld.2.2.2.1, below_cell bA hHeld.2.2.2.2.1, below_cell bA hHeld.2.2.2.2.2.1, below_cell bA hHeld.2.2.2.2.2.2.1, below_cell bA hHeld.2.2.2.2.2.2.2.1, below_cell bA hHeld.2.2.2.2.2.2.2.2.1, below_cell bA hHeld.2.2.2.2.2.2.2.2.2⟩ : _ ∧ _ ∧ _ ∧ _ ∧ _ ∧ _ ∧ _ ∧ _ ∧ _ ∧ _)
          clear bA
          refine hKK.out _ _ hHeld ?_
          clear hHeld
          intro hHeld
          clear hKK KK
          try simp only [pP, pN, pS, pZ, pC]
          obtain ⟨cq6, hcc⟩ : ∃ cc, w3.heap.size = cc := ⟨_, rfl⟩
          rw [hcc] at q6 hq6ge hq6q5 hq6c0 hq6c1 hq6c2 hq6c3 hq6c4 hq6c5 hq6c6 hq6c7 hq6c8 hq6c9
          try rw [hcc]
          clear hcc
          refine wpAnyH_ready (rs := [15]) (by kernel_rfl) (by simp) ?_
          refine cons' rfl (fun KK hKK => ?_)
          have z0 := q5.cell 0
          have z1 := q5.cell 1
          simp only [List.getElem?_toArray, List.getElem?_cons_zero, List.getElem?_cons_succ] at z0 z1
          have fz := fun o => q5.frozen o
          obtain ⟨c9, q9⟩ := q5.set2s (.bool (ng T)) (.slice pt (ln (am T)) (ln (am T)))
          have hno := q5.no (by simp)
          replace h1 := h1.ch c9 hno
          replace h3 := h3.ch c9 hno
          replace hS := hS.ch c9 hno
          replace ks := ks.ch c9 hno
          replace kt := kt.ch c9 hno
          replace kg := kg.ch c9 hno
          replace q6 := q6.ch c9 (by omega)
          replace bT := bT.trans (c9.below (by omega))
          have hH2 := (⟨(World.cell?_of_block (w := w4) (a := ⟨w.heap.size, 0, none⟩) (c9.other (w.heap.size) (by omega))).trans hHeld.1, (World.cell?_of_block (w := w4) (a := ⟨w.heap.size, 1, none⟩) (c9.other (w.heap.size) (by omega))).trans hHeld.2.1, (World.cell?_of_block (w := w4) (a := ⟨w.heap.size, 2, none⟩) (c9.other (w.heap.size) (by omega))).trans hHeld.2.2.1, (World.cell?_of_block (w := w4) (a := ⟨w.heap.size, 3, none⟩) (c9.other (w.heap.size) (by omega))).trans hHeld.2.2.2.1, (World.cell?_of_block (w := w4) (a := ⟨w.heap.size, 4, none⟩) (c9.other (w.heap.size) (by omega))).trans hHeld.2.2.2.2.1, (World.cell?_of_block (w := w4) (a := ⟨w.heap.size, 5, none⟩) (c9.other (w.heap.size) (by omega))).trans hHeld.2.2.2.2.2.1, (World.cell?_of_block (w := w4) (a := ⟨w.heap.size, 6, none⟩) (c9.other (w.heap.size) (by omega))).trans hHeld.2.2.2.2.2.2.1, (World.cell?_of_block (w := w4) (a := ⟨w.heap.size, 7, none⟩) (c9.other (w.heap.size) (by omega))).trans hHeld.2.2.2.2.2.2.2.1, (World.cell?_of_block (w := w4) (a := ⟨w.heap.size + 1, 0, none⟩) (c9.other (w.heap.size + 1) (by omega))).trans hHeld.2.2.2.2.2.2.2.2.1, (World.cell?_of_block (w := w4) (a := ⟨w.heap.size + 1, 1, none⟩) (c9.other (w.heap.size + 1) (by omega))).trans hHeld.2.2.2.2.2.2.2.2.2⟩ : _ ∧ _ ∧ _ ∧ _ ∧ _ ∧ _ ∧ _ ∧ _ ∧ _ ∧ _)
          go_simp
          clear z0 z1 fz hno c9
          replace q5 := q9
          refine hKK.out _ _ hH2 ?_
          clear hHeld
          intro hHeld
          clear hKK KK
          try simp only [pP, pN, pS, pZ, pC]
          clear hH2
          generalize ((w4.setCell ⟨cq5, 0, none⟩ (.bool (ng T))).setCell ⟨cq5, 1, none⟩ (.slice pt (ln (am T)) (ln (am T)))) = w5 at bT h1 h3 hS ks kt kg q5 q6 hHeld ⊢
          refine wpAnyH_ready (rs := [16]) (by kernel_rfl) (by simp) ?_
          refine cons' rfl (fun KK hKK => ?_)
          have z0 := q6.cell 0
          have z1 := q6.cell 1
          simp only [List.getElem?_toArray, List.getElem?_cons_zero, List.getElem?_cons_succ] at z0 z1
          have fz := fun o => q6.frozen o
          obtain ⟨c9, q9⟩ := q6.set2s (.bool (ng G)) (.slice pg (ln (am G)) (ln (am G)))
          have hno := q6.no (by simp)
          replace h1 := h1.ch c9 hno
          replace h3 := h3.ch c9 hno
          replace hS := hS.ch c9 hno
          replace ks := ks.ch c9 hno
          replace kt := kt.ch c9 hno
          replace kg := kg.ch c9 hno
          replace q5 := q5.ch c9 (by omega)
          replace bT := bT.trans (c9.below (by omega))
          have hH2 := (⟨(World.cell?_of_block (w := w5) (a := ⟨w.heap.size, 0, none⟩) (c9.other (w.heap.size) (by omega))).trans hHeld.1, (World.cell?_of_block (w := w5) (a := ⟨w.heap.size, 1, none⟩) (c9.other (w.heap.size) (by omega))).trans hHeld.2.1, (World.cell?_of_block (w := w5) (a := ⟨w.heap.size, 2, none⟩) (c9.other (w.heap.size) (by omega))).trans hHeld.2.2.1, (World.cell?_of_block (w := w5) (a := ⟨w.heap.size, 3, none⟩) (c9.other (w.heap.size) (by omega))).trans hHeld.2.2.2.1, (World.cell?_of_block (w := w5) (a := ⟨w.heap.size, 4, none⟩) (c9.other (w.heap.size) (by omega))).trans hHeld.2.2.2.2.1, (World.cell?_of_block (w := w5) (a := ⟨w.heap.size, 5, none⟩) (c9.other (w.heap.size) (by omega))).trans hHeld.2.2.2.2.2.1, (World.cell?_of_block (w := w5) (a := ⟨w.heap.size, 6, none⟩) (c9.other (w.heap.size) (by omega))).trans hHeld.2.2.2.2.2.2.1, (World.cell?_of_block (w := w5) (a := ⟨w.heap.size, 7, none⟩) (c9.other (w.heap.size) (by omega))).trans hHeld.2.2.2.2.2.2.2.1, (World.cell?_of_block (w := w5) (a := ⟨w.heap.size + 1, 0, none⟩) (c9.other (w.heap.size + 1) (by omega))).trans hHeld.2.2.2.2.2.2.2.2.1, (World.cell?_of_block (w := w5) (a := ⟨w.heap.size + 1, 1, none⟩) (c9.other (w.heap.size + 1) (by omega))).trans hHeld.2.2.2.2.2.2.2.2.2⟩ : _ ∧ _ ∧ _ ∧ _ ∧ _ ∧ _ ∧ _ ∧ _ ∧ _ ∧ _)
          go_simp
          clear z0 z1 fz hno c9
          replace q6 := q9
          refine hKK.out _ _ hH2 ?_
          clear hHeld
          intro hHeld
          clear hKK KK
          try simp only [pP, pN, pS, pZ, pC]
          clear hH2
          generalize ((w5.setCell ⟨cq6, 0, none⟩ (.bool (ng G))).setCell ⟨cq6, 1, none⟩ (.slice pg (ln (am G)) (ln (am G)))) = w6 at bT h1 h3 hS ks kt kg q5 q6 hHeld ⊢
          refine tk 17 (v := ?_) rfl (Or.inl ⟨by rfl, ?_⟩) ?_
          rotate_left
          · intro w9 hSw
            go_simp
            first | done | with_reducible rfl
          simp only [pP, pN, pS, pZ, pC]
          refine wpAnyH_done (by kernel_rfl) ?_ _
          go_wp2_with fail
          go_meet
          exact ⟨_, cq5, cq6, pt, rfl, rfl, rfl, rfl, q5, kt, hq5ge, bT⟩
        refine consT rfl (fun KK hKK => ?_) ?_
        · skip
          go_simp
          have q6 := Blk.new w2 #[.bool false, .slice none 0 0] 25
          have bA := below_alloc (w := w2) (.cells #[.bool false, .slice none 0 0] 25)
          have hq6ge := bT.size
          have hq6c0 := cell_ltU hHeld.1
          have hq6c1 := cell_ltU hHeld.2.1
          have hq6c2 := cell_ltU hHeld.2.2.1
          have hq6c3 := cell_ltU hHeld.2.2.2.1
          have hq6c4 := cell_ltU hHeld.2.2.2.2.1
          have hq6c5 := cell_ltU hHeld.2.2.2.2.2.1
          have hq6c6 := cell_ltU hHeld.2.2.2.2.2.2.1
          have hq6c7 := cell_ltU hHeld.2.2.2.2.2.2.2.1
          have hq6c8 := cell_ltU hHeld.2.2.2.2.2.2.2.2.1
          have hq6c9 := cell_ltU hHeld.2.2.2.2.2.2.2.2.2
          generalize w2.alloc (.cells #[.bool false, .slice none 0 0] 25) = w7 at q6 bA ⊢
          replace bT := bT.trans (bA.mono bT.size)
          replace h1 := h1.later bA
          replace h3 := h3.later bA
          replace hS := hS.later bA
          replace ks := ks.later bA
          replace kt := kt.later bA
          replace kg := kg.later bA
          replace hHeld := (⟨below_cell bA hHeld.1, below_cell bA hHeld.2.1, below_cell bA hHeld.2.2.1, below_cell bA hHeld.2.2.2.1, below_cell bA hHeld.2.2.2.2.1, below_cell bA hHeld.2.2.2.2.2.1, below_cell bA hHeld.2.2.2.2.2.2.1, below_cell bA hHeld.2.2.2.2.2.2.2.1, below_cell bA hHeld.2.2.2.2.2.2.2.2.1, below_cell bA hHeld.2.2.2.2.2.2.2.2.2⟩ : _ ∧ _ ∧ _ ∧ _ ∧ _ ∧ _ ∧ _ ∧ _ ∧ _ ∧ _)
          clear bA
          refine hKK.out _ _ hHeld ?_
          clear hHeld
          intro hHeld
          clear hKK KK
          try simp only [pP, pN, pS, pZ, pC]
          obtain ⟨cq6, hcc⟩ : ∃ cc, w2.heap.size = cc := ⟨_, rfl⟩
          rw [hcc] at q6 hq6ge hq6c0 hq6c1 hq6c2 hq6c3 hq6c4 hq6c5 hq6c6 hq6c7 hq6c8 hq6c9
          try rw [hcc]
          clear hcc
          refine wpAnyH_ready (rs := [13]) (by kernel_rfl) (by simp) ?_
          refine cons' rfl (fun KK hKK => ?_)
          go_simp
          have q5 := Blk.new w7 #[.bool false, .slice none 0 0] 25
          have bA := below_alloc (w := w7) (.cells #[.bool false, .slice none 0 0] 25)
          have hq5ge := bT.size
          have hq5q6 := q6.lt
          have hq5c0 := cell_ltU hHeld.1
          have hq5c1 := cell_ltU hHeld.2.1
          have hq5c2 := cell_ltU hHeld.2.2.1
          have hq5c3 := cell_ltU hHeld.2.2.2.1
          have hq5c4 := cell_ltU hHeld.2.2.2.2.1
          have hq5c5 := cell_ltU hHeld.2.2.2.2.2.1
          have hq5c6 := cell_ltU hHeld.2.2.2.2.2.2.1
          have hq5c7 := cell_ltU hHeld.2.2.2.2.2.2.2.1
          have hq5c8 := cell_ltU hHeld.2.2.2.2.2.2.2.2.1
          have hq5c9 := cell_ltU hHeld.2.2.2.2.2.2.2.2.2
          generalize w7.alloc (.cells #[.bool false, .slice none 0 0] 25) = w8 at q5 bA ⊢
          replace bT := bT.trans (bA.mono bT.size)
          replace h1 := h1.later bA
          replace h3 := h3.later bA
          replace hS := hS.later bA
          replace ks := ks.later bA
          replace kt := kt.later bA
          replace kg := kg.later bA
          replace q6 := q6.later bA
          replace hHeld := (⟨below_cell bA hHeld.1, below_cell bA hHeld.2.1, below_cell bA hHeld.2.2.1, below_cell bA hHeld.2.2.2.1, below_cell bA hHeld.2.2.2.2.1, below_cell bA hHeld.2.2.2.2.2.1, below_cell bA hHeld.2.2.2.2.2.2.1, below_cell bA hHeld.2.2.2.2.2.2.2.1, below_cell bA hHeld.2.2.2.2.2.2.2.2.1, below_cell bA hHeld.2.2.2.2.2.2.2.2.2⟩ : _ ∧ _ ∧ _ ∧ _ ∧ _ ∧ _ ∧ _ ∧ _ ∧ _ ∧ _)
          clear bA
          refine hKK.out _ _ hHeld ?_
          clear hHeld
          intro hHeld
          clear hKK KK
          try simp only [pP, pN, pS, pZ, pC]
          obtain ⟨cq5, hcc⟩ : ∃ cc, w7.heap.size = cc := ⟨_, rfl⟩
          rw [hcc] at q5 hq5ge hq5q6 hq5c0 hq5c1 hq5c2 hq5c3 hq5c4 hq5c5 hq5c6 hq5c7 hq5c8 hq5c9
          try rw [hcc]
          clear hcc
          refine wpAnyH_ready (rs := [15]) (by kernel_rfl) (by simp) ?_
          refine cons' rfl (fun KK hKK => ?_)
          have z0 := q5.cell 0
          have z1 := q5.cell 1
          simp only [List.getElem?_toArray, List.getElem?_cons_zero, List.getElem?_cons_succ] at z0 z1
          have fz := fun o => q5.frozen o
          obtain ⟨c9, q9⟩ := q5.set2s (.bool (ng T)) (.slice pt (ln (am T)) (ln (am T)))
          have hno := q5.no (by simp)
          replace h1 := h1.ch c9 hno
          replace h3 := h3.ch c9 hno
          replace hS := hS.ch c9 hno
          replace ks := ks.ch c9 hno
          replace kt := kt.ch c9 hno
          replace kg := kg.ch c9 hno
          replace q6 := q6.ch c9 (by omega)
          replace bT := bT.trans (c9.below (by omega))
          have hH2 := (⟨(World.cell?_of_block (w := w8) (a := ⟨w.heap.size, 0, none⟩) (c9.other (w.heap.size) (by omega))).trans hHeld.1, (World.cell?_of_block (w := w8) (a := ⟨w.heap.size, 1, none⟩) (c9.other (w.heap.size) (by omega))).trans hHeld.2.1, (World.cell?_of_block (w := w8) (a := ⟨w.heap.size, 2, none⟩) (c9.other (w.heap.size) (by omega))).trans hHeld.2.2.1, (World.cell?_of_block (w := w8) (a := ⟨w.heap.size, 3, none⟩) (c9.other (w.heap.size) (by omega))).trans hHeld.2.2.2.1, (World.cell?_of_block (w := w8) (a := ⟨w.heap.size, 4, none⟩) (c9.other (w.heap.size) (by omega))).trans hHeld.2.2.2.2.1, (World.cell?_of_block (w := w8) (a := ⟨w.heap.size, 5, none⟩) (c9.other (w.heap.size) (by omega))).trans hHeld.2.2.2.2.2.1, (World.cell?_of_block (w := w8) (a := ⟨w.heap.size, 6, none⟩) (c9.other (w.heap.size) (by omega))).trans hHeld.2.2.2.2.2.2.1, (World.cell?_of_block (w := w8) (a := ⟨w.heap.size, 7, none⟩) (c9.other (w.heap.size) (by omega))).trans hHeld.2.2.2.2.2.2.2.1, (World.cell?_of_block (w := w8) (a := ⟨w.heap.size + 1, 0, none⟩) (c9.other (w.heap.size + 1) (by omega))).trans hHeld.2.2.2.2.2.2.2.2.1, (World.cell?_of_block (w := w8) (a := ⟨w.heap.size + 1, 1, none⟩) (c9.other (w.heap.size + 1) (by omega))).trans hHeld.2.2.2.2.2.2.2.2.2⟩ : _ ∧ _ ∧ _ ∧ _ ∧ _ ∧ _ ∧ _ ∧ _ ∧ _ ∧ _)
          go_simp
          clear z0 z1 fz hno c9
          replace q5 := q9
          refine hKK.out _ _ hH2 ?_
          clear hHeld
          intro hHeld
          clear hKK KK
          try simp only [pP, pN, pS, pZ, pC]
          clear hH2
          generalize ((w8.setCell ⟨cq5, 0, none⟩ (.bool (ng T))).setCell ⟨cq5, 1, none⟩ (.slice pt (ln (am T)) (ln (am T)))) = w9 at bT h1 h3 hS ks kt kg q6 q5 hHeld ⊢
          refine wpAnyH_ready (rs := [16]) (by kernel_rfl) (by simp) ?_
          refine cons' rfl (fun KK hKK => ?_)
          have z0 := q6.cell 0
          have z1 := q6.cell 1
          simp only [List.getElem?_toArray, List.getElem?_cons_zero, List.getElem?_cons_succ] at z0 z1
          have fz := fun o => q6.frozen o
          obtain ⟨c9, q9⟩ := q6.set2s (.bool (ng G)) (.slice pg (ln (am G)) (ln (am G)))
          have hno := q6.no (by simp)
          replace h1 := h1.ch c9 hno
          replace h3 := h3.ch c9 hno
          replace hS := hS.ch c9 hno
          replace ks := ks.ch c9 hno
          replace kt := kt.ch c9 hno
          replace kg := kg.ch c9 hno
          replace q5 := q5.ch c9 (by omega)
          replace bT := bT.trans (c9.below (by omega))
          have hH2 := (⟨(World.cell?_of_block (w := w9) (a := ⟨w.heap.size, 0, none⟩) (c9.other (w.heap.size) (by omega))).trans hHeld.1, (World.cell?_of_block (w := w9) (a := ⟨w.heap.size, 1, none⟩) (c9.other (w.heap.size) (by omega))).trans hHeld.2.1, (World.cell?_of_block (w := w9) (a := ⟨w.heap.size, 2, none⟩) (c9.other (w.heap.size) (by omega))).trans hHeld.2.2.1, (World.cell?_of_block (w := w9) (a := ⟨w.heap.size, 3, none⟩) (c9.other (w.heap.size) (by omega))).trans hHeld.2.2.2.1, (World.cell?_of_block (w := w9) (a := ⟨w.heap.size, 4, none⟩) (c9.other (w.heap.size) (by omega))).trans hHeld.2.2.2.2.1, (World.cell?_of_block (w := w9) (a := ⟨w.heap.size, 5, none⟩) (c9.other (w.heap.size) (by omega))).trans hHeld.2.2.2.2.2.1, (World.cell?_of_block (w := w9) (a := ⟨w.heap.size, 6, none⟩) (c9.other (w.heap.size) (by omega))).trans hHeld.2.2.2.2.2.2.1, (World.cell?_of_block (w := w9) (a := ⟨w.heap.size, 7, none⟩) (c9.other (w.heap.size) (by omega))).trans hHeld.2.2.2.2.2.2.2.1, (World.cell?_of_block (w := w9) (a := ⟨w.heap.size + 1, 0, none⟩) (c9.other (w.heap.size + 1) (by omega))).trans hHeld.2.2.2.2.2.2.2.2.1, (World.cell?_of_block (w := w9) (a := ⟨w.heap.size + 1, 1, none⟩) (c9.other (w.heap.size + 1) (by omega))).trans hHeld.2.2.2.2.2.2.2.2.2⟩ : _ ∧ _ ∧ _ ∧ _ ∧ _ ∧ _ ∧ _ ∧ _ ∧ _ ∧ _)
          go_simp
          clear z0 z1 fz hno c9
          replace q6 := q9
          refine hKK.out _ _ hH2 ?_
          clear hHeld
          intro hHeld
          clear hKK KK
          try simp only [pP, pN, pS, pZ, pC]
          clear hH2
          generalize ((w9.setCell ⟨cq6, 0, none⟩ (.bool (ng G))).setCell ⟨cq6, 1, none⟩ (.slice pg (ln (am G)) (ln (am G)))) = w10 at bT h1 h3 hS ks kt kg q6 q5 hHeld ⊢
          refine tk 17 (v := ?_) rfl (Or.inl ⟨by rfl, ?_⟩) ?_
          rotate_left
          · intro w9 hSw
            go_simp
            first | done | with_reducible rfl
          simp only [pP, pN, pS, pZ, pC]
          refine wpAnyH_done (by kernel_rfl) ?_ _
          go_wp2_with fail
          go_meet
          exact ⟨_, cq5, cq6, pt, rfl, rfl, rfl, rfl, q5, kt, hq5ge, bT⟩
        exact AllReadyH.nil
      refine consT rfl (fun KK hKK => ?_) ?_
      · skip
        go_simp
        have q5 := Blk.new w1 #[.bool false, .slice none 0 0] 25
        have bA := below_alloc (w := w1) (.cells #[.bool false, .slice none 0 0] 25)
        have hq5ge := bT.size
        have hq5c0 := cell_ltU hHeld.1
        have hq5c1 := cell_ltU hHeld.2.1
        have hq5c2 := cell_ltU hHeld.2.2.1
        have hq5c3 := cell_ltU hHeld.2.2.2.1
        have hq5c4 := cell_ltU hHeld.2.2.2.2.1
        have hq5c5 := cell_ltU hHeld.2.2.2.2.2.1
        have hq5c6 := cell_ltU hHeld.2.2.2.2.2.2.1
        have hq5c7 := cell_ltU hHeld.2.2.2.2.2.2.2.1
        have hq5c8 := cell_ltU hHeld.2.2.2.2.2.2.2.2.1
        have hq5c9 := cell_ltU hHeld.2.2.2.2.2.2.2.2.2
        generalize w1.alloc (.cells #[.bool false, .slice none 0 0] 25) = w11 at q5 bA ⊢
        replace bT := bT.trans (bA.mono bT.size)
        replace h1 := h1.later bA
        replace h3 := h3.later bA
        replace hS := hS.later bA
        replace ks := ks.later bA
        replace hHeld := (⟨below_cell bA hHeld.1, below_cell bA hHeld.2.1, below_cell bA hHeld.2.2.1, below_cell bA hHeld.2.2.2.1, below_cell bA hHeld.2.2.2.2.1, below_cell bA hHeld.2.2.2.2.2.1, below_cell bA hHeld.2.2.2.2.2.2.1, below_cell bA hHeld.2.2.2.2.2.2.2.1, below_cell bA hHeld.2.2.2.2.2.2.2.2.1, below_cell bA hHeld.2.2.2.2.2.2.2.2.2⟩ : _ ∧ _ ∧ _ ∧ _ ∧ _ ∧ _ ∧ _ ∧ _ ∧ _ ∧ _)
        clear bA
        refine hKK.out _ _ hHeld ?_
        clear hHeld
        intro hHeld
        clear hKK KK
        try simp only [pP, pN, pS, pZ, pC]
        obtain ⟨cq5, hcc⟩ : ∃ cc, w1.heap.size = cc := ⟨_, rfl⟩
        rw [hcc] at q5 hq5ge hq5c0 hq5c1 hq5c2 hq5c3 hq5c4 hq5c5 hq5c6 hq5c7 hq5c8 hq5c9
        try rw [hcc]
        clear hcc
        refine wpAnyH_ready (rs := [8, 14]) (by kernel_rfl) (by simp) ?_
        refine consT rfl (fun KK hKK => ?_) ?_
        · skip
          go_simp
          refine (GF.out _ ps ks h3).mono ?_
          rintro e w12 ⟨pt, pg, rfl, n1, n2⟩
          have bC := n1.below
          replace bT := bT.trans (bC.mono bT.size)
          replace h1 := h1.later bC
          replace h3 := h3.later bC
          replace hS := hS.later bC
          replace ks := ks.later bC
          replace q5 := q5.later bC
          replace hHeld := (⟨below_cell bC hHeld.1, below_cell bC hHeld.2.1, below_cell bC hHeld.2.2.1, below_cell bC hHeld.2.2.2.1, below_cell bC hHeld.2.2.2.2.1, below_cell bC hHeld.2.2.2.2.2.1, below_cell bC hHeld.2.2.2.2.2.2.1, below_cell bC hHeld.2.2.2.2.2.2.2.1, below_cell bC hHeld.2.2.2.2.2.2.2.2.1, below_cell bC hHeld.2.2.2.2.2.2.2.2.2⟩ : _ ∧ _ ∧ _ ∧ _ ∧ _ ∧ _ ∧ _ ∧ _ ∧ _ ∧ _)
          clear bC
          go_wp2_with fail
          have kt := n1.seg
          have kg := n2.seg
          clear n1 n2
          refine hKK.out _ _ hHeld ?_
          clear hHeld
          intro hHeld
          clear hKK KK
          try simp only [pP, pN, pS, pZ, pC]
          refine tk 9 (v := ?_) rfl (Or.inl ⟨by rfl, ?_⟩) ?_
          rotate_left
          · intro w9 hSw
            go_simp
            first | done | with_reducible rfl
          simp only [pP, pN, pS, pZ, pC]
          refine tk 10 (v := ?_) rfl (Or.inl ⟨by rfl, ?_⟩) ?_
          rotate_left
          · intro w9 hSw
            go_simp
            first | done | with_reducible rfl
          simp only [pP, pN, pS, pZ, pC]
          refine tk 11 (v := ?_) rfl (Or.inl ⟨by rfl, ?_⟩) ?_
          rotate_left
          · intro w9 hSw
            go_simp
            first | done | with_reducible rfl
          simp only [pP, pN, pS, pZ, pC]
          refine tk 12 (v := ?_) rfl (Or.inl ⟨by rfl, ?_⟩) ?_
          rotate_left
          · intro w9 hSw
            go_simp
            first | done | with_reducible rfl
          simp only [pP, pN, pS, pZ, pC]
          refine wpAnyH_ready (rs := [14]) (by kernel_rfl) (by simp) ?_
          refine cons' rfl (fun KK hKK => ?_)
          go_simp
          have q6 := Blk.new w12 #[.bool false, .slice none 0 0] 25
          have bA := below_alloc (w := w12) (.cells #[.bool false, .slice none 0 0] 25)
          have hq6ge := bT.size
          have hq6q5 := q5.lt
          have hq6c0 := cell_ltU hHeld.1
          have hq6c1 := cell_ltU hHeld.2.1
          have hq6c2 := cell_ltU hHeld.2.2.1
          have hq6c3 := cell_ltU hHeld.2.2.2.1
          have hq6c4 := cell_ltU hHeld.2.2.2.2.1
          have hq6c5 := cell_ltU hHeld.2.2.2.2.2.1
          have hq6c6 := cell_ltU hHeld.2.2.2.2.2.2.1
          have hq6c7 := cell_ltU hHeld.2.2.2.2.2.2.2.1
          have hq6c8 := cell_ltU hHeld.2.2.2.2.2.2.2.2.1
          have hq6c9 := cell_ltU hHeld.2.2.2.2.2.2.2.2.2
          generalize w12.alloc (.cells #[.bool false, .slice none 0 0] 25) = w13 at q6 bA ⊢
          replace bT := bT.trans (bA.mono bT.size)
          replace h1 := h1.later bA
          replace h3 := h3.later bA
          replace hS := hS.later bA
          replace ks := ks.later bA
          replace q5 := q5.later bA
          replace kt := kt.later bA
          replace kg := kg.later bA
          replace hHeld := (⟨below_cell bA hHeld.1, below_cell bA hHeld.2.1, below_cell bA hHeld.2.2.1, below_cell bA hHeld.2.2.2.1, below_cell bA hHeld.2.2.2.2.1, below_cell bA hHeld.2.2.2.2.2.1, below_cell bA hHeld.2.2.2.2.2.2.1, below_cell bA hHeld.2.2.2.2.2.2.2.1, below_cell bA hHeld.2.2.2.2.2.2.2.2.1, below_cell bA hHeld.2.2.2.2.2.2.2.2.2⟩ : _ ∧ _ ∧ _ ∧ _ ∧ _ ∧ _ ∧ _ ∧ _ ∧ _ ∧ _)
          clear bA
          refine hKK.out _ _ hHeld ?_
          clear hHeld
          intro hHeld
          clear hKK KK
          try simp only [pP, pN, pS, pZ, pC]
          obtain ⟨cq6, hcc⟩ : ∃ cc, w12.heap.size = cc := ⟨_, rfl⟩
          rw [hcc] at q6 hq6ge hq6q5 hq6c0 hq6c1 hq6c2 hq6c3 hq6c4 hq6c5 hq6c6 hq6c7 hq6c8 hq6c9
          try rw [hcc]
          clear hcc
          refine wpAnyH_ready (rs := [15]) (by kernel_rfl) (by simp) ?_
          refine cons' rfl (fun KK hKK => ?_)
          have z0 := q5.cell 0
          have z1 := q5.cell 1
          simp only [List.getElem?_toArray, List.getElem?_cons_zero, List.getElem?_cons_succ] at z0 z1
          have fz := fun o => q5.frozen o
          obtain ⟨c9, q9⟩ := q5.set2s (.bool (ng T)) (.slice pt (ln (am T)) (ln (am T)))
          have hno := q5.no (by simp)
          replace h1 := h1.ch c9 hno
          replace h3 := h3.ch c9 hno
          replace hS := hS.ch c9 hno
          replace ks := ks.ch c9 hno
          replace kt := kt.ch c9 hno
          replace kg := kg.ch c9 hno
          replace q6 := q6.ch c9 (by omega)
          replace bT := bT.trans (c9.below (by omega))
          have hH2 := (⟨(World.cell?_of_block (w := w13) (a := ⟨w.heap.size, 0, none⟩) (c9.other (w.heap.size) (by omega))).trans hHeld.1, (World.cell?_of_block (w := w13) (a := ⟨w.heap.size, 1, none⟩) (c9.other (w.heap.size) (by omega))).trans hHeld.2.1, (World.cell?_of_block (w := w13) (a := ⟨w.heap.size, 2, none⟩) (c9.other (w.heap.size) (by omega))).trans hHeld.2.2.1, (World.cell?_of_block (w := w13) (a := ⟨w.heap.size, 3, none⟩) (c9.other (w.heap.size) (by omega))).trans hHeld.2.2.2.1, (World.cell?_of_block (w := w13) (a := ⟨w.heap.size, 4, none⟩) (c9.other (w.heap.size) (by omega))).trans hHeld.2.2.2.2.1, (World.cell?_of_block (w := w13) (a := ⟨w.heap.size, 5, none⟩) (c9.other (w.heap.size) (by omega))).trans hHeld.2.2.2.2.2.1, (World.cell?_of_block (w := w13) (a := ⟨w.heap.size, 6, none⟩) (c9.other (w.heap.size) (by omega))).trans hHeld.2.2.2.2.2.2.1, (World.cell?_of_block (w := w13) (a := ⟨w.heap.size, 7, none⟩) (c9.other (w.heap.size) (by omega))).trans hHeld.2.2.2.2.2.2.2.1, (World.cell?_of_block (w := w13) (a := ⟨w.heap.size + 1, 0, none⟩) (c9.other (w.heap.size + 1) (by omega))).trans hHeld.2.2.2.2.2.2.2.2.1, (World.cell?_of_block (w := w13) (a := ⟨w.heap.size + 1, 1, none⟩) (c9.other (w.heap.size + 1) (by omega))).trans hHeld.2.2.2.2.2.2.2.2.2⟩ : _ ∧ _ ∧ _ ∧ _ ∧ _ ∧ _ ∧ _ ∧ _ ∧ _ ∧ _)
          go_simp
          clear z0 z1 fz hno c9
          replace q5 := q9
          refine hKK.out _ _ hH2 ?_
          clear hHeld
          intro hHeld
          clear hKK KK
          try simp only [pP, pN, pS, pZ, pC]
          clear hH2
          generalize ((w13.setCell ⟨cq5, 0, none⟩ (.bool (ng T))).setCell ⟨cq5, 1, none⟩ (.slice pt (ln (am T)) (ln (am T)))) = w14 at bT h1 h3 hS ks q5 kt kg q6 hHeld ⊢
          refine wpAnyH_ready (rs := [16]) (by kernel_rfl) (by simp) ?_
          refine cons' rfl (fun KK hKK => ?_)
          have z0 := q6.cell 0
          have z1 := q6.cell 1
          simp only [List.getElem?_toArray, List.getElem?_cons_zero, List.getElem?_cons_succ] at z0 z1
          have fz := fun o => q6.frozen o
          obtain ⟨c9, q9⟩ := q6.set2s (.bool (ng G)) (.slice pg (ln (am G)) (ln (am G)))
          have hno := q6.no (by simp)
          replace h1 := h1.ch c9 hno
          replace h3 := h3.ch c9 hno
          replace hS := hS.ch c9 hno
          replace ks := ks.ch c9 hno
          replace q5 := q5.ch c9 (by omega)
          replace kt := kt.ch c9 hno
          replace kg := kg.ch c9 hno
          replace bT := bT.trans (c9.below (by omega))
          have hH2 := (⟨(World.cell?_of_block (w := w14) (a := ⟨w.heap.size, 0, none⟩) (c9.other (w.heap.size) (by omega))).trans hHeld.1, (World.cell?_of_block (w := w14) (a := ⟨w.heap.size, 1, none⟩) (c9.other (w.heap.size) (by omega))).trans hHeld.2.1, (World.cell?_of_block (w := w14) (a := ⟨w.heap.size, 2, none⟩) (c9.other (w.heap.size) (by omega))).trans hHeld.2.2.1, (World.cell?_of_block (w := w14) (a := ⟨w.heap.size, 3, none⟩) (c9.other (w.heap.size) (by omega))).trans hHeld.2.2.2.1, (World.cell?_of_block (w := w14) (a := ⟨w.heap.size, 4, none⟩) (c9.other (w.heap.size) (by omega))).trans hHeld.2.2.2.2.1, (World.cell?_of_block (w := w14) (a := ⟨w.heap.size, 5, none⟩) (c9.other (w.heap.size) (by omega))).trans hHeld.2.2.2.2.2.1, (World.cell?_of_block (w := w14) (a := ⟨w.heap.size, 6, none⟩) (c9.other (w.heap.size) (by omega))).trans hHeld.2.2.2.2.2.2.1, (World.cell?_of_block (w := w14) (a := ⟨w.heap.size, 7, none⟩) (c9.other (w.heap.size) (by omega))).trans hHeld.2.2.2.2.2.2.2.1, (World.cell?_of_block (w := w14) (a := ⟨w.heap.size + 1, 0, none⟩) (c9.other (w.heap.size + 1) (by omega))).trans hHeld.2.2.2.2.2.2.2.2.1, (World.cell?_of_block (w := w14) (a := ⟨w.heap.size + 1, 1, none⟩) (c9.other (w.heap.size + 1) (by omega))).trans hHeld.2.2.2.2.2.2.2.2.2⟩ : _ ∧ _ ∧ _ ∧ _ ∧ _ ∧ _ ∧ _ ∧ _ ∧ _ ∧ _)
          go_simp
          clear z0 z1 fz hno c9
          replace q6 := q9
          refine hKK.out _ _ hH2 ?_
          clear hHeld
          intro hHeld
          clear hKK KK
          try simp only [pP, pN, pS, pZ, pC]
          clear hH2
          generalize ((w14.setCell ⟨cq6, 0, none⟩ (.bool (ng G))).setCell ⟨cq6, 1, none⟩ (.slice pg (ln (am G)) (ln (am G)))) = w15 at bT h1 h3 hS ks q5 kt kg q6 hHeld ⊢
          refine tk 17 (v := ?_) rfl (Or.inl ⟨by rfl, ?_⟩) ?_
          rotate_left
          · intro w9 hSw
            go_simp
            first | done | with_reducible rfl
          simp only [pP, pN, pS, pZ, pC]
          refine wpAnyH_done (by kernel_rfl) ?_ _
          go_wp2_with fail
          go_meet
          exact ⟨_, cq5, cq6, pt, rfl, rfl, rfl, rfl, q5, kt, hq5ge, bT⟩
        refine consT rfl (fun KK hKK => ?_) ?_
        · skip
          go_simp
          have q6 := Blk.new w11 #[.bool false, .slice none 0 0] 25
          have bA := below_alloc (w := w11) (.cells #[.bool false, .slice none 0 0] 25)
          have hq6ge := bT.size
          have hq6q5 := q5.lt
          have hq6c0 := cell_ltU hHeld.1
          have hq6c1 := cell_ltU hHeld.2.1
          have hq6c2 := cell_ltU hHeld.2.2.1
          have hq6c3 := cell_ltU hHeld.2.2.2.1
          have hq6c4 := cell_ltU hHeld.2.2.2.2.1
          have hq6c5 := cell_ltU hHeld.2.2.2.2.2.1
          have hq6c6 := cell_ltU hHeld.2.2.2.2.2.2.1
          have hq6c7 := cell_ltU hHeld.2.2.2.2.2.2.2.1
          have hq6c8 := cell_ltU hHeld.2.2.2.2.2.2.2.2.1
          have hq6c9 := cell_ltU hHeld.2.2.2.2.2.2.2.2.2
          generalize w11.alloc (.cells #[.bool false, .slice none 0 0] 25) = w16 at q6 bA ⊢
          replace bT := bT.trans (bA.mono bT.size)
          replace h1 := h1.later bA
          replace h3 := h3.later bA
          replace hS := hS.later bA
          replace ks := ks.later bA
          replace q5 := q5.later bA
          replace hHeld := (⟨below_cell bA hHeld.1, below_cell bA hHeld.2.1, below_cell bA hHeld.2.2.1, below_cell bA hHeld.2.2.2.1, below_cell bA hHeld.2.2.2.2.1, below_cell bA hHeld.2.2.2.2.2.1, below_cell bA hHeld.2.2.2.2.2.2.1, below_cell bA hHeld.2.2.2.2.2.2.2.1, below_cell bA hHeld.2.2.2.2.2.2.2.2.1, below_cell bA hHeld.2.2.2.2.2.2.2.2.2⟩ : _ ∧ _ ∧ _ ∧ _ ∧ _ ∧ _ ∧ _ ∧ _ ∧ _ ∧ _)
          clear bA
          refine hKK.out _ _ hHeld ?_
          clear hHeld
          intro hHeld
          clear hKK KK
          try simp only [pP, pN, pS, pZ, pC]
          obtain ⟨cq6, hcc⟩ : ∃ cc, w11.heap.size = cc := ⟨_, rfl⟩
          rw [hcc] at q6 hq6ge hq6q5 hq6c0 hq6c1 hq6c2 hq6c3 hq6c4 hq6c5 hq6c6 hq6c7 hq6c8 hq6c9
          try rw [hcc]
          clear hcc
          refine wpAnyH_ready (rs := [8]) (by kernel_rfl) (by simp) ?_
          refine cons' rfl (fun KK hKK => ?_)
          go_simp
          refine (GF.out _ ps ks h3).mono ?_
          rintro e w17 ⟨pt, pg, rfl, n1, n2⟩
          have bC := n1.below
          replace bT := bT.trans (bC.mono bT.size)
          replace h1 := h1.later bC
          replace h3 := h3.later bC
          replace hS := hS.later bC
          replace ks := ks.later bC
          replace q5 := q5.later bC
          replace q6 := q6.later bC
          replace hHeld := (⟨below_cell bC hHeld.1, below_cell bC hHeld.2.1, below_cell bC hHeld.2.2.1, below_cell bC hHeld.2.2.2.1, below_cell bC hHeld.2.2.2.2.1, below_cell bC hHeld.2.2.2.2.2.1, below_cell bC hHeld.2.2.2.2.2.2.1, below_cell bC hHeld.2.2.2.2.2.2.2.1, below_cell bC hHeld.2.2.2.2.2.2.2.2.1, below_cell bC hHeld.2.2.2.2.2.2.2.2.2⟩ : _ ∧ _ ∧ _ ∧ _ ∧ _ ∧ _ ∧ _ ∧ _ ∧ _ ∧ _)
          clear bC
          go_wp2_with fail
          have kt := n1.seg
          have kg := n2.seg
          clear n1 n2
          refine hKK.out _ _ hHeld ?_
          clear hHeld
          intro hHeld
          clear hKK KK
          try simp only [pP, pN, pS, pZ, pC]
          refine tk 9 (v := ?_) rfl (Or.inl ⟨by rfl, ?_⟩) ?_
          rotate_left
          · intro w9 hSw
            go_simp
            first | done | with_reducible rfl
          simp only [pP, pN, pS, pZ, pC]
          refine tk 10 (v := ?_) rfl (Or.inl ⟨by rfl, ?_⟩) ?_
          rotate_left
          · intro w9 hSw
            go_simp
            first | done | with_reducible rfl
          simp only [pP, pN, pS, pZ, pC]
          refine tk 11 (v := ?_) rfl (Or.inl ⟨by rfl, ?_⟩) ?_
          rotate_left
          · intro w9 hSw
            go_simp
            first | done | with_reducible rfl
          simp only [pP, pN, pS, pZ, pC]
          refine tk 12 (v := ?_) rfl (Or.inl ⟨by rfl, ?_⟩) ?_
          rotate_left
          · intro w9 hSw
            go_simp
            first | done | with_reducible rfl
          simp only [pP, pN, pS, pZ, pC]
          refine wpAnyH_ready (rs := [15]) (by kernel_rfl) (by simp) ?_
          refine cons' rfl (fun KK hKK => ?_)
          have z0 := q5.cell 0
          have z1 := q5.cell 1
          simp only [List.getElem?_toArray, List.getElem?_cons_zero, List.getElem?_cons_succ] at z0 z1
          have fz := fun o => q5.frozen o
          obtain ⟨c9, q9⟩ := q5.set2s (.bool (ng T)) (.slice pt (ln (am T)) (ln (am T)))
          have hno := q5.no (by simp)
          replace h1 := h1.ch c9 hno
          replace h3 := h3.ch c9 hno
          replace hS := hS.ch c9 hno
          replace ks := ks.ch c9 hno
          replace q6 := q6.ch c9 (by omega)
          replace kt := kt.ch c9 hno
          replace kg := kg.ch c9 hno
          replace bT := bT.trans (c9.below (by omega))
          have hH2 := (⟨(World.cell?_of_block (w := w17) (a := ⟨w.heap.size, 0, none⟩) (c9.other (w.heap.size) (by omega))).trans hHeld.1, (World.cell?_of_block (w := w17) (a := ⟨w.heap.size, 1, none⟩) (c9.other (w.heap.size) (by omega))).trans hHeld.2.1, (World.cell?_of_block (w := w17) (a := ⟨w.heap.size, 2, none⟩) (c9.other (w.heap.size) (by omega))).trans hHeld.2.2.1, (World.cell?_of_block (w := w17) (a := ⟨w.heap.size, 3, none⟩) (c9.other (w.heap.size) (by omega))).trans hHeld.2.2.2.1, (World.cell?_of_block (w := w17) (a := ⟨w.heap.size, 4, none⟩) (c9.other (w.heap.size) (by omega))).trans hHeld.2.2.2.2.1, (World.cell?_of_block (w := w17) (a := ⟨w.heap.size, 5, none⟩) (c9.other (w.heap.size) (by omega))).trans hHeld.2.2.2.2.2.1, (World.cell?_of_block (w := w17) (a := ⟨w.heap.size, 6, none⟩) (c9.other (w.heap.size) (by omega))).trans hHeld.2.2.2.2.2.2.1, (World.cell?_of_block (w := w17) (a := ⟨w.heap.size, 7, none⟩) (c9.other (w.heap.size) (by omega))).trans hHeld.2.2.2.2.2.2.2.1, (World.cell?_of_block (w := w17) (a := ⟨w.heap.size + 1, 0, none⟩) (c9.other (w.heap.size + 1) (by omega))).trans hHeld.2.2.2.2.2.2.2.2.1, (World.cell?_of_block (w := w17) (a := ⟨w.heap.size + 1, 1, none⟩) (c9.other (w.heap.size + 1) (by omega))).trans hHeld.2.2.2.2.2.2.2.2.2⟩ : _ ∧ _ ∧ _ ∧ _ ∧ _ ∧ _ ∧ _ ∧ _ ∧ _ ∧ _)
          go_simp
          clear z0 z1 fz hno c9
          replace q5 := q9
          refine hKK.out _ _ hH2 ?_
          clear hHeld
          intro hHeld
          clear hKK KK
          try simp only [pP, pN, pS, pZ, pC]
          clear hH2
          generalize ((w17.setCell ⟨cq5, 0, none⟩ (.bool (ng T))).setCell ⟨cq5, 1, none⟩ (.slice pt (ln (am T)) (ln (am T)))) = w18 at bT h1 h3 hS ks q5 q6 kt kg hHeld ⊢
          refine wpAnyH_ready (rs := [16]) (by kernel_rfl) (by simp) ?_
          refine cons' rfl (fun KK hKK => ?_)
          have z0 := q6.cell 0
          have z1 := q6.cell 1
          simp only [List.getElem?_toArray, List.getElem?_cons_zero, List.getElem?_cons_succ] at z0 z1
          have fz := fun o => q6.frozen o
          obtain ⟨c9, q9⟩ := q6.set2s (.bool (ng G)) (.slice pg (ln (am G)) (ln (am G)))
          have hno := q6.no (by simp)
          replace h1 := h1.ch c9 hno
          replace h3 := h3.ch c9 hno
          replace hS := hS.ch c9 hno
          replace ks := ks.ch c9 hno
          replace q5 := q5.ch c9 (by omega)
          replace kt := kt.ch c9 hno
          replace kg := kg.ch c9 hno
          replace bT := bT.trans (c9.below (by omega))
          have hH2 := (⟨(World.cell?_of_block (w := w18) (a := ⟨w.heap.size, 0, none⟩) (c9.other (w.heap.size) (by omega))).trans hHeld.1, (World.cell?_of_block (w := w18) (a := ⟨w.heap.size, 1, none⟩) (c9.other (w.heap.size) (by omega))).trans hHeld.2.1, (World.cell?_of_block (w := w18) (a := ⟨w.heap.size, 2, none⟩) (c9.other (w.heap.size) (by omega))).trans hHeld.2.2.1, (World.cell?_of_block (w := w18) (a := ⟨w.heap.size, 3, none⟩) (c9.other (w.heap.size) (by omega))).trans hHeld.2.2.2.1, (World.cell?_of_block (w := w18) (a := ⟨w.heap.size, 4, none⟩) (c9.other (w.heap.size) (by omega))).trans hHeld.2.2.2.2.1, (World.cell?_of_block (w := w18) (a := ⟨w.heap.size, 5, none⟩) (c9.other (w.heap.size) (by omega))).trans hHeld.2.2.2.2.2.1, (World.cell?_of_block (w := w18) (a := ⟨w.heap.size, 6, none⟩) (c9.other (w.heap.size) (by omega))).trans hHeld.2.2.2.2.2.2.1, (World.cell?_of_block (w := w18) (a := ⟨w.heap.size, 7, none⟩) (c9.other (w.heap.size) (by omega))).trans hHeld.2.2.2.2.2.2.2.1, (World.cell?_of_block (w := w18) (a := ⟨w.heap.size + 1, 0, none⟩) (c9.other (w.heap.size + 1) (by omega))).trans hHeld.2.2.2.2.2.2.2.2.1, (World.cell?_of_block (w := w18) (a := ⟨w.heap.size + 1, 1, none⟩) (c9.other (w.heap.size + 1) (by omega))).trans hHeld.2.2.2.2.2.2.2.2.2⟩ : _ ∧ _ ∧ _ ∧ _ ∧ _ ∧ _ ∧ _ ∧ _ ∧ _ ∧ _)
          go_simp
          clear z0 z1 fz hno c9
          replace q6 := q9
          refine hKK.out _ _ hH2 ?_
          clear hHeld
          intro hHeld
          clear hKK KK
          try simp only [pP, pN, pS, pZ, pC]
          clear hH2
          generalize ((w18.setCell ⟨cq6, 0, none⟩ (.bool (ng G))).setCell ⟨cq6, 1, none⟩ (.slice pg (ln (am G)) (ln (am G)))) = w19 at bT h1 h3 hS ks q5 q6 kt kg hHeld ⊢
          refine tk 17 (v := ?_) rfl (Or.inl ⟨by rfl, ?_⟩) ?_
          rotate_left
          · intro w9 hSw
            go_simp
            first | done | with_reducible rfl
          simp only [pP, pN, pS, pZ, pC]
          refine wpAnyH_done (by kernel_rfl) ?_ _
          go_wp2_with fail
          go_meet
          exact ⟨_, cq5, cq6, pt, rfl, rfl, rfl, rfl, q5, kt, hq5ge, bT⟩
        exact AllReadyH.nil
      refine consT rfl (fun KK hKK => ?_) ?_
      · skip
        go_simp
        have q6 := Blk.new w1 #[.bool false, .slice none 0 0] 25
        have bA := below_alloc (w := w1) (.cells #[.bool false, .slice none 0 0] 25)
        have hq6ge := bT.size
        have hq6c0 := cell_ltU hHeld.1
        have hq6c1 := cell_ltU hHeld.2.1
        have hq6c2 := cell_ltU hHeld.2.2.1
        have hq6c3 := cell_ltU hHeld.2.2.2.1
        have hq6c4 := cell_ltU hHeld.2.2.2.2.1
        have hq6c5 := cell_ltU hHeld.2.2.2.2.2.1
        have hq6c6 := cell_ltU hHeld.2.2.2.2.2.2.1
        have hq6c7 := cell_ltU hHeld.2.2.2.2.2.2.2.1
        have hq6c8 := cell_ltU hHeld.2.2.2.2.2.2.2.2.1
        have hq6c9 := cell_ltU hHeld.2.2.2.2.2.2.2.2.2
        generalize w1.alloc (.cells #[.bool false, .slice none 0 0] 25) = w20 at q6 bA ⊢
        replace bT := bT.trans (bA.mono bT.size)
        replace h1 := h1.later bA
        replace h3 := h3.later bA
        replace hS := hS.later bA
        replace ks := ks.later bA
        replace hHeld := (⟨below_cell bA hHeld.1, below_cell bA hHeld.2.1, below_cell bA hHeld.2.2.1, below_cell bA hHeld.2.2.2.1, below_cell bA hHeld.2.2.2.2.1, below_cell bA hHeld.2.2.2.2.2.1, below_cell bA hHeld.2.2.2.2.2.2.1, below_cell bA hHeld.2.2.2.2.2.2.2.1, below_cell bA hHeld.2.2.2.2.2.2.2.2.1, below_cell bA hHeld.2.2.2.2.2.2.2.2.2⟩ : _ ∧ _ ∧ _ ∧ _ ∧ _ ∧ _ ∧ _ ∧ _ ∧ _ ∧ _)
        clear bA
        refine hKK.out _ _ hHeld ?_
        clear hHeld
        intro hHeld
        clear hKK KK
        try simp only [pP, pN, pS, pZ, pC]
        obtain ⟨cq6, hcc⟩ : ∃ cc, w1.heap.size = cc := ⟨_, rfl⟩
        rw [hcc] at q6 hq6ge hq6c0 hq6c1 hq6c2 hq6c3 hq6c4 hq6c5 hq6c6 hq6c7 hq6c8 hq6c9
        try rw [hcc]
        clear hcc
        refine wpAnyH_ready (rs := [8, 13]) (by kernel_rfl) (by simp) ?_
        refine consT rfl (fun KK hKK => ?_) ?_
        · skip
          go_simp
          refine (GF.out _ ps ks h3).mono ?_
          rintro e w21 ⟨pt, pg, rfl, n1, n2⟩
          have bC := n1.below
          replace bT := bT.trans (bC.mono bT.size)
          replace h1 := h1.later bC
          replace h3 := h3.later bC
          replace hS := hS.later bC
          replace ks := ks.later bC
          replace q6 := q6.later bC
          replace hHeld := (⟨below_cell bC hHeld.1, below_cell bC hHeld.2.1, below_cell bC hHeld.2.2.1, below_cell bC hHeld.2.2.2.1, below_cell bC hHeld.2.2.2.2.1, below_cell bC hHeld.2.2.2.2.2.1, below_cell bC hHeld.2.2.2.2.2.2.1, below_cell bC hHeld.2.2.2.2.2.2.2.1, below_cell bC hHeld.2.2.2.2.2.2.2.2.1, below_cell bC hHeld.2.2.2.2.2.2.2.2.2⟩ : _ ∧ _ ∧ _ ∧ _ ∧ _ ∧ _ ∧ _ ∧ _ ∧ _ ∧ _)
          clear bC
          go_wp2_with fail
          have kt := n1.seg
          have kg := n2.seg
          clear n1 n2
          refine hKK.out _ _ hHeld ?_
          clear hHeld
          intro hHeld
          clear hKK KK
          try simp only [pP, pN, pS, pZ, pC]
          refine tk 9 (v := ?_) rfl (Or.inl ⟨by rfl, ?_⟩) ?_
          rotate_left
          · intro w9 hSw
            go_simp
            first | done | with_reducible rfl
          simp only [pP, pN, pS, pZ, pC]
          refine tk 10 (v := ?_) rfl (Or.inl ⟨by rfl, ?_⟩) ?_
          rotate_left
          · intro w9 hSw
            go_simp
            first | done | with_reducible rfl
          simp only [pP, pN, pS, pZ, pC]
          refine tk 11 (v := ?_) rfl (Or.inl ⟨by rfl, ?_⟩) ?_
          rotate_left
          · intro w9 hSw
            go_simp
            first | done | with_reducible rfl
          simp only [pP, pN, pS, pZ, pC]
          refine tk 12 (v := ?_) rfl (Or.inl ⟨by rfl, ?_⟩) ?_
          rotate_left
          · intro w9 hSw
            go_simp
            first | done | with_reducible rfl
          simp only [pP, pN, pS, pZ, pC]
          refine wpAnyH_ready (rs := [13]) (by kernel_rfl) (by simp) ?_
          refine cons' rfl (fun KK hKK => ?_)
          go_simp
          have q5 := Blk.new w21 #[.bool false, .slice none 0 0] 25
          have bA := below_alloc (w := w21) (.cells #[.bool false, .slice none 0 0] 25)
          have hq5ge := bT.size
          have hq5q6 := q6.lt
          have hq5c0 := cell_ltU hHeld.1
          have hq5c1 := cell_ltU hHeld.2.1
          have hq5c2 := cell_ltU hHeld.2.2.1
          have hq5c3 := cell_ltU hHeld.2.2.2.1
          have hq5c4 := cell_ltU hHeld.2.2.2.2.1
          have hq5c5 := cell_ltU hHeld.2.2.2.2.2.1
          have hq5c6 := cell_ltU hHeld.2.2.2.2.2.2.1
          have hq5c7 := cell_ltU hHeld.2.2.2.2.2.2.2.1
          have hq5c8 := cell_ltU hHeld.2.2.2.2.2.2.2.2.1
          have hq5c9 := cell_ltU hHeld.2.2.2.2.2.2.2.2.2
          generalize w21.alloc (.cells #[.bool false, .slice none 0 0] 25) = w22 at q5 bA ⊢
          replace bT := bT.trans (bA.mono bT.size)
          replace h1 := h1.later bA
          replace h3 := h3.later bA
          replace hS := hS.later bA
          replace ks := ks.later bA
          replace q6 := q6.later bA
          replace kt := kt.later bA
          replace kg := kg.later bA
          replace hHeld := (⟨below_cell bA hHeld.1, below_cell bA hHeld.2.1, below_cell bA hHeld.2.2.1, below_cell bA hHeld.2.2.2.1, below_cell bA hHeld.2.2.2.2.1, below_cell bA hHeld.2.2.2.2.2.1, below_cell bA hHeld.2.2.2.2.2.2.1, below_cell bA hHeld.2.2.2.2.2.2.2.1, below_cell bA hHeld.2.2.2.2.2.2.2.2.1, below_cell bA hHeld.2.2.2.2.2.2.2.2.2⟩ : _ ∧ _ ∧ _ ∧ _ ∧ _ ∧ _ ∧ _ ∧ _ ∧ _ ∧ _)
          clear bA
          refine hKK.out _ _ hHeld ?_
          clear hHeld
          intro hHeld
          clear hKK KK
          try simp only [pP, pN, pS, pZ, pC]
          obtain ⟨cq5, hcc⟩ : ∃ cc, w21.heap.size = cc := ⟨_, rfl⟩
          rw [hcc] at q5 hq5ge hq5q6 hq5c0 hq5c1 hq5c2 hq5c3 hq5c4 hq5c5 hq5c6 hq5c7 hq5c8 hq5c9
          try rw [hcc]
          clear hcc
          refine wpAnyH_ready (rs := [15]) (by kernel_rfl) (by simp) ?_
          refine cons' rfl (fun KK hKK => ?_)
          have z0 := q5.cell 0
          have z1 := q5.cell 1
          simp only [List.getElem?_toArray, List.getElem?_cons_zero, List.getElem?_cons_succ] at z0 z1
          have fz := fun o => q5.frozen o
          obtain ⟨c9, q9⟩ := q5.set2s (.bool (ng T)) (.slice pt (ln (am T)) (ln (am T)))
          have hno := q5.no (by simp)
          replace h1 := h1.ch c9 hno
          replace h3 := h3.ch c9 hno
          replace hS := hS.ch c9 hno
          replace ks := ks.ch c9 hno
          replace q6 := q6.ch c9 (by omega)
          replace kt := kt.ch c9 hno
          replace kg := kg.ch c9 hno
          replace bT := bT.trans (c9.below (by omega))
          have hH2 := (⟨(World.cell?_of_block (w := w22) (a := ⟨w.heap.size, 0, none⟩) (c9.other (w.heap.size) (by omega))).trans hHeld.1, (World.cell?_of_block (w := w22) (a := ⟨w.heap.size, 1, none⟩) (c9.other (w.heap.size) (by omega))).trans hHeld.2.1, (World.cell?_of_block (w := w22) (a := ⟨w.heap.size, 2, none⟩) (c9.other (w.heap.size) (by omega))).trans hHeld.2.2.1, (World.cell?_of_block (w := w22) (a := ⟨w.heap.size, 3, none⟩) (c9.other (w.heap.size) (by omega))).trans hHeld.2.2.2.1, (World.cell?_of_block (w := w22) (a := ⟨w.heap.size, 4, none⟩) (c9.other (w.heap.size) (by omega))).trans hHeld.2.2.2.2.1, (World.cell?_of_block (w := w22) (a := ⟨w.heap.size, 5, none⟩) (c9.other (w.heap.size) (by omega))).trans hHeld.2.2.2.2.2.1, (World.cell?_of_block (w := w22) (a := ⟨w.heap.size, 6, none⟩) (c9.other (w.heap.size) (by omega))).trans hHeld.2.2.2.2.2.2.1, (World.cell?_of_block (w := w22) (a := ⟨w.heap.size, 7, none⟩) (c9.other (w.heap.size) (by omega))).trans hHeld.2.2.2.2.2.2.2.1, (World.cell?_of_block (w := w22) (a := ⟨w.heap.size + 1, 0, none⟩) (c9.other (w.heap.size + 1) (by omega))).trans hHeld.2.2.2.2.2.2.2.2.1, (World.cell?_of_block (w := w22) (a := ⟨w.heap.size + 1, 1, none⟩) (c9.other (w.heap.size + 1) (by omega))).trans hHeld.2.2.2.2.2.2.2.2.2⟩ : _ ∧ _ ∧ _ ∧ _ ∧ _ ∧ _ ∧ _ ∧ _ ∧ _ ∧ _)
          go_simp
          clear z0 z1 fz hno c9
          replace q5 := q9
          refine hKK.out _ _ hH2 ?_
          clear hHeld
          intro hHeld
          clear hKK KK
          try simp only [pP, pN, pS, pZ, pC]
          clear hH2
          generalize ((w22.setCell ⟨cq5, 0, none⟩ (.bool (ng T))).setCell ⟨cq5, 1, none⟩ (.slice pt (ln (am T)) (ln (am T)))) = w23 at bT h1 h3 hS ks q6 kt kg q5 hHeld ⊢
          refine wpAnyH_ready (rs := [16]) (by kernel_rfl) (by simp) ?_
          refine cons' rfl (fun KK hKK => ?_)
          have z0 := q6.cell 0
          have z1 := q6.cell 1
          simp only [List.getElem?_toArray, List.getElem?_cons_zero, List.getElem?_cons_succ] at z0 z1
          have fz := fun o => q6.frozen o
          obtain ⟨c9, q9⟩ := q6.set2s (.bool (ng G)) (.slice pg (ln (am G)) (ln (am G)))
          have hno := q6.no (by simp)
          replace h1 := h1.ch c9 hno
          replace h3 := h3.ch c9 hno
          replace hS := hS.ch c9 hno
          replace ks := ks.ch c9 hno
          replace kt := kt.ch c9 hno
          replace kg := kg.ch c9 hno
          replace q5 := q5.ch c9 (by omega)
          replace bT := bT.trans (c9.below (by omega))
          have hH2 := (⟨(World.cell?_of_block (w := w23) (a := ⟨w.heap.size, 0, none⟩) (c9.other (w.heap.size) (by omega))).trans hHeld.1, (World.cell?_of_block (w := w23) (a := ⟨w.heap.size, 1, none⟩) (c9.other (w.heap.size) (by omega))).trans hHeld.2.1, (World.cell?_of_block (w := w23) (a := ⟨w.heap.size, 2, none⟩) (c9.other (w.heap.size) (by omega))).trans hHeld.2.2.1, (World.cell?_of_block (w := w23) (a := ⟨w.heap.size, 3, none⟩) (c9.other (w.heap.size) (by omega))).trans hHeld.2.2.2.1, (World.cell?_of_block (w := w23) (a := ⟨w.heap.size, 4, none⟩) (c9.other (w.heap.size) (by omega))).trans hHeld.2.2.2.2.1, (World.cell?_of_block (w := w23) (a := ⟨w.heap.size, 5, none⟩) (c9.other (w.heap.size) (by omega))).trans hHeld.2.2.2.2.2.1, (World.cell?_of_block (w := w23) (a := ⟨w.heap.size, 6, none⟩) (c9.other (w.heap.size) (by omega))).trans hHeld.2.2.2.2.2.2.1, (World.cell?_of_block (w := w23) (a := ⟨w.heap.size, 7, none⟩) (c9.other (w.heap.size) (by omega))).trans hHeld.2.2.2.2.2.2.2.1, (World.cell?_of_block (w := w23) (a := ⟨w.heap.size + 1, 0, none⟩) (c9.other (w.heap.size + 1) (by omega))).trans hHeld.2.2.2.2.2.2.2.2.1, (World.cell?_of_block (w := w23) (a := ⟨w.heap.size + 1, 1, none⟩) (c9.other (w.heap.size + 1) (by omega))).trans hHeld.2.2.2.2.2.2.2.2.2⟩ : _ ∧ _ ∧ _ ∧ _ ∧ _ ∧ _ ∧ _ ∧ _ ∧ _ ∧ _)
          go_simp
          clear z0 z1 fz hno c9
          replace q6 := q9
          refine hKK.out _ _ hH2 ?_
          clear hHeld
          intro hHeld
          clear hKK KK
          try simp only [pP, pN, pS, pZ, pC]
          clear hH2
          generalize ((w23.setCell ⟨cq6, 0, none⟩ (.bool (ng G))).setCell ⟨cq6, 1, none⟩ (.slice pg (ln (am G)) (ln (am G)))) = w24 at bT h1 h3 hS ks q6 kt kg q5 hHeld ⊢
          refine tk 17 (v := ?_) rfl (Or.inl ⟨by rfl, ?_⟩) ?_
          rotate_left
          · intro w9 hSw
            go_simp
            first | done | with_reducible rfl
          simp only [pP, pN, pS, pZ, pC]
          refine wpAnyH_done (by kernel_rfl) ?_ _
          go_wp2_with fail
          go_meet
          exact ⟨_, cq5, cq6, pt, rfl, rfl, rfl, rfl, q5, kt, hq5ge, bT⟩
        refine consT rfl (fun KK hKK => ?_) ?_
        · skip
          go_simp
          have q5 := Blk.new w20 #[.bool false, .slice none 0 0] 25
          have bA := below_alloc (w := w20) (.cells #[.bool false, .slice none 0 0] 25)
          have hq5ge := bT.size
          have hq5q6 := q6.lt
          have hq5c0 := cell_ltU hHeld.1
          have hq5c1 := cell_ltU hHeld.2.1
          have hq5c2 := cell_ltU hHeld.2.2.1
          have hq5c3 := cell_ltU hHeld.2.2.2.1
          have hq5c4 := cell_ltU hHeld.2.2.2.2.1
          have hq5c5 := cell_ltU hHeld.2.2.2.2.2.1
          have hq5c6 := cell_ltU hHeld.2.2.2.2.2.2.1
          have hq5c7 := cell_ltU hHeld.2.2.2.2.2.2.2.1
          have hq5c8 := cell_ltU hHeld.2.2.2.2.2.2.2.2.1
          have hq5c9 := cell_ltU hHeld.2.2.2.2.2.2.2.2.2
          generalize w20.alloc (.cells #[.bool false, .slice none 0 0] 25) = w25 at q5 bA ⊢
          replace bT := bT.trans (bA.mono bT.size)
          replace h1 := h1.later bA
          replace h3 := h3.later bA
          replace hS := hS.later bA
          replace ks := ks.later bA
          replace q6 := q6.later bA
          replace hHeld := (⟨below_cell bA hHeld.1, below_cell bA hHeld.2.1, below_cell bA hHeld.2.2.1, below_cell bA hHeld.2.2.2.1, below_cell bA hHeld.2.2.2.2.1, below_cell bA hHeld.2.2.2.2.2.1, below_cell bA hHeld.2.2.2.2.2.2.1, below_cell bA hHeld.2.2.2.2.2.2.2.1, below_cell bA hHeld.2.2.2.2.2.2.2.2.1, below_cell bA hHeld.2.2.2.2.2.2.2.2.2⟩ : _ ∧ _ ∧ _ ∧ _ ∧ _ ∧ _ ∧ _ ∧ _ ∧ _ ∧ _)
          clear bA
          refine hKK.out _ _ hHeld ?_
          clear hHeld
          intro hHeld
          clear hKK KK
          try simp only [pP, pN, pS, pZ, pC]
          obtain ⟨cq5, hcc⟩ : ∃ cc, w20.heap.size = cc := ⟨_, rfl⟩
          rw [hcc] at q5 hq5ge hq5q6 hq5c0 hq5c1 hq5c2 hq5c3 hq5c4 hq5c5 hq5c6 hq5c7 hq5c8 hq5c9
          try rw [hcc]
          clear hcc
          refine wpAnyH_ready (rs := [8]) (by kernel_rfl) (by simp) ?_
          refine cons' rfl (fun KK hKK => ?_)
          go_simp
          refine (GF.out _ ps ks h3).mono ?_
          rintro e w26 ⟨pt, pg, rfl, n1, n2⟩
          have bC := n1.below
          replace bT := bT.trans (bC.mono bT.size)
          replace h1 := h1.later bC
          replace h3 := h3.later bC
          replace hS := hS.later bC
          replace ks := ks.later bC
          replace q6 := q6.later bC
          replace q5 := q5.later bC
          replace hHeld := (⟨below_cell bC hHeld.1, below_cell bC hHeld.2.1, below_cell bC hHeld.2.2.1, below_cell bC hHeld.2.2.2.1, below_cell bC hHeld.2.2.2.2.1, below_cell bC hHeld.2.2.2.2.2.1, below_cell bC hHeld.2.2.2.2.2.2.1, below_cell bC hHeld.2.2.2.2.2.2.2.1, below_cell bC hHeld.2.2.2.2.2.2.2.2.1, below_cell bC hHeld.2.2.2.2.2.2.2.2.2⟩ : _ ∧ _ ∧ _ ∧ _ ∧ _ ∧ _ ∧ _ ∧ _ ∧ _ ∧ _)
          clear bC
          go_wp2_with fail
          have kt := n1.seg
          have kg := n2.seg
          clear n1 n2
          refine hKK.out _ _ hHeld ?_
          clear hHeld
          intro hHeld
          clear hKK KK
          try simp only [pP, pN, pS, pZ, pC]
          refine tk 9 (v := ?_) rfl (Or.inl ⟨by rfl, ?_⟩) ?_
          rotate_left
          · intro w9 hSw
            go_simp
            first | done | with_reducible rfl
          simp only [pP, pN, pS, pZ, pC]
          refine tk 10 (v := ?_) rfl (Or.inl ⟨by rfl, ?_⟩) ?_
          rotate_left
          · intro w9 hSw
            go_simp
            first | done | with_reducible rfl
          simp only [pP, pN, pS, pZ, pC]
          refine tk 11 (v := ?_) rfl (Or.inl ⟨by rfl, ?_⟩) ?_
          rotate_left
          · intro w9 hSw
            go_simp
            first | done | with_reducible rfl
          simp only [pP, pN, pS, pZ, pC]
          refine tk 12 (v := ?_) rfl (Or.inl ⟨by rfl, ?_⟩) ?_
          rotate_left
          · intro w9 hSw
            go_simp
            first | done | with_reducible rfl
          simp only [pP, pN, pS, pZ, pC]
          refine wpAnyH_ready (rs := [15]) (by kernel_rfl) (by simp) ?_
          refine cons' rfl (fun KK hKK => ?_)
          have z0 := q5.cell 0
          have z1 := q5.cell 1
          simp only [List.getElem?_toArray, List.getElem?_cons_zero, List.getElem?_cons_succ] at z0 z1
          have fz := fun o => q5.frozen o
          obtain ⟨c9, q9⟩ := q5.set2s (.bool (ng T)) (.slice pt (ln (am T)) (ln (am T)))
          have hno := q5.no (by simp)
          replace h1 := h1.ch c9 hno
          replace h3 := h3.ch c9 hno
          replace hS := hS.ch c9 hno
          replace ks := ks.ch c9 hno
          replace q6 := q6.ch c9 (by omega)
          replace kt := kt.ch c9 hno
          replace kg := kg.ch c9 hno
          replace bT := bT.trans (c9.below (by omega))
          have hH2 := (⟨(World.cell?_of_block (w := w26) (a := ⟨w.heap.size, 0, none⟩) (c9.other (w.heap.size) (by omega))).trans hHeld.1, (World.cell?_of_block (w := w26) (a := ⟨w.heap.size, 1, none⟩) (c9.other (w.heap.size) (by omega))).trans hHeld.2.1, (World.cell?_of_block (w := w26) (a := ⟨w.heap.size, 2, none⟩) (c9.other (w.heap.size) (by omega))).trans hHeld.2.2.1, (World.cell?_of_block (w := w26) (a := ⟨w.heap.size, 3, none⟩) (c9.other (w.heap.size) (by omega))).trans hHeld.2.2.2.1, (World.cell?_of_block (w := w26) (a := ⟨w.heap.size, 4, none⟩) (c9.other (w.heap.size) (by omega))).trans hHeld.2.2.2.2.1, (World.cell?_of_block (w := w26) (a := ⟨w.heap.size, 5, none⟩) (c9.other (w.heap.size) (by omega))).trans hHeld.2.2.2.2.2.1, (World.cell?_of_block (w := w26) (a := ⟨w.heap.size, 6, none⟩) (c9.other (w.heap.size) (by omega))).trans hHeld.2.2.2.2.2.2.1, (World.cell?_of_block (w := w26) (a := ⟨w.heap.size, 7, none⟩) (c9.other (w.heap.size) (by omega))).trans hHeld.2.2.2.2.2.2.2.1, (World.cell?_of_block (w := w26) (a := ⟨w.heap.size + 1, 0, none⟩) (c9.other (w.heap.size + 1) (by omega))).trans hHeld.2.2.2.2.2.2.2.2.1, (World.cell?_of_block (w := w26) (a := ⟨w.heap.size + 1, 1, none⟩) (c9.other (w.heap.size + 1) (by omega))).trans hHeld.2.2.2.2.2.2.2.2.2⟩ : _ ∧ _ ∧ _ ∧ _ ∧ _ ∧ _ ∧ _ ∧ _ ∧ _ ∧ _)
          go_simp
          clear z0 z1 fz hno c9
          replace q5 := q9
          refine hKK.out _ _ hH2 ?_
          clear hHeld
          intro hHeld
          clear hKK KK
          try simp only [pP, pN, pS, pZ, pC]
          clear hH2
          generalize ((w26.setCell ⟨cq5, 0, none⟩ (.bool (ng T))).setCell ⟨cq5, 1, none⟩ (.slice pt (ln (am T)) (ln (am T)))) = w27 at bT h1 h3 hS ks q6 q5 kt kg hHeld ⊢
          refine wpAnyH_ready (rs := [16]) (by kernel_rfl) (by simp) ?_
          refine cons' rfl (fun KK hKK => ?_)
          have z0 := q6.cell 0
          have z1 := q6.cell 1
          simp only [List.getElem?_toArray, List.getElem?_cons_zero, List.getElem?_cons_succ] at z0 z1
          have fz := fun o => q6.frozen o
          obtain ⟨c9, q9⟩ := q6.set2s (.bool (ng G)) (.slice pg (ln (am G)) (ln (am G)))
          have hno := q6.no (by simp)
          replace h1 := h1.ch c9 hno
          replace h3 := h3.ch c9 hno
          replace hS := hS.ch c9 hno
          replace ks := ks.ch c9 hno
          replace q5 := q5.ch c9 (by omega)
          replace kt := kt.ch c9 hno
          replace kg := kg.ch c9 hno
          replace bT := bT.trans (c9.below (by omega))
          have hH2 := (⟨(World.cell?_of_block (w := w27) (a := ⟨w.heap.size, 0, none⟩) (c9.other (w.heap.size) (by omega))).trans hHeld.1, (World.cell?_of_block (w := w27) (a := ⟨w.heap.size, 1, none⟩) (c9.other (w.heap.size) (by omega))).trans hHeld.2.1, (World.cell?_of_block (w := w27) (a := ⟨w.heap.size, 2, none⟩) (c9.other (w.heap.size) (by omega))).trans hHeld.2.2.1, (World.cell?_of_block (w := w27) (a := ⟨w.heap.size, 3, none⟩) (c9.other (w.heap.size) (by omega))).trans hHeld.2.2.2.1, (World.cell?_of_block (w := w27) (a := ⟨w.heap.size, 4, none⟩) (c9.other (w.heap.size) (by omega))).trans hHeld.2.2.2.2.1, (World.cell?_of_block (w := w27) (a := ⟨w.heap.size, 5, none⟩) (c9.other (w.heap.size) (by omega))).trans hHeld.2.2.2.2.2.1, (World.cell?_of_block (w := w27) (a := ⟨w.heap.size, 6, none⟩) (c9.other (w.heap.size) (by omega))).trans hHeld.2.2.2.2.2.2.1, (World.cell?_of_block (w := w27) (a := ⟨w.heap.size, 7, none⟩) (c9.other (w.heap.size) (by omega))).trans hHeld.2.2.2.2.2.2.2.1, (World.cell?_of_block (w := w27) (a := ⟨w.heap.size + 1, 0, none⟩) (c9.other (w.heap.size + 1) (by omega))).trans hHeld.2.2.2.2.2.2.2.2.1, (World.cell?_of_block (w := w27) (a := ⟨w.heap.size + 1, 1, none⟩) (c9.other (w.heap.size + 1) (by omega))).trans hHeld.2.2.2.2.2.2.2.2.2⟩ : _ ∧ _ ∧ _ ∧ _ ∧ _ ∧ _ ∧ _ ∧ _ ∧ _ ∧ _)
          go_simp
          clear z0 z1 fz hno c9
          replace q6 := q9
          refine hKK.out _ _ hH2 ?_
          clear hHeld
          intro hHeld
          clear hKK KK
          try simp only [pP, pN, pS, pZ, pC]
          clear hH2
          generalize ((w27.setCell ⟨cq6, 0, none⟩ (.bool (ng G))).setCell ⟨cq6, 1, none⟩ (.slice pg (ln (am G)) (ln (am G)))) = w28 at bT h1 h3 hS ks q6 q5 kt kg hHeld ⊢
          refine tk 17 (v := ?_) rfl (Or.inl ⟨by rfl, ?_⟩) ?_
          rotate_left
          · intro w9 hSw
            go_simp
            first | done | with_reducible rfl
          simp only [pP, pN, pS, pZ, pC]
          refine wpAnyH_done (by kernel_rfl) ?_ _
          go_wp2_with fail
          go_meet
          exact ⟨_, cq5, cq6, pt, rfl, rfl, rfl, rfl, q5, kt, hq5ge, bT⟩
        exact AllReadyH.nil
      exact AllReadyH.nil
    refine consT rfl (fun KK hKK => ?_) ?_
    · skip
      go_simp
      have q5 := Blk.new w0F #[.bool false, .slice none 0 0] 25
      have bA := below_alloc (w := w0F) (.cells #[.bool false, .slice none 0 0] 25)
      have hq5ge := bT.size
      have hq5c0 := cell_ltU hHeld.1
      have hq5c1 := cell_ltU hHeld.2.1
      have hq5c2 := cell_ltU hHeld.2.2.1
      have hq5c3 := cell_ltU hHeld.2.2.2.1
      have hq5c4 := cell_ltU hHeld.2.2.2.2.1
      have hq5c5 := cell_ltU hHeld.2.2.2.2.2.1
      have hq5c6 := cell_ltU hHeld.2.2.2.2.2.2.1
      have hq5c7 := cell_ltU hHeld.2.2.2.2.2.2.2.1
      have hq5c8 := cell_ltU hHeld.2.2.2.2.2.2.2.2.1
      have hq5c9 := cell_ltU hHeld.2.2.2.2.2.2.2.2.2
      generalize w0F.alloc (.cells #[.bool false, .slice none 0 0] 25) = w29 at q5 bA ⊢
      replace bT := bT.trans (bA.mono bT.size)
      replace h1 := h1.later bA
      replace h3 := h3.later bA
      replace hS := hS.later bA
      replace hHeld := (⟨below_cell bA hHeld.1, below_cell bA hHeld.2.1, below_cell bA hHeld.2.2.1, below_cell bA hHeld.2.2.2.1, below_cell bA hHeld.2.2.2.2.1, below_cell bA hHeld.2.2.2.2.2.1, below_cell bA hHeld.2.2.2.2.2.2.1, below_cell bA hHeld.2.2.2.2.2.2.2.1, below_cell bA hHeld.2.2.2.2.2.2.2.2.1, below_cell bA hHeld.2.2.2.2.2.2.2.2.2⟩ : _ ∧ _ ∧ _ ∧ _ ∧ _ ∧ _ ∧ _ ∧ _ ∧ _ ∧ _)
      clear bA
      refine hKK.out _ _ hHeld ?_
      clear hHeld
      intro hHeld
      clear hKK KK
      try simp only [pP, pN, pS, pZ, pC]
      obtain ⟨cq5, hcc⟩ : ∃ cc, w0F.heap.size = cc := ⟨_, rfl⟩
      rw [hcc] at q5 hq5ge hq5c0 hq5c1 hq5c2 hq5c3 hq5c4 hq5c5 hq5c6 hq5c7 hq5c8 hq5c9
      try rw [hcc]
      clear hcc
      refine wpAnyH_ready (rs := [4, 14]) (by kernel_rfl) (by simp) ?_
      refine consT rfl (fun KK hKK => ?_) ?_
      · skip
        go_simp
        refine (GS.out _ hS h1).mono ?_
        rintro e w30 ⟨ps, rfl, n1⟩
        have bC := n1.below
        replace bT := bT.trans (bC.mono bT.size)
        replace h1 := h1.later bC
        replace h3 := h3.later bC
        replace hS := hS.later bC
        replace q5 := q5.later bC
        replace hHeld := (⟨below_cell bC hHeld.1, below_cell bC hHeld.2.1, below_cell bC hHeld.2.2.1, below_cell bC hHeld.2.2.2.1, below_cell bC hHeld.2.2.2.2.1, below_cell bC hHeld.2.2.2.2.2.1, below_cell bC hHeld.2.2.2.2.2.2.1, below_cell bC hHeld.2.2.2.2.2.2.2.1, below_cell bC hHeld.2.2.2.2.2.2.2.2.1, below_cell bC hHeld.2.2.2.2.2.2.2.2.2⟩ : _ ∧ _ ∧ _ ∧ _ ∧ _ ∧ _ ∧ _ ∧ _ ∧ _ ∧ _)
        clear bC
        go_wp2_with fail
        have ks := n1.seg
        clear n1
        refine hKK.out _ _ hHeld ?_
        clear hHeld
        intro hHeld
        clear hKK KK
        try simp only [pP, pN, pS, pZ, pC]
        refine wpAnyH_ready (rs := [8, 14]) (by kernel_rfl) (by simp) ?_
        refine consT rfl (fun KK hKK => ?_) ?_
        · skip
          go_simp
          refine (GF.out _ ps ks h3).mono ?_
          rintro e w31 ⟨pt, pg, rfl, n1, n2⟩
          have bC := n1.below
          replace bT := bT.trans (bC.mono bT.size)
          replace h1 := h1.later bC
          replace h3 := h3.later bC
          replace hS := hS.later bC
          replace q5 := q5.later bC
          replace ks := ks.later bC
          replace hHeld := (⟨below_cell bC hHeld.1, below_cell bC hHeld.2.1, below_cell bC hHeld.2.2.1, below_cell bC hHeld.2.2.2.1, below_cell bC hHeld.2.2.2.2.1, below_cell bC hHeld.2.2.2.2.2.1, below_cell bC hHeld.2.2.2.2.2.2.1, below_cell bC hHeld.2.2.2.2.2.2.2.1, below_cell bC hHeld.2.2.2.2.2.2.2.2.1, below_cell bC hHeld.2.2.2.2.2.2.2.2.2⟩ : _ ∧ _ ∧ _ ∧ _ ∧ _ ∧ _ ∧ _ ∧ _ ∧ _ ∧ _)
          clear bC
          go_wp2_with fail
          have kt := n1.seg
          have kg := n2.seg
          clear n1 n2
          refine hKK.out _ _ hHeld ?_
          clear hHeld
          intro hHeld
          clear hKK KK
          try simp only [pP, pN, pS, pZ, pC]
          refine tk 9 (v := ?_) rfl (Or.inl ⟨by rfl, ?_⟩) ?_
          rotate_left
          · intro w9 hSw
            go_simp
            first | done | with_reducible rfl
          simp only [pP, pN, pS, pZ, pC]
          refine tk 10 (v := ?_) rfl (Or.inl ⟨by rfl, ?_⟩) ?_
          rotate_left
          · intro w9 hSw
            go_simp
            first | done | with_reducible rfl
          simp only [pP, pN, pS, pZ, pC]
          refine tk 11 (v := ?_) rfl (Or.inl ⟨by rfl, ?_⟩) ?_
          rotate_left
          · intro w9 hSw
            go_simp
            first | done | with_reducible rfl
          simp only [pP, pN, pS, pZ, pC]
          refine tk 12 (v := ?_) rfl (Or.inl ⟨by rfl, ?_⟩) ?_
          rotate_left
          · intro w9 hSw
            go_simp
            first | done | with_reducible rfl
          simp only [pP, pN, pS, pZ, pC]
          refine wpAnyH_ready (rs := [14]) (by kernel_rfl) (by simp) ?_
          refine cons' rfl (fun KK hKK => ?_)
          go_simp
          have q6 := Blk.new w31 #[.bool false, .slice none 0 0] 25
          have bA := below_alloc (w := w31) (.cells #[.bool false, .slice none 0 0] 25)
          have hq6ge := bT.size
          have hq6q5 := q5.lt
          have hq6c0 := cell_ltU hHeld.1
          have hq6c1 := cell_ltU hHeld.2.1
          have hq6c2 := cell_ltU hHeld.2.2.1
          have hq6c3 := cell_ltU hHeld.2.2.2.1
          have hq6c4 := cell_ltU hHeld.2.2.2.2.1
          have hq6c5 := cell_ltU hHeld.2.2.2.2.2.1
          have hq6c6 := cell_ltU hHeld.2.2.2.2.2.2.1
          have hq6c7 := cell_ltU hHeld.2.2.2.2.2.2.2.1
          have hq6c8 := cell_ltU hHeld.2.2.2.2.2.2.2.2.1
          have hq6c9 := cell_ltU hHeld.2.2.2.2.2.2.2.2.2
          generalize w31.alloc (.cells #[.bool false, .slice none 0 0] 25) = w32 at q6 bA ⊢
          replace bT := bT.trans (bA.mono bT.size)
          replace h1 := h1.later bA
          replace h3 := h3.later bA
          replace hS := hS.later bA
          replace q5 := q5.later bA
          replace ks := ks.later bA
          replace kt := kt.later bA
          replace kg := kg.later bA
          replace hHeld := (⟨below_cell bA hHeld.1, below_cell bA hHeld.2.1, below_cell bA hHeld.2.2.1, below_cell bA hHeld.2.2.2.1, below_cell bA hHeld.2.2.2.2.1, below_cell bA hHeld.2.2.2.2.2.1, below_cell bA hHeld.2.2.2.2.2.2.1, below_cell bA hHeld.2.2.2.2.2.2.2.1, below_cell bA hHeld.2.2.2.2.2.2.2.2.1, below_cell bA hHeld.2.2.2.2.2.2.2.2.2⟩ : _ ∧ _ ∧ _ ∧ _ ∧ _ ∧ _ ∧ _ ∧ _ ∧ _ ∧ _)
          clear bA
          refine hKK.out _ _ hHeld ?_
          clear hHeld
          intro hHeld
          clear hKK KK
          try simp only [pP, pN, pS, pZ, pC]
          obtain ⟨cq6, hcc⟩ : ∃ cc, w31.heap.size = cc := ⟨_, rfl⟩
          rw [hcc] at q6 hq6ge hq6q5 hq6c0 hq6c1 hq6c2 hq6c3 hq6c4 hq6c5 hq6c6 hq6c7 hq6c8 hq6c9
          try rw [hcc]
          clear hcc
          refine wpAnyH_ready (rs := [15]) (by kernel_rfl) (by simp) ?_
          refine cons' rfl (fun KK hKK => ?_)
          have z0 := q5.cell 0
          have z1 := q5.cell 1
          simp only [List.getElem?_toArray, List.getElem?_cons_zero, List.getElem?_cons_succ] at z0 z1
          have fz := fun o => q5.frozen o
          obtain ⟨c9, q9⟩ := q5.set2s (.bool (ng T)) (.slice pt (ln (am T)) (ln (am T)))
          have hno := q5.no (by simp)
          replace h1 := h1.ch c9 hno
          replace h3 := h3.ch c9 hno
          replace hS := hS.ch c9 hno
          replace ks := ks.ch c9 hno
          replace kt := kt.ch c9 hno
          replace kg := kg.ch c9 hno
          replace q6 := q6.ch c9 (by omega)
          replace bT := bT.trans (c9.below (by omega))
          have hH2 := (⟨(World.cell?_of_block (w := w32) (a := ⟨w.heap.size, 0, none⟩) (c9.other (w.heap.size) (by omega))).trans hHeld.1, (World.cell?_of_block (w := w32) (a := ⟨w.heap.size, 1, none⟩) (c9.other (w.heap.size) (by omega))).trans hHeld.2.1, (World.cell?_of_block (w := w32) (a := ⟨w.heap.size, 2, none⟩) (c9.other (w.heap.size) (by omega))).trans hHeld.2.2.1, (World.cell?_of_block (w := w32) (a := ⟨w.heap.size, 3, none⟩) (c9.other (w.heap.size) (by omega))).trans hHeld.2.2.2.1, (World.cell?_of_block (w := w32) (a := ⟨w.heap.size, 4, none⟩) (c9.other (w.heap.size) (by omega))).trans hHeld.2.2.2.2.1, (World.cell?_of_block (w := w32) (a := ⟨w.heap.size, 5, none⟩) (c9.other (w.heap.size) (by omega))).trans hHeld.2.2.2.2.2.1, (World.cell?_of_block (w := w32) (a := ⟨w.heap.size, 6, none⟩) (c9.other (w.heap.size) (by omega))).trans hHeld.2.2.2.2.2.2.1, (World.cell?_of_block (w := w32) (a := ⟨w.heap.size, 7, none⟩) (c9.other (w.heap.size) (by omega))).trans hHeld.2.2.2.2.2.2.2.1, (World.cell?_of_block (w := w32) (a := ⟨w.heap.size + 1, 0, none⟩) (c9.other (w.heap.size + 1) (by omega))).trans hHeld.2.2.2.2.2.2.2.2.1, (World.cell?_of_block (w := w32) (a := ⟨w.heap.size + 1, 1, none⟩) (c9.other (w.heap.size + 1) (by omega))).trans hHeld.2.2.2.2.2.2.2.2.2⟩ : _ ∧ _ ∧ _ ∧ _ ∧ _ ∧ _ ∧ _ ∧ _ ∧ _ ∧ _)
          go_simp
          clear z0 z1 fz hno c9
          replace q5 := q9
          refine hKK.out _ _ hH2 ?_
          clear hHeld
          intro hHeld
          clear hKK KK
          try simp only [pP, pN, pS, pZ, pC]
          clear hH2
          generalize ((w32.setCell ⟨cq5, 0, none⟩ (.bool (ng T))).setCell ⟨cq5, 1, none⟩ (.slice pt (ln (am T)) (ln (am T)))) = w33 at bT h1 h3 hS q5 ks kt kg q6 hHeld ⊢
          refine wpAnyH_ready (rs := [16]) (by kernel_rfl) (by simp) ?_
          refine cons' rfl (fun KK hKK => ?_)
          have z0 := q6.cell 0
          have z1 := q6.cell 1
          simp only [List.getElem?_toArray, List.getElem?_cons_zero, List.getElem?_cons_succ] at z0 z1
          have fz := fun o => q6.frozen o
          obtain ⟨c9, q9⟩ := q6.set2s (.bool (ng G)) (.slice pg (ln (am G)) (ln (am G)))
          have hno := q6.no (by simp)
          replace h1 := h1.ch c9 hno
          replace h3 := h3.ch c9 hno
          replace hS := hS.ch c9 hno
          replace q5 := q5.ch c9 (by omega)
          replace ks := ks.ch c9 hno
          replace kt := kt.ch c9 hno
          replace kg := kg.ch c9 hno
          replace bT := bT.trans (c9.below (by omega))
          have hH2 := (⟨(World.cell?_of_block (w := w33) (a := ⟨w.heap.size, 0, none⟩) (c9.other (w.heap.size) (by omega))).trans hHeld.1, (World.cell?_of_block (w := w33) (a := ⟨w.heap.size, 1, none⟩) (c9.other (w.heap.size) (by omega))).trans hHeld.2.1, (World.cell?_of_block (w := w33) (a := ⟨w.heap.size, 2, none⟩) (c9.other (w.heap.size) (by omega))).trans hHeld.2.2.1, (World.cell?_of_block (w := w33) (a := ⟨w.heap.size, 3, none⟩) (c9.other (w.heap.size) (by omega))).trans hHeld.2.2.2.1, (World.cell?_of_block (w := w33) (a := ⟨w.heap.size, 4, none⟩) (c9.other (w.heap.size) (by omega))).trans hHeld.2.2.2.2.1, (World.cell?_of_block (w := w33) (a := ⟨w.heap.size, 5, none⟩) (c9.other (w.heap.size) (by omega))).trans hHeld.2.2.2.2.2.1, (World.cell?_of_block (w := w33) (a := ⟨w.heap.size, 6, none⟩) (c9.other (w.heap.size) (by omega))).trans hHeld.2.2.2.2.2.2.1, (World.cell?_of_block (w := w33) (a := ⟨w.heap.size, 7, none⟩) (c9.other (w.heap.size) (by omega))).trans hHeld.2.2.2.2.2.2.2.1, (World.cell?_of_block (w := w33) (a := ⟨w.heap.size + 1, 0, none⟩) (c9.other (w.heap.size + 1) (by omega))).trans hHeld.2.2.2.2.2.2.2.2.1, (World.cell?_of_block (w := w33) (a := ⟨w.heap.size + 1, 1, none⟩) (c9.other (w.heap.size + 1) (by omega))).trans hHeld.2.2.2.2.2.2.2.2.2⟩ : _ ∧ _ ∧ _ ∧ _ ∧ _ ∧ _ ∧ _ ∧ _ ∧ _ ∧ _)
          go_simp
          clear z0 z1 fz hno c9
          replace q6 := q9
          refine hKK.out _ _ hH2 ?_
          clear hHeld
          intro hHeld
          clear hKK KK
          try simp only [pP, pN, pS, pZ, pC]
          clear hH2
          generalize ((w33.setCell ⟨cq6, 0, none⟩ (.bool (ng G))).setCell ⟨cq6, 1, none⟩ (.slice pg (ln (am G)) (ln (am G)))) = w34 at bT h1 h3 hS q5 ks kt kg q6 hHeld ⊢
          refine tk 17 (v := ?_) rfl (Or.inl ⟨by rfl, ?_⟩) ?_
          rotate_left
          · intro w9 hSw
            go_simp
            first | done | with_reducible rfl
          simp only [pP, pN, pS, pZ, pC]
          refine wpAnyH_done (by kernel_rfl) ?_ _
          go_wp2_with fail
          go_meet
          exact ⟨_, cq5, cq6, pt, rfl, rfl, rfl, rfl, q5, kt, hq5ge, bT⟩
        refine consT rfl (fun KK hKK => ?_) ?_
        · skip
          go_simp
          have q6 := Blk.new w30 #[.bool false, .slice none 0 0] 25
          have bA := below_alloc (w := w30) (.cells #[.bool false, .slice none 0 0] 25)
          have hq6ge := bT.size
          have hq6q5 := q5.lt
          have hq6c0 := cell_ltU hHeld.1
          have hq6c1 := cell_ltU hHeld.2.1
          have hq6c2 := cell_ltU hHeld.2.2.1
          have hq6c3 := cell_ltU hHeld.2.2.2.1
          have hq6c4 := cell_ltU hHeld.2.2.2.2.1
          have hq6c5 := cell_ltU hHeld.2.2.2.2.2.1
          have hq6c6 := cell_ltU hHeld.2.2.2.2.2.2.1
          have hq6c7 := cell_ltU hHeld.2.2.2.2.2.2.2.1
          have hq6c8 := cell_ltU hHeld.2.2.2.2.2.2.2.2.1
          have hq6c9 := cell_ltU hHeld.2.2.2.2.2.2.2.2.2
          generalize w30.alloc (.cells #[.bool false, .slice none 0 0] 25) = w35 at q6 bA ⊢
          replace bT := bT.trans (bA.mono bT.size)
          replace h1 := h1.later bA
          replace h3 := h3.later bA
          replace hS := hS.later bA
          replace q5 := q5.later bA
          replace ks := ks.later bA
          replace hHeld := (⟨below_cell bA hHeld.1, below_cell bA hHeld.2.1, below_cell bA hHeld.2.2.1, below_cell bA hHeld.2.2.2.1, below_cell bA hHeld.2.2.2.2.1, below_cell bA hHeld.2.2.2.2.2.1, below_cell bA hHeld.2.2.2.2.2.2.1, below_cell bA hHeld.2.2.2.2.2.2.2.1, below_cell bA hHeld.2.2.2.2.2.2.2.2.1, below_cell bA hHeld.2.2.2.2.2.2.2.2.2⟩ : _ ∧ _ ∧ _ ∧ _ ∧ _ ∧ _ ∧ _ ∧ _ ∧ _ ∧ _)
          clear bA
          refine hKK.out _ _ hHeld ?_
          clear hHeld
          intro hHeld
          clear hKK KK
          try simp only [pP, pN, pS, pZ, pC]
          obtain ⟨cq6, hcc⟩ : ∃ cc, w30.heap.size = cc := ⟨_, rfl⟩
          rw [hcc] at q6 hq6ge hq6q5 hq6c0 hq6c1 hq6c2 hq6c3 hq6c4 hq6c5 hq6c6 hq6c7 hq6c8 hq6c9
          try rw [hcc]
          clear hcc
          refine wpAnyH_ready (rs := [8]) (by kernel_rfl) (by simp) ?_
          refine cons' rfl (fun KK hKK => ?_)
          go_simp
          refine (GF.out _ ps ks h3).mono ?_
          rintro e w36 ⟨pt, pg, rfl, n1, n2⟩
          have bC := n1.below
          replace bT := bT.trans (bC.mono bT.size)
          replace h1 := h1.later bC
          replace h3 := h3.later bC
          replace hS := hS.later bC
          replace q5 := q5.later bC
          replace ks := ks.later bC
          replace q6 := q6.later bC
          replace hHeld := (⟨below_cell bC hHeld.1, below_cell bC hHeld.2.1, below_cell bC hHeld.2.2.1, below_cell bC hHeld.2.2.2.1, below_cell bC hHeld.2.2.2.2.1, below_cell bC hHeld.2.2.2.2.2.1, below_cell bC hHeld.2.2.2.2.2.2.1, below_cell bC hHeld.2.2.2.2.2.2.2.1, below_cell bC hHeld.2.2.2.2.2.2.2.2.1, below_cell bC hHeld.2.2.2.2.2.2.2.2.2⟩ : _ ∧ _ ∧ _ ∧ _ ∧ _ ∧ _ ∧ _ ∧ _ ∧ _ ∧ _)
          clear bC
          go_wp2_with fail
          have kt := n1.seg
          have kg := n2.seg
          clear n1 n2
          refine hKK.out _ _ hHeld ?_
          clear hHeld
          intro hHeld
          clear hKK KK
          try simp only [pP, pN, pS, pZ, pC]
          refine tk 9 (v := ?_) rfl (Or.inl ⟨by rfl, ?_⟩) ?_
          rotate_left
          · intro w9 hSw
            go_simp
            first | done | with_reducible rfl
          simp only [pP, pN, pS, pZ, pC]
          refine tk 10 (v := ?_) rfl (Or.inl ⟨by rfl, ?_⟩) ?_
          rotate_left
          · intro w9 hSw
            go_simp
            first | done | with_reducible rfl
          simp only [pP, pN, pS, pZ, pC]
          refine tk 11 (v := ?_) rfl (Or.inl ⟨by rfl, ?_⟩) ?_
          rotate_left
          · intro w9 hSw
            go_simp
            first | done | with_reducible rfl
          simp only [pP, pN, pS, pZ, pC]
          refine tk 12 (v := ?_) rfl (Or.inl ⟨by rfl, ?_⟩) ?_
          rotate_left
          · intro w9 hSw
            go_simp
            first | done | with_reducible rfl
          simp only [pP, pN, pS, pZ, pC]
          refine wpAnyH_ready (rs := [15]) (by kernel_rfl) (by simp) ?_
          refine cons' rfl (fun KK hKK => ?_)
          have z0 := q5.cell 0
          have z1 := q5.cell 1
          simp only [List.getElem?_toArray, List.getElem?_cons_zero, List.getElem?_cons_succ] at z0 z1
          have fz := fun o => q5.frozen o
          obtain ⟨c9, q9⟩ := q5.set2s (.bool (ng T)) (.slice pt (ln (am T)) (ln (am T)))
          have hno := q5.no (by simp)
          replace h1 := h1.ch c9 hno
          replace h3 := h3.ch c9 hno
          replace hS := hS.ch c9 hno
          replace ks := ks.ch c9 hno
          replace q6 := q6.ch c9 (by omega)
          replace kt := kt.ch c9 hno
          replace kg := kg.ch c9 hno
          replace bT := bT.trans (c9.below (by omega))
          have hH2 := (⟨(World.cell?_of_block (w := w36) (a := ⟨w.heap.size, 0, none⟩) (c9.other (w.heap.size) (by omega))).trans hHeld.1, (World.cell?_of_block (w := w36) (a := ⟨w.heap.size, 1, none⟩) (c9.other (w.heap.size) (by omega))).trans hHeld.2.1, (World.cell?_of_block (w := w36) (a := ⟨w.heap.size, 2, none⟩) (c9.other (w.heap.size) (by omega))).trans hHeld.2.2.1, (World.cell?_of_block (w := w36) (a := ⟨w.heap.size, 3, none⟩) (c9.other (w.heap.size) (by omega))).trans hHeld.2.2.2.1, (World.cell?_of_block (w := w36) (a := ⟨w.heap.size, 4, none⟩) (c9.other (w.heap.size) (by omega))).trans hHeld.2.2.2.2.1, (World.cell?_of_block (w := w36) (a := ⟨w.heap.size, 5, none⟩) (c9.other (w.heap.size) (by omega))).trans hHeld.2.2.2.2.2.1, (World.cell?_of_block (w := w36) (a := ⟨w.heap.size, 6, none⟩) (c9.other (w.heap.size) (by omega))).trans hHeld.2.2.2.2.2.2.1, (World.cell?_of_block (w := w36) (a := ⟨w.heap.size, 7, none⟩) (c9.other (w.heap.size) (by omega))).trans hHeld.2.2.2.2.2.2.2.1, (World.cell?_of_block (w := w36) (a := ⟨w.heap.size + 1, 0, none⟩) (c9.other (w.heap.size + 1) (by omega))).trans hHeld.2.2.2.2.2.2.2.2.1, (World.cell?_of_block (w := w36) (a := ⟨w.heap.size + 1, 1, none⟩) (c9.other (w.heap.size + 1) (by omega))).trans hHeld.2.2.2.2.2.2.2.2.2⟩ : _ ∧ _ ∧ _ ∧ _ ∧ _ ∧ _ ∧ _ ∧ _ ∧ _ ∧ _)
          go_simp
          clear z0 z1 fz hno c9
          replace q5 := q9
          refine hKK.out _ _ hH2 ?_
          clear hHeld
          intro hHeld
          clear hKK KK
          try simp only [pP, pN, pS, pZ, pC]
          clear hH2
          generalize ((w36.setCell ⟨cq5, 0, none⟩ (.bool (ng T))).setCell ⟨cq5, 1, none⟩ (.slice pt (ln (am T)) (ln (am T)))) = w37 at bT h1 h3 hS q5 ks q6 kt kg hHeld ⊢
          refine wpAnyH_ready (rs := [16]) (by kernel_rfl) (by simp) ?_
          refine cons' rfl (fun KK hKK => ?_)
          have z0 := q6.cell 0
          have z1 := q6.cell 1
          simp only [List.getElem?_toArray, List.getElem?_cons_zero, List.getElem?_cons_succ] at z0 z1
          have fz := fun o => q6.frozen o
          obtain ⟨c9, q9⟩ := q6.set2s (.bool (ng G)) (.slice pg (ln (am G)) (ln (am G)))
          have hno := q6.no (by simp)
          replace h1 := h1.ch c9 hno
          replace h3 := h3.ch c9 hno
          replace hS := hS.ch c9 hno
          replace q5 := q5.ch c9 (by omega)
          replace ks := ks.ch c9 hno
          replace kt := kt.ch c9 hno
          replace kg := kg.ch c9 hno
          replace bT := bT.trans (c9.below (by omega))
          have hH2 := (⟨(World.cell?_of_block (w := w37) (a := ⟨w.heap.size, 0, none⟩) (c9.other (w.heap.size) (by omega))).trans hHeld.1, (World.cell?_of_block (w := w37) (a := ⟨w.heap.size, 1, none⟩) (c9.other (w.heap.size) (by omega))).trans hHeld.2.1, (World.cell?_of_block (w := w37) (a := ⟨w.heap.size, 2, none⟩) (c9.other (w.heap.size) (by omega))).trans hHeld.2.2.1, (World.cell?_of_block (w := w37) (a := ⟨w.heap.size, 3, none⟩) (c9.other (w.heap.size) (by omega))).trans hHeld.2.2.2.1, (World.cell?_of_block (w := w37) (a := ⟨w.heap.size, 4, none⟩) (c9.other (w.heap.size) (by omega))).trans hHeld.2.2.2.2.1, (World.cell?_of_block (w := w37) (a := ⟨w.heap.size, 5, none⟩) (c9.other (w.heap.size) (by omega))).trans hHeld.2.2.2.2.2.1, (World.cell?_of_block (w := w37) (a := ⟨w.heap.size, 6, none⟩) (c9.other (w.heap.size) (by omega))).trans hHeld.2.2.2.2.2.2.1, (World.cell?_of_block (w := w37) (a := ⟨w.heap.size, 7, none⟩) (c9.other (w.heap.size) (by omega))).trans hHeld.2.2.2.2.2.2.2.1, (World.cell?_of_block (w := w37) (a := ⟨w.heap.size + 1, 0, none⟩) (c9.other (w.heap.size + 1) (by omega))).trans hHeld.2.2.2.2.2.2.2.2.1, (World.cell?_of_block (w := w37) (a := ⟨w.heap.size + 1, 1, none⟩) (c9.other (w.heap.size + 1) (by omega))).trans hHeld.2.2.2.2.2.2.2.2.2⟩ : _ ∧ _ ∧ _ ∧ _ ∧ _ ∧ _ ∧ _ ∧ _ ∧ _ ∧ _)
          go_simp
          clear z0 z1 fz hno c9
          replace q6 := q9
          refine hKK.out _ _ hH2 ?_
          clear hHeld
          intro hHeld
          clear hKK KK
          try simp only [pP, pN, pS, pZ, pC]
          clear hH2
          generalize ((w37.setCell ⟨cq6, 0, none⟩ (.bool (ng G))).setCell ⟨cq6, 1, none⟩ (.slice pg (ln (am G)) (ln (am G)))) = w38 at bT h1 h3 hS q5 ks q6 kt kg hHeld ⊢
          refine tk 17 (v := ?_) rfl (Or.inl ⟨by rfl, ?_⟩) ?_
          rotate_left
          · intro w9 hSw
            go_simp
            first | done | with_reducible rfl
          simp only [pP, pN, pS, pZ, pC]
          refine wpAnyH_done (by kernel_rfl) ?_ _
          go_wp2_with fail
          go_meet
          exact ⟨_, cq5, cq6, pt, rfl, rfl, rfl, rfl, q5, kt, hq5ge, bT⟩
        exact AllReadyH.nil
      refine consT rfl (fun KK hKK => ?_) ?_
      · skip
        go_simp
        have q6 := Blk.new w29 #[.bool false, .slice none 0 0] 25
        have bA := below_alloc (w := w29) (.cells #[.bool false, .slice none 0 0] 25)
        have hq6ge := bT.size
        have hq6q5 := q5.lt
        have hq6c0 := cell_ltU hHeld.1
        have hq6c1 := cell_ltU hHeld.2.1
        have hq6c2 := cell_ltU hHeld.2.2.1
        have hq6c3 := cell_ltU hHeld.2.2.2.1
        have hq6c4 := cell_ltU hHeld.2.2.2.2.1
        have hq6c5 := cell_ltU hHeld.2.2.2.2.2.1
        have hq6c6 := cell_ltU hHeld.2.2.2.2.2.2.1
        have hq6c7 := cell_ltU hHeld.2.2.2.2.2.2.2.1
        have hq6c8 := cell_ltU hHeld.2.2.2.2.2.2.2.2.1
        have hq6c9 := cell_ltU hHeld.2.2.2.2.2.2.2.2.2
        generalize w29.alloc (.cells #[.bool false, .slice none 0 0] 25) = w39 at q6 bA ⊢
        replace bT := bT.trans (bA.mono bT.size)
        replace h1 := h1.later bA
        replace h3 := h3.later bA
        replace hS := hS.later bA
        replace q5 := q5.later bA
        replace hHeld := (⟨below_cell bA hHeld.1, below_cell bA hHeld.2.1, below_cell bA hHeld.2.2.1, below_cell bA hHeld.2.2.2.1, below_cell bA hHeld.2.2.2.2.1, below_cell bA hHeld.2.2.2.2.2.1, below_cell bA hHeld.2.2.2.2.2.2.1, below_cell bA hHeld.2.2.2.2.2.2.2.1, below_cell bA hHeld.2.2.2.2.2.2.2.2.1, below_cell bA hHeld.2.2.2.2.2.2.2.2.2⟩ : _ ∧ _ ∧ _ ∧ _ ∧ _ ∧ _ ∧ _ ∧ _ ∧ _ ∧ _)
        clear bA
        refine hKK.out _ _ hHeld ?_
        clear hHeld
        intro hHeld
        clear hKK KK
        try simp only [pP, pN, pS, pZ, pC]
        obtain ⟨cq6, hcc⟩ : ∃ cc, w29.heap.size = cc := ⟨_, rfl⟩
        rw [hcc] at q6 hq6ge hq6q5 hq6c0 hq6c1 hq6c2 hq6c3 hq6c4 hq6c5 hq6c6 hq6c7 hq6c8 hq6c9
        try rw [hcc]
        clear hcc
        refine wpAnyH_ready (rs := [4]) (by kernel_rfl) (by simp) ?_
        refine cons' rfl (fun KK hKK => ?_)
        go_simp
        refine (GS.out _ hS h1).mono ?_
        rintro e w40 ⟨ps, rfl, n1⟩
        have bC := n1.below
        replace bT := bT.trans (bC.mono bT.size)
        replace h1 := h1.later bC
        replace h3 := h3.later bC
        replace hS := hS.later bC
        replace q5 := q5.later bC
        replace q6 := q6.later bC
        replace hHeld := (⟨below_cell bC hHeld.1, below_cell bC hHeld.2.1, below_cell bC hHeld.2.2.1, below_cell bC hHeld.2.2.2.1, below_cell bC hHeld.2.2.2.2.1, below_cell bC hHeld.2.2.2.2.2.1, below_cell bC hHeld.2.2.2.2.2.2.1, below_cell bC hHeld.2.2.2.2.2.2.2.1, below_cell bC hHeld.2.2.2.2.2.2.2.2.1, below_cell bC hHeld.2.2.2.2.2.2.2.2.2⟩ : _ ∧ _ ∧ _ ∧ _ ∧ _ ∧ _ ∧ _ ∧ _ ∧ _ ∧ _)
        clear bC
        go_wp2_with fail
        have ks := n1.seg
        clear n1
        refine hKK.out _ _ hHeld ?_
        clear hHeld
        intro hHeld
        clear hKK KK
        try simp only [pP, pN, pS, pZ, pC]
        refine wpAnyH_ready (rs := [8]) (by kernel_rfl) (by simp) ?_
        refine cons' rfl (fun KK hKK => ?_)
        go_simp
        refine (GF.out _ ps ks h3).mono ?_
        rintro e w41 ⟨pt, pg, rfl, n1, n2⟩
        have bC := n1.below
        replace bT := bT.trans (bC.mono bT.size)
        replace h1 := h1.later bC
        replace h3 := h3.later bC
        replace hS := hS.later bC
        replace q5 := q5.later bC
        replace q6 := q6.later bC
        replace ks := ks.later bC
        replace hHeld := (⟨below_cell bC hHeld.1, below_cell bC hHeld.2.1, below_cell bC hHeld.2.2.1, below_cell bC hHeld.2.2.2.1, below_cell bC hHeld.2.2.2.2.1, below_cell bC hHeld.2.2.2.2.2.1, below_cell bC hHeld.2.2.2.2.2.2.1, below_cell bC hHeld.2.2.2.2.2.2.2.1, below_cell bC hHeld.2.2.2.2.2.2.2.2.1, below_cell bC hHeld.2.2.2.2.2.2.2.2.2⟩ : _ ∧ _ ∧ _ ∧ _ ∧ _ ∧ _ ∧ _ ∧ _ ∧ _ ∧ _)
        clear bC
        go_wp2_with fail
        have kt := n1.seg
        have kg := n2.seg
        clear n1 n2
        refine hKK.out _ _ hHeld ?_
        clear hHeld
        intro hHeld
        clear hKK KK
        try simp only [pP, pN, pS, pZ, pC]
        refine tk 9 (v := ?_) rfl (Or.inl ⟨by rfl, ?_⟩) ?_
        rotate_left
        · intro w9 hSw
          go_simp
          first | done | with_reducible rfl
        simp only [pP, pN, pS, pZ, pC]
        refine tk 10 (v := ?_) rfl (Or.inl ⟨by rfl, ?_⟩) ?_
        rotate_left
        · intro w9 hSw
          go_simp
          first | done | with_reducible rfl
        simp only [pP, pN, pS, pZ, pC]
        refine tk 11 (v := ?_) rfl (Or.inl ⟨by rfl, ?_⟩) ?_
        rotate_left
        · intro w9 hSw
          go_simp
          first | done | with_reducible rfl
        simp only [pP, pN, pS, pZ, pC]
        refine tk 12 (v := ?_) rfl (Or.inl ⟨by rfl, ?_⟩) ?_
        rotate_left
        · intro w9 hSw
          go_simp
          first | done | with_reducible rfl
        simp only [pP, pN, pS, pZ, pC]
        refine wpAnyH_ready (rs := [15]) (by kernel_rfl) (by simp) ?_
        refine cons' rfl (fun KK hKK => ?_)
        have z0 := q5.cell 0
        have z1 := q5.cell 1
        simp only [List.getElem?_toArray, List.getElem?_cons_zero, List.getElem?_cons_succ] at z0 z1
        have fz := fun o => q5.frozen o
        obtain ⟨c9, q9⟩ := q5.set2s (.bool (ng T)) (.slice pt (ln (am T)) (ln (am T)))
        have hno := q5.no (by simp)
        replace h1 := h1.ch c9 hno
        replace h3 := h3.ch c9 hno
        replace hS := hS.ch c9 hno
        replace q6 := q6.ch c9 (by omega)
        replace ks := ks.ch c9 hno
        replace kt := kt.ch c9 hno
        replace kg := kg.ch c9 hno
        replace bT := bT.trans (c9.below (by omega))
        have hH2 := (⟨(World.cell?_of_block (w := w41) (a := ⟨w.heap.size, 0, none⟩) (c9.other (w.heap.size) (by omega))).trans hHeld.1, (World.cell?_of_block (w := w41) (a := ⟨w.heap.size, 1, none⟩) (c9.other (w.heap.size) (by omega))).trans hHeld.2.1, (World.cell?_of_block (w := w41) (a := ⟨w.heap.size, 2, none⟩) (c9.other (w.heap.size) (by omega))).trans hHeld.2.2.1, (World.cell?_of_block (w := w41) (a := ⟨w.heap.size, 3, none⟩) (c9.other (w.heap.size) (by omega))).trans hHeld.2.2.2.1, (World.cell?_of_block (w := w41) (a := ⟨w.heap.size, 4, none⟩) (c9.other (w.heap.size) (by omega))).trans hHeld.2.2.2.2.1, (World.cell?_of_block (w := w41) (a := ⟨w.heap.size, 5, none⟩) (c9.other (w.heap.size) (by omega))).trans hHeld.2.2.2.2.2.1, (World.cell?_of_block (w := w41) (a := ⟨w.heap.size, 6, none⟩) (c9.other (w.heap.size) (by omega))).trans hHeld.2.2.2.2.2.2.1, (World.cell?_of_block (w := w41) (a := ⟨w.heap.size, 7, none⟩) (c9.other (w.heap.size) (by omega))).trans hHeld.2.2.2.2.2.2.2.1, (World.cell?_of_block (w := w41) (a := ⟨w.heap.size + 1, 0, none⟩) (c9.other (w.heap.size + 1) (by omega))).trans hHeld.2.2.2.2.2.2.2.2.1, (World.cell?_of_block (w := w41) (a := ⟨w.heap.size + 1, 1, none⟩) (c9.other (w.heap.size + 1) (by omega))).trans hHeld.2.2.2.2.2.2.2.2.2⟩ : _ ∧ _ ∧ _ ∧ _ ∧ _ ∧ _ ∧ _ ∧ _ ∧ _ ∧ _)
        go_simp
        clear z0 z1 fz hno c9
        replace q5 := q9
        refine hKK.out _ _ hH2 ?_
        clear hHeld
        intro hHeld
        clear hKK KK
        try simp only [pP, pN, pS, pZ, pC]
        clear hH2
        generalize ((w41.setCell ⟨cq5, 0, none⟩ (.bool (ng T))).setCell ⟨cq5, 1, none⟩ (.slice pt (ln (am T)) (ln (am T)))) = w42 at bT h1 h3 hS q5 q6 ks kt kg hHeld ⊢
        refine wpAnyH_ready (rs := [16]) (by kernel_rfl) (by simp) ?_
        refine cons' rfl (fun KK hKK => ?_)
        have z0 := q6.cell 0
        have z1 := q6.cell 1
        simp only [List.getElem?_toArray, List.getElem?_cons_zero, List.getElem?_cons_succ] at z0 z1
        have fz := fun o => q6.frozen o
        obtain ⟨c9, q9⟩ := q6.set2s (.bool (ng G)) (.slice pg (ln (am G)) (ln (am G)))
        have hno := q6.no (by simp)
        replace h1 := h1.ch c9 hno
        replace h3 := h3.ch c9 hno
        replace hS := hS.ch c9 hno
        replace q5 := q5.ch c9 (by omega)
        replace ks := ks.ch c9 hno
        replace kt := kt.ch c9 hno
        replace kg := kg.ch c9 hno
        replace bT := bT.trans (c9.below (by omega))
        have hH2 := (⟨(World.cell?_of_block (w := w42) (a := ⟨w.heap.size, 0, none⟩) (c9.other (w.heap.size) (by omega))).trans hHeld.1, (World.cell?_of_block (w := w42) (a := ⟨w.heap.size, 1, none⟩) (c9.other (w.heap.size) (by omega))).trans hHeld.2.1, (World.cell?_of_block (w := w42) (a := ⟨w.heap.size, 2, none⟩) (c9.other (w.heap.size) (by omega))).trans hHeld.2.2.1, (World.cell?_of_block (w := w42) (a := ⟨w.heap.size, 3, none⟩) (c9.other (w.heap.size) (by omega))).trans hHeld.2.2.2.1, (World.cell?_of_block (w := w42) (a := ⟨w.heap.size, 4, none⟩) (c9.other (w.heap.size) (by omega))).trans hHeld.2.2.2.2.1, (World.cell?_of_block (w := w42) (a := ⟨w.heap.size, 5, none⟩) (c9.other (w.heap.size) (by omega))).trans hHeld.2.2.2.2.2.1, (World.cell?_of_block (w := w42) (a := ⟨w.heap.size, 6, none⟩) (c9.other (w.heap.size) (by omega))).trans hHeld.2.2.2.2.2.2.1, (World.cell?_of_block (w := w42) (a := ⟨w.heap.size, 7, none⟩) (c9.other (w.heap.size) (by omega))).trans hHeld.2.2.2.2.2.2.2.1, (World.cell?_of_block (w := w42) (a := ⟨w.heap.size + 1, 0, none⟩) (c9.other (w.heap.size + 1) (by omega))).trans hHeld.2.2.2.2.2.2.2.2.1, (World.cell?_of_block (w := w42) (a := ⟨w.heap.size + 1, 1, none⟩) (c9.other (w.heap.size + 1) (by omega))).trans hHeld.2.2.2.2.2.2.2.2.2⟩ : _ ∧ _ ∧ _ ∧ _ ∧ _ ∧ _ ∧ _ ∧ _ ∧ _ ∧ _)
        go_simp
        clear z0 z1 fz hno c9
        replace q6 := q9
        refine hKK.out _ _ hH2 ?_
        clear hHeld
        intro hHeld
        clear hKK KK
        try simp only [pP, pN, pS, pZ, pC]
        clear hH2
        generalize ((w42.setCell ⟨cq6, 0, none⟩ (.bool (ng G))).setCell ⟨cq6, 1, none⟩ (.slice pg (ln (am G)) (ln (am G)))) = w43 at bT h1 h3 hS q5 q6 ks kt kg hHeld ⊢
        refine tk 17 (v := ?_) rfl (Or.inl ⟨by rfl, ?_⟩) ?_
        rotate_left
        · intro w9 hSw
          go_simp
          first | done | with_reducible rfl
        simp only [pP, pN, pS, pZ, pC]
        refine wpAnyH_done (by kernel_rfl) ?_ _
        go_wp2_with fail
        go_meet
        exact ⟨_, cq5, cq6, pt, rfl, rfl, rfl, rfl, q5, kt, hq5ge, bT⟩
      exact AllReadyH.nil
    refine consT rfl (fun KK hKK => ?_) ?_
    · skip
      go_simp
      have q6 := Blk.new w0F #[.bool false, .slice none 0 0] 25
      have bA := below_alloc (w := w0F) (.cells #[.bool false, .slice none 0 0] 25)
      have hq6ge := bT.size
      have hq6c0 := cell_ltU hHeld.1
      have hq6c1 := cell_ltU hHeld.2.1
      have hq6c2 := cell_ltU hHeld.2.2.1
      have hq6c3 := cell_ltU hHeld.2.2.2.1
      have hq6c4 := cell_ltU hHeld.2.2.2.2.1
      have hq6c5 := cell_ltU hHeld.2.2.2.2.2.1
      have hq6c6 := cell_ltU hHeld.2.2.2.2.2.2.1
      have hq6c7 := cell_ltU hHeld.2.2.2.2.2.2.2.1
      have hq6c8 := cell_ltU hHeld.2.2.2.2.2.2.2.2.1
      have hq6c9 := cell_ltU hHeld.2.2.2.2.2.2.2.2.2
      generalize w0F.alloc (.cells #[.bool false, .slice none 0 0] 25) = w44 at q6 bA ⊢
      replace bT := bT.trans (bA.mono bT.size)
      replace h1 := h1.later bA
      replace h3 := h3.later bA
      replace hS := hS.later bA
      replace hHeld := (⟨below_cell bA hHeld.1, below_cell bA hHeld.2.1, below_cell bA hHeld.2.2.1, below_cell bA hHeld.2.2.2.1, below_cell bA hHeld.2.2.2.2.1, below_cell bA hHeld.2.2.2.2.2.1, below_cell bA hHeld.2.2.2.2.2.2.1, below_cell bA hHeld.2.2.2.2.2.2.2.1, below_cell bA hHeld.2.2.2.2.2.2.2.2.1, below_cell bA hHeld.2.2.2.2.2.2.2.2.2⟩ : _ ∧ _ ∧ _ ∧ _ ∧ _ ∧ _ ∧ _ ∧ _ ∧ _ ∧ _)
      clear bA
      refine hKK.out _ _ hHeld ?_
      clear hHeld
      intro hHeld
      clear hKK KK
      try simp only [pP, pN, pS, pZ, pC]
      obtain ⟨cq6, hcc⟩ : ∃ cc, w0F.heap.size = cc := ⟨_, rfl⟩
      rw [hcc] at q6 hq6ge hq6c0 hq6c1 hq6c2 hq6c3 hq6c4 hq6c5 hq6c6 hq6c7 hq6c8 hq6c9
      try rw [hcc]
      clear hcc
      refine wpAnyH_ready (rs := [4, 13]) (by kernel_rfl) (by simp) ?_
      refine consT rfl (fun KK hKK => ?_) ?_
      · skip
        go_simp
        refine (GS.out _ hS h1).mono ?_
        rintro e w45 ⟨ps, rfl, n1⟩
        have bC := n1.below
        replace bT := bT.trans (bC.mono bT.size)
        replace h1 := h1.later bC
        replace h3 := h3.later bC
        replace hS := hS.later bC
        replace q6 := q6.later bC
        replace hHeld := (⟨below_cell bC hHeld.1, below_cell bC hHeld.2.1, below_cell bC hHeld.2.2.1, below_cell bC hHeld.2.2.2.1, below_cell bC hHeld.2.2.2.2.1, below_cell bC hHeld.2.2.2.2.2.1, below_cell bC hHeld.2.2.2.2.2.2.1, below_cell bC hHeld.2.2.2.2.2.2.2.1, below_cell bC hHeld.2.2.2.2.2.2.2.2.1, below_cell bC hHeld.2.2.2.2.2.2.2.2.2⟩ : _ ∧ _ ∧ _ ∧ _ ∧ _ ∧ _ ∧ _ ∧ _ ∧ _ ∧ _)
        clear bC
        go_wp2_with fail
        have ks := n1.seg
        clear n1
        refine hKK.out _ _ hHeld ?_
        clear hHeld
        intro hHeld
        clear hKK KK
        try simp only [pP, pN, pS, pZ, pC]
        refine wpAnyH_ready (rs := [8, 13]) (by kernel_rfl) (by simp) ?_
        refine consT rfl (fun KK hKK => ?_) ?_
        · skip
          go_simp
          refine (GF.out _ ps ks h3).mono ?_
          rintro e w46 ⟨pt, pg, rfl, n1, n2⟩
          have bC := n1.below
          replace bT := bT.trans (bC.mono bT.size)
          replace h1 := h1.later bC
          replace h3 := h3.later bC
          replace hS := hS.later bC
          replace q6 := q6.later bC
          replace ks := ks.later bC
          replace hHeld := (⟨below_cell bC hHeld.1, below_cell bC hHeld.2.1, below_cell bC hHeld.2.2.1, below_cell bC hHeld.2.2.2.1, below_cell bC hHeld.2.2.2.2.1, below_cell bC hHeld.2.2.2.2.2.1, below_cell bC hHeld.2.2.2.2.2.2.1, below_cell bC hHeld.2.2.2.2.2.2.2.1, below_cell bC hHeld.2.2.2.2.2.2.2.2.1, below_cell bC hHeld.2.2.2.2.2.2.2.2.2⟩ : _ ∧ _ ∧ _ ∧ _ ∧ _ ∧ _ ∧ _ ∧ _ ∧ _ ∧ _)
          clear bC
          go_wp2_with fail
          have kt := n1.seg
          have kg := n2.seg
          clear n1 n2
          refine hKK.out _ _ hHeld ?_
          clear hHeld
          intro hHeld
          clear hKK KK
          try simp only [pP, pN, pS, pZ, pC]
          refine tk 9 (v := ?_) rfl (Or.inl ⟨by rfl, ?_⟩) ?_
          rotate_left
          · intro w9 hSw
            go_simp
            first | done | with_reducible rfl
          simp only [pP, pN, pS, pZ, pC]
          refine tk 10 (v := ?_) rfl (Or.inl ⟨by rfl, ?_⟩) ?_
          rotate_left
          · intro w9 hSw
            go_simp
            first | done | with_reducible rfl
          simp only [pP, pN, pS, pZ, pC]
          refine tk 11 (v := ?_) rfl (Or.inl ⟨by rfl, ?_⟩) ?_
          rotate_left
          · intro w9 hSw
            go_simp
            first | done | with_reducible rfl
          simp only [pP, pN, pS, pZ, pC]
          refine tk 12 (v := ?_) rfl (Or.inl ⟨by rfl, ?_⟩) ?_
          rotate_left
          · intro w9 hSw
            go_simp
            first | done | with_reducible rfl
          simp only [pP, pN, pS, pZ, pC]
          refine wpAnyH_ready (rs := [13]) (by kernel_rfl) (by simp) ?_
          refine cons' rfl (fun KK hKK => ?_)
          go_simp
          have q5 := Blk.new w46 #[.bool false, .slice none 0 0] 25
          have bA := below_alloc (w := w46) (.cells #[.bool false, .slice none 0 0] 25)
          have hq5ge := bT.size
          have hq5q6 := q6.lt
          have hq5c0 := cell_ltU hHeld.1
          have hq5c1 := cell_ltU hHeld.2.1
          have hq5c2 := cell_ltU hHeld.2.2.1
          have hq5c3 := cell_ltU hHeld.2.2.2.1
          have hq5c4 := cell_ltU hHeld.2.2.2.2.1
          have hq5c5 := cell_ltU hHeld.2.2.2.2.2.1
          have hq5c6 := cell_ltU hHeld.2.2.2.2.2.2.1
          have hq5c7 := cell_ltU hHeld.2.2.2.2.2.2.2.1
          have hq5c8 := cell_ltU hHeld.2.2.2.2.2.2.2.2.1
          have hq5c9 := cell_ltU hHeld.2.2.2.2.2.2.2.2.2
          generalize w46.alloc (.cells #[.bool false, .slice none 0 0] 25) = w47 at q5 bA ⊢
          replace bT := bT.trans (bA.mono bT.size)
          replace h1 := h1.later bA
          replace h3 := h3.later bA
          replace hS := hS.later bA
          replace q6 := q6.later bA
          replace ks := ks.later bA
          replace kt := kt.later bA
          replace kg := kg.later bA
          replace hHeld := (⟨below_cell bA hHeld.1, below_cell bA hHeld.2.1, below_cell bA hHeld.2.2.1, below_cell bA hHeld.2.2.2.1, below_cell bA hHeld.2.2.2.2.1, below_cell bA hHeld.2.2.2.2.2.1, below_cell bA hHeld.2.2.2.2.2.2.1, below_cell bA hHeld.2.2.2.2.2.2.2.1, below_cell bA hHeld.2.2.2.2.2.2.2.2.1, below_cell bA hHeld.2.2.2.2.2.2.2.2.2⟩ : _ ∧ _ ∧ _ ∧ _ ∧ _ ∧ _ ∧ _ ∧ _ ∧ _ ∧ _)
          clear bA
          refine hKK.out _ _ hHeld ?_
          clear hHeld
          intro hHeld
          clear hKK KK
          try simp only [pP, pN, pS, pZ, pC]
          obtain ⟨cq5, hcc⟩ : ∃ cc, w46.heap.size = cc := ⟨_, rfl⟩
          rw [hcc] at q5 hq5ge hq5q6 hq5c0 hq5c1 hq5c2 hq5c3 hq5c4 hq5c5 hq5c6 hq5c7 hq5c8 hq5c9
          try rw [hcc]
          clear hcc
          refine wpAnyH_ready (rs := [15]) (by kernel_rfl) (by simp) ?_
          refine cons' rfl (fun KK hKK => ?_)
          have z0 := q5.cell 0
          have z1 := q5.cell 1
          simp only [List.getElem?_toArray, List.getElem?_cons_zero, List.getElem?_cons_succ] at z0 z1
          have fz := fun o => q5.frozen o
          obtain ⟨c9, q9⟩ := q5.set2s (.bool (ng T)) (.slice pt (ln (am T)) (ln (am T)))
          have hno := q5.no (by simp)
          replace h1 := h1.ch c9 hno
          replace h3 := h3.ch c9 hno
          replace hS := hS.ch c9 hno
          replace q6 := q6.ch c9 (by omega)
          replace ks := ks.ch c9 hno
          replace kt := kt.ch c9 hno
          replace kg := kg.ch c9 hno
          replace bT := bT.trans (c9.below (by omega))
          have hH2 := (⟨(World.cell?_of_block (w := w47) (a := ⟨w.heap.size, 0, none⟩) (c9.other (w.heap.size) (by omega))).trans hHeld.1, (World.cell?_of_block (w := w47) (a := ⟨w.heap.size, 1, none⟩) (c9.other (w.heap.size) (by omega))).trans hHeld.2.1, (World.cell?_of_block (w := w47) (a := ⟨w.heap.size, 2, none⟩) (c9.other (w.heap.size) (by omega))).trans hHeld.2.2.1, (World.cell?_of_block (w := w47) (a := ⟨w.heap.size, 3, none⟩) (c9.other (w.heap.size) (by omega))).trans hHeld.2.2.2.1, (World.cell?_of_block (w := w47) (a := ⟨w.heap.size, 4, none⟩) (c9.other (w.heap.size) (by omega))).trans hHeld.2.2.2.2.1, (World.cell?_of_block (w := w47) (a := ⟨w.heap.size, 5, none⟩) (c9.other (w.heap.size) (by omega))).trans hHeld.2.2.2.2.2.1, (World.cell?_of_block (w := w47) (a := ⟨w.heap.size, 6, none⟩) (c9.other (w.heap.size) (by omega))).trans hHeld.2.2.2.2.2.2.1, (World.cell?_of_block (w := w47) (a := ⟨w.heap.size, 7, none⟩) (c9.other (w.heap.size) (by omega))).trans hHeld.2.2.2.2.2.2.2.1, (World.cell?_of_block (w := w47) (a := ⟨w.heap.size + 1, 0, none⟩) (c9.other (w.heap.size + 1) (by omega))).trans hHeld.2.2.2.2.2.2.2.2.1, (World.cell?_of_block (w := w47) (a := ⟨w.heap.size + 1, 1, none⟩) (c9.other (w.heap.size + 1) (by omega))).trans hHeld.2.2.2.2.2.2.2.2.2⟩ : _ ∧ _ ∧ _ ∧ _ ∧ _ ∧ _ ∧ _ ∧ _ ∧ _ ∧ _)
          go_simp
          clear z0 z1 fz hno c9
          replace q5 := q9
          refine hKK.out _ _ hH2 ?_
          clear hHeld
          intro hHeld
          clear hKK KK
          try simp only [pP, pN, pS, pZ, pC]
          clear hH2
          generalize ((w47.setCell ⟨cq5, 0, none⟩ (.bool (ng T))).setCell ⟨cq5, 1, none⟩ (.slice pt (ln (am T)) (ln (am T)))) = w48 at bT h1 h3 hS q6 ks kt kg q5 hHeld ⊢
          refine wpAnyH_ready (rs := [16]) (by kernel_rfl) (by simp) ?_
          refine cons' rfl (fun KK hKK => ?_)
          have z0 := q6.cell 0
          have z1 := q6.cell 1
          simp only [List.getElem?_toArray, List.getElem?_cons_zero, List.getElem?_cons_succ] at z0 z1
          have fz := fun o => q6.frozen o
          obtain ⟨c9, q9⟩ := q6.set2s (.bool (ng G)) (.slice pg (ln (am G)) (ln (am G)))
          have hno := q6.no (by simp)
          replace h1 := h1.ch c9 hno
          replace h3 := h3.ch c9 hno
          replace hS := hS.ch c9 hno
          replace ks := ks.ch c9 hno
          replace kt := kt.ch c9 hno
          replace kg := kg.ch c9 hno
          replace q5 := q5.ch c9 (by omega)
          replace bT := bT.trans (c9.below (by omega))
          have hH2 := (⟨(World.cell?_of_block (w := w48) (a := ⟨w.heap.size, 0, none⟩) (c9.other (w.heap.size) (by omega))).trans hHeld.1, (World.cell?_of_block (w := w48) (a := ⟨w.heap.size, 1, none⟩) (c9.other (w.heap.size) (by omega))).trans hHeld.2.1, (World.cell?_of_block (w := w48) (a := ⟨w.heap.size, 2, none⟩) (c9.other (w.heap.size) (by omega))).trans hHeld.2.2.1, (World.cell?_of_block (w := w48) (a := ⟨w.heap.size, 3, none⟩) (c9.other (w.heap.size) (by omega))).trans hHeld.2.2.2.1, (World.cell?_of_block (w := w48) (a := ⟨w.heap.size, 4, none⟩) (c9.other (w.heap.size) (by omega))).trans hHeld.2.2.2.2.1, (World.cell?_of_block (w := w48) (a := ⟨w.heap.size, 5, none⟩) (c9.other (w.heap.size) (by omega))).trans hHeld.2.2.2.2.2.1, (World.cell?_of_block (w := w48) (a := ⟨w.heap.size, 6, none⟩) (c9.other (w.heap.size) (by omega))).trans hHeld.2.2.2.2.2.2.1, (World.cell?_of_block (w := w48) (a := ⟨w.heap.size, 7, none⟩) (c9.other (w.heap.size) (by omega))).trans hHeld.2.2.2.2.2.2.2.1, (World.cell?_of_block (w := w48) (a := ⟨w.heap.size + 1, 0, none⟩) (c9.other (w.heap.size + 1) (by omega))).trans hHeld.2.2.2.2.2.2.2.2.1, (World.cell?_of_block (w := w48) (a := ⟨w.heap.size + 1, 1, none⟩) (c9.other (w.heap.size + 1) (by omega))).trans hHeld.2.2.2.2.2.2.2.2.2⟩ : _ ∧ _ ∧ _ ∧ _ ∧ _ ∧ _ ∧ _ ∧ _ ∧ _ ∧ _)
          go_simp
          clear z0 z1 fz hno c9
          replace q6 := q9
          refine hKK.out _ _ hH2 ?_
          clear hHeld
          intro hHeld
          clear hKK KK
          try simp only [pP, pN, pS, pZ, pC]
          clear hH2
          generalize ((w48.setCell ⟨cq6, 0, none⟩ (.bool (ng G))).setCell ⟨cq6, 1, none⟩ (.slice pg (ln (am G)) (ln (am G)))) = w49 at bT h1 h3 hS q6 ks kt kg q5 hHeld ⊢
          refine tk 17 (v := ?_) rfl (Or.inl ⟨by rfl, ?_⟩) ?_
          rotate_left
          · intro w9 hSw
            go_simp
            first | done | with_reducible rfl
          simp only [pP, pN, pS, pZ, pC]
          refine wpAnyH_done (by kernel_rfl) ?_ _
          go_wp2_with fail
          go_meet
          exact ⟨_, cq5, cq6, pt, rfl, rfl, rfl, rfl, q5, kt, hq5ge, bT⟩
        refine consT rfl (fun KK hKK => ?_) ?_
        · skip
          go_simp
          have q5 := Blk.new w45 #[.bool false, .slice none 0 0] 25
          have bA := below_alloc (w := w45) (.cells #[.bool false, .slice none 0 0] 25)
          have hq5ge := bT.size
          have hq5q6 := q6.lt
          have hq5c0 := cell_ltU hHeld.1
          have hq5c1 := cell_ltU hHeld.2.1
          have hq5c2 := cell_ltU hHeld.2.2.1
          have hq5c3 := cell_ltU hHeld.2.2.2.1
          have hq5c4 := cell_ltU hHeld.2.2.2.2.1
          have hq5c5 := cell_ltU hHeld.2.2.2.2.2.1
          have hq5c6 := cell_ltU hHeld.2.2.2.2.2.2.1
          have hq5c7 := cell_ltU hHeld.2.2.2.2.2.2.2.1
          have hq5c8 := cell_ltU hHeld.2.2.2.2.2.2.2.2.1
          have hq5c9 := cell_ltU hHeld.2.2.2.2.2.2.2.2.2
          generalize w45.alloc (.cells #[.bool false, .slice none 0 0] 25) = w50 at q5 bA ⊢
          replace bT := bT.trans (bA.mono bT.size)
          replace h1 := h1.later bA
          replace h3 := h3.later bA
          replace hS := hS.later bA
          replace q6 := q6.later bA
          replace ks := ks.later bA
          replace hHeld := (⟨below_cell bA hHeld.1, below_cell bA hHeld.2.1, below_cell bA hHeld.2.2.1, below_cell bA hHeld.2.2.2.1, below_cell bA hHeld.2.2.2.2.1, below_cell bA hHeld.2.2.2.2.2.1, below_cell bA hHeld.2.2.2.2.2.2.1, below_cell bA hHeld.2.2.2.2.2.2.2.1, below_cell bA hHeld.2.2.2.2.2.2.2.2.1, below_cell bA hHeld.2.2.2.2.2.2.2.2.2⟩ : _ ∧ _ ∧ _ ∧ _ ∧ _ ∧ _ ∧ _ ∧ _ ∧ _ ∧ _)
          clear bA
          refine hKK.out _ _ hHeld ?_
          clear hHeld
          intro hHeld
          clear hKK KK
          try simp only [pP, pN, pS, pZ, pC]
          obtain ⟨cq5, hcc⟩ : ∃ cc, w45.heap.size = cc := ⟨_, rfl⟩
          rw [hcc] at q5 hq5ge hq5q6 hq5c0 hq5c1 hq5c2 hq5c3 hq5c4 hq5c5 hq5c6 hq5c7 hq5c8 hq5c9
          try rw [hcc]
          clear hcc
          refine wpAnyH_ready (rs := [8]) (by kernel_rfl) (by simp) ?_
          refine cons' rfl (fun KK hKK => ?_)
          go_simp
          refine (GF.out _ ps ks h3).mono ?_
          rintro e w51 ⟨pt, pg, rfl, n1, n2⟩
          have bC := n1.below
          replace bT := bT.trans (bC.mono bT.size)
          replace h1 := h1.later bC
          replace h3 := h3.later bC
          replace hS := hS.later bC
          replace q6 := q6.later bC
          replace ks := ks.later bC
          replace q5 := q5.later bC
          replace hHeld := (⟨below_cell bC hHeld.1, below_cell bC hHeld.2.1, below_cell bC hHeld.2.2.1, below_cell bC hHeld.2.2.2.1, below_cell bC hHeld.2.2.2.2.1, below_cell bC hHeld.2.2.2.2.2.1, below_cell bC hHeld.2.2.2.2.2.2.1, below_cell bC hHeld.2.2.2.2.2.2.2.1, below_cell bC hHeld.2.2.2.2.2.2.2.2.1, below_cell bC hHeld.2.2.2.2.2.2.2.2.2⟩ : _ ∧ _ ∧ _ ∧ _ ∧ _ ∧ _ ∧ _ ∧ _ ∧ _ ∧ _)
          clear bC
          go_wp2_with fail
          have kt := n1.seg
          have kg := n2.seg
          clear n1 n2
          refine hKK.out _ _ hHeld ?_
          clear hHeld
          intro hHeld
          clear hKK KK
          try simp only [pP, pN, pS, pZ, pC]
          refine tk 9 (v := ?_) rfl (Or.inl ⟨by rfl, ?_⟩) ?_
          rotate_left
          · intro w9 hSw
            go_simp
            first | done | with_reducible rfl
          simp only [pP, pN, pS, pZ, pC]
          refine tk 10 (v := ?_) rfl (Or.inl ⟨by rfl, ?_⟩) ?_
          rotate_left
          · intro w9 hSw
            go_simp
            first | done | with_reducible rfl
          simp only [pP, pN, pS, pZ, pC]
          refine tk 11 (v := ?_) rfl (Or.inl ⟨by rfl, ?_⟩) ?_
          rotate_left
          · intro w9 hSw
            go_simp
            first | done | with_reducible rfl
          simp only [pP, pN, pS, pZ, pC]
          refine tk 12 (v := ?_) rfl (Or.inl ⟨by rfl, ?_⟩) ?_
          rotate_left
          · intro w9 hSw
            go_simp
            first | done | with_reducible rfl
          simp only [pP, pN, pS, pZ, pC]
          refine wpAnyH_ready (rs := [15]) (by kernel_rfl) (by simp) ?_
          refine cons' rfl (fun KK hKK => ?_)
          have z0 := q5.cell 0
          have z1 := q5.cell 1
          simp only [List.getElem?_toArray, List.getElem?_cons_zero, List.getElem?_cons_succ] at z0 z1
          have fz := fun o => q5.frozen o
          obtain ⟨c9, q9⟩ := q5.set2s (.bool (ng T)) (.slice pt (ln (am T)) (ln (am T)))
          have hno := q5.no (by simp)
          replace h1 := h1.ch c9 hno
          replace h3 := h3.ch c9 hno
          replace hS := hS.ch c9 hno
          replace q6 := q6.ch c9 (by omega)
          replace ks := ks.ch c9 hno
          replace kt := kt.ch c9 hno
          replace kg := kg.ch c9 hno
          replace bT := bT.trans (c9.below (by omega))
          have hH2 := (⟨(World.cell?_of_block (w := w51) (a := ⟨w.heap.size, 0, none⟩) (c9.other (w.heap.size) (by omega))).trans hHeld.1, (World.cell?_of_block (w := w51) (a := ⟨w.heap.size, 1, none⟩) (c9.other (w.heap.size) (by omega))).trans hHeld.2.1, (World.cell?_of_block (w := w51) (a := ⟨w.heap.size, 2, none⟩) (c9.other (w.heap.size) (by omega))).trans hHeld.2.2.1, (World.cell?_of_block (w := w51) (a := ⟨w.heap.size, 3, none⟩) (c9.other (w.heap.size) (by omega))).trans hHeld.2.2.2.1, (World.cell?_of_block (w := w51) (a := ⟨w.heap.size, 4, none⟩) (c9.other (w.heap.size) (by omega))).trans hHeld.2.2.2.2.1, (World.cell?_of_block (w := w51) (a := ⟨w.heap.size, 5, none⟩) (c9.other (w.heap.size) (by omega))).trans hHeld.2.2.2.2.2.1, (World.cell?_of_block (w := w51) (a := ⟨w.heap.size, 6, none⟩) (c9.other (w.heap.size) (by omega))).trans hHeld.2.2.2.2.2.2.1, (World.cell?_of_block (w := w51) (a := ⟨w.heap.size, 7, none⟩) (c9.other (w.heap.size) (by omega))).trans hHeld.2.2.2.2.2.2.2.1, (World.cell?_of_block (w := w51) (a := ⟨w.heap.size + 1, 0, none⟩) (c9.other (w.heap.size + 1) (by omega))).trans hHeld.2.2.2.2.2.2.2.2.1, (World.cell?_of_block (w := w51) (a := ⟨w.heap.size + 1, 1, none⟩) (c9.other (w.heap.size + 1) (by omega))).trans hHeld.2.2.2.2.2.2.2.2.2⟩ : _ ∧ _ ∧ _ ∧ _ ∧ _ ∧ _ ∧ _ ∧ _ ∧ _ ∧ _)
          go_simp
          clear z0 z1 fz hno c9
          replace q5 := q9
          refine hKK.out _ _ hH2 ?_
          clear hHeld
          intro hHeld
          clear hKK KK
          try simp only [pP, pN, pS, pZ, pC]
          clear hH2
          generalize ((w51.setCell ⟨cq5, 0, none⟩ (.bool (ng T))).setCell ⟨cq5, 1, none⟩ (.slice pt (ln (am T)) (ln (am T)))) = w52 at bT h1 h3 hS q6 ks q5 kt kg hHeld ⊢
          refine wpAnyH_ready (rs := [16]) (by kernel_rfl) (by simp) ?_
          refine cons' rfl (fun KK hKK => ?_)
          have z0 := q6.cell 0
          have z1 := q6.cell 1
          simp only [List.getElem?_toArray, List.getElem?_cons_zero, List.getElem?_cons_succ] at z0 z1
          have fz := fun o => q6.frozen o
          obtain ⟨c9, q9⟩ := q6.set2s (.bool (ng G)) (.slice pg (ln (am G)) (ln (am G)))
          have hno := q6.no (by simp)
          replace h1 := h1.ch c9 hno
          replace h3 := h3.ch c9 hno
          replace hS := hS.ch c9 hno
          replace ks := ks.ch c9 hno
          replace q5 := q5.ch c9 (by omega)
          replace kt := kt.ch c9 hno
          replace kg := kg.ch c9 hno
          replace bT := bT.trans (c9.below (by omega))
          have hH2 := (⟨(World.cell?_of_block (w := w52) (a := ⟨w.heap.size, 0, none⟩) (c9.other (w.heap.size) (by omega))).trans hHeld.1, (World.cell?_of_block (w := w52) (a := ⟨w.heap.size, 1, none⟩) (c9.other (w.heap.size) (by omega))).trans hHeld.2.1, (World.cell?_of_block (w := w52) (a := ⟨w.heap.size, 2, none⟩) (c9.other (w.heap.size) (by omega))).trans hHeld.2.2.1, (World.cell?_of_block (w := w52) (a := ⟨w.heap.size, 3, none⟩) (c9.other (w.heap.size) (by omega))).trans hHeld.2.2.2.1, (World.cell?_of_block (w := w52) (a := ⟨w.heap.size, 4, none⟩) (c9.other (w.heap.size) (by omega))).trans hHeld.2.2.2.2.1, (World.cell?_of_block (w := w52) (a := ⟨w.heap.size, 5, none⟩) (c9.other (w.heap.size) (by omega))).trans hHeld.2.2.2.2.2.1, (World.cell?_of_block (w := w52) (a := ⟨w.heap.size, 6, none⟩) (c9.other (w.heap.size) (by omega))).trans hHeld.2.2.2.2.2.2.1, (World.cell?_of_block (w := w52) (a := ⟨w.heap.size, 7, none⟩) (c9.other (w.heap.size) (by omega))).trans hHeld.2.2.2.2.2.2.2.1, (World.cell?_of_block (w := w52) (a := ⟨w.heap.size + 1, 0, none⟩) (c9.other (w.heap.size + 1) (by omega))).trans hHeld.2.2.2.2.2.2.2.2.1, (World.cell?_of_block (w := w52) (a := ⟨w.heap.size + 1, 1, none⟩) (c9.other (w.heap.size + 1) (by omega))).trans hHeld.2.2.2.2.2.2.2.2.2⟩ : _ ∧ _ ∧ _ ∧ _ ∧ _ ∧ _ ∧ _ ∧ _ ∧ _ ∧ _)
          go_simp
          clear z0 z1 fz hno c9
          replace q6 := q9
          refine hKK.out _ _ hH2 ?_
          clear hHeld
          intro hHeld
          clear hKK KK
          try simp only [pP, pN, pS, pZ, pC]
          clear hH2
          generalize ((w52.setCell ⟨cq6, 0, none⟩ (.bool (ng G))).setCell ⟨cq6, 1, none⟩ (.slice pg (ln (am G)) (ln (am G)))) = w53 at bT h1 h3 hS q6 ks q5 kt kg hHeld ⊢
          refine tk 17 (v := ?_) rfl (Or.inl ⟨by rfl, ?_⟩) ?_
          rotate_left
          · intro w9 hSw
            go_simp
            first | done | with_reducible rfl
          simp only [pP, pN, pS, pZ, pC]
          refine wpAnyH_done (by kernel_rfl) ?_ _
          go_wp2_with fail
          go_meet
          exact ⟨_, cq5, cq6, pt, rfl, rfl, rfl, rfl, q5, kt, hq5ge, bT⟩
        exact AllReadyH.nil
      refine consT rfl (fun KK hKK => ?_) ?_
      · skip
        go_simp
        have q5 := Blk.new w44 #[.bool false, .slice none 0 0] 25
        have bA := below_alloc (w := w44) (.cells #[.bool false, .slice none 0 0] 25)
        have hq5ge := bT.size
        have hq5q6 := q6.lt
        have hq5c0 := cell_ltU hHeld.1
        have hq5c1 := cell_ltU hHeld.2.1
        have hq5c2 := cell_ltU hHeld.2.2.1
        have hq5c3 := cell_ltU hHeld.2.2.2.1
        have hq5c4 := cell_ltU hHeld.2.2.2.2.1
        have hq5c5 := cell_ltU hHeld.2.2.2.2.2.1
        have hq5c6 := cell_ltU hHeld.2.2.2.2.2.2.1
        have hq5c7 := cell_ltU hHeld.2.2.2.2.2.2.2.1
        have hq5c8 := cell_ltU hHeld.2.2.2.2.2.2.2.2.1
        have hq5c9 := cell_ltU hHeld.2.2.2.2.2.2.2.2.2
        generalize w44.alloc (.cells #[.bool false, .slice none 0 0] 25) = w54 at q5 bA ⊢
        replace bT := bT.trans (bA.mono bT.size)
        replace h1 := h1.later bA
        replace h3 := h3.later bA
        replace hS := hS.later bA
        replace q6 := q6.later bA
        replace hHeld := (⟨below_cell bA hHeld.1, below_cell bA hHeld.2.1, below_cell bA hHeld.2.2.1, below_cell bA hHeld.2.2.2.1, below_cell bA hHeld.2.2.2.2.1, below_cell bA hHeld.2.2.2.2.2.1, below_cell bA hHeld.2.2.2.2.2.2.1, below_cell bA hHeld.2.2.2.2.2.2.2.1, below_cell bA hHeld.2.2.2.2.2.2.2.2.1, below_cell bA hHeld.2.2.2.2.2.2.2.2.2⟩ : _ ∧ _ ∧ _ ∧ _ ∧ _ ∧ _ ∧ _ ∧ _ ∧ _ ∧ _)
        clear bA
        refine hKK.out _ _ hHeld ?_
        clear hHeld
        intro hHeld
        clear hKK KK
        try simp only [pP, pN, pS, pZ, pC]
        obtain ⟨cq5, hcc⟩ : ∃ cc, w44.heap.size = cc := ⟨_, rfl⟩
        rw [hcc] at q5 hq5ge hq5q6 hq5c0 hq5c1 hq5c2 hq5c3 hq5c4 hq5c5 hq5c6 hq5c7 hq5c8 hq5c9
        try rw [hcc]
        clear hcc
        refine wpAnyH_ready (rs := [4]) (by kernel_rfl) (by simp) ?_
        refine cons' rfl (fun KK hKK => ?_)
        go_simp
        refine (GS.out _ hS h1).mono ?_
        rintro e w55 ⟨ps, rfl, n1⟩
        have bC := n1.below
        replace bT := bT.trans (bC.mono bT.size)
        replace h1 := h1.later bC
        replace h3 := h3.later bC
        replace hS := hS.later bC
        replace q6 := q6.later bC
        replace q5 := q5.later bC
        replace hHeld := (⟨below_cell bC hHeld.1, below_cell bC hHeld.2.1, below_cell bC hHeld.2.2.1, below_cell bC hHeld.2.2.2.1, below_cell bC hHeld.2.2.2.2.1, below_cell bC hHeld.2.2.2.2.2.1, below_cell bC hHeld.2.2.2.2.2.2.1, below_cell bC hHeld.2.2.2.2.2.2.2.1, below_cell bC hHeld.2.2.2.2.2.2.2.2.1, below_cell bC hHeld.2.2.2.2.2.2.2.2.2⟩ : _ ∧ _ ∧ _ ∧ _ ∧ _ ∧ _ ∧ _ ∧ _ ∧ _ ∧ _)
        clear bC
        go_wp2_with fail
        have ks := n1.seg
        clear n1
        refine hKK.out _ _ hHeld ?_
        clear hHeld
        intro hHeld
        clear hKK KK
        try simp only [pP, pN, pS, pZ, pC]
        refine wpAnyH_ready (rs := [8]) (by kernel_rfl) (by simp) ?_
        refine cons' rfl (fun KK hKK => ?_)
        go_simp
        refine (GF.out _ ps ks h3).mono ?_
        rintro e w56 ⟨pt, pg, rfl, n1, n2⟩
        have bC := n1.below
        replace bT := bT.trans (bC.mono bT.size)
        replace h1 := h1.later bC
        replace h3 := h3.later bC
        replace hS := hS.later bC
        replace q6 := q6.later bC
        replace q5 := q5.later bC
        replace ks := ks.later bC
        replace hHeld := (⟨below_cell bC hHeld.1, below_cell bC hHeld.2.1, below_cell bC hHeld.2.2.1, below_cell bC hHeld.2.2.2.1, below_cell bC hHeld.2.2.2.2.1, below_cell bC hHeld.2.2.2.2.2.1, below_cell bC hHeld.2.2.2.2.2.2.1, below_cell bC hHeld.2.2.2.2.2.2.2.1, below_cell bC hHeld.2.2.2.2.2.2.2.2.1, below_cell bC hHeld.2.2.2.2.2.2.2.2.2⟩ : _ ∧ _ ∧ _ ∧ _ ∧ _ ∧ _ ∧ _ ∧ _ ∧ _ ∧ _)
        clear bC
        go_wp2_with fail
        have kt := n1.seg
        have kg := n2.seg
        clear n1 n2
        refine hKK.out _ _ hHeld ?_
        clear hHeld
        intro hHeld
        clear hKK KK
        try simp only [pP, pN, pS, pZ, pC]
        refine tk 9 (v := ?_) rfl (Or.inl ⟨by rfl, ?_⟩) ?_
        rotate_left
        · intro w9 hSw
          go_simp
          first | done | with_reducible rfl
        simp only [pP, pN, pS, pZ, pC]
        refine tk 10 (v := ?_) rfl (Or.inl ⟨by rfl, ?_⟩) ?_
        rotate_left
        · intro w9 hSw
          go_simp
          first | done | with_reducible rfl
        simp only [pP, pN, pS, pZ, pC]
        refine tk 11 (v := ?_) rfl (Or.inl ⟨by rfl, ?_⟩) ?_
        rotate_left
        · intro w9 hSw
          go_simp
          first | done | with_reducible rfl
        simp only [pP, pN, pS, pZ, pC]
        refine tk 12 (v := ?_) rfl (Or.inl ⟨by rfl, ?_⟩) ?_
        rotate_left
        · intro w9 hSw
          go_simp
          first | done | with_reducible rfl
        simp only [pP, pN, pS, pZ, pC]
        refine wpAnyH_ready (rs := [15]) (by kernel_rfl) (by simp) ?_
        refine cons' rfl (fun KK hKK => ?_)
        have z0 := q5.cell 0
        have z1 := q5.cell 1
        simp only [List.getElem?_toArray, List.getElem?_cons_zero, List.getElem?_cons_succ] at z0 z1
        have fz := fun o => q5.frozen o
        obtain ⟨c9, q9⟩ := q5.set2s (.bool (ng T)) (.slice pt (ln (am T)) (ln (am T)))
        have hno := q5.no (by simp)
        replace h1 := h1.ch c9 hno
        replace h3 := h3.ch c9 hno
        replace hS := hS.ch c9 hno
        replace q6 := q6.ch c9 (by omega)
        replace ks := ks.ch c9 hno
        replace kt := kt.ch c9 hno
        replace kg := kg.ch c9 hno
        replace bT := bT.trans (c9.below (by omega))
        have hH2 := (⟨(World.cell?_of_block (w := w56) (a := ⟨w.heap.size, 0, none⟩) (c9.other (w.heap.size) (by omega))).trans hHeld.1, (World.cell?_of_block (w := w56) (a := ⟨w.heap.size, 1, none⟩) (c9.other (w.heap.size) (by omega))).trans hHeld.2.1, (World.cell?_of_block (w := w56) (a := ⟨w.heap.size, 2, none⟩) (c9.other (w.heap.size) (by omega))).trans hHeld.2.2.1, (World.cell?_of_block (w := w56) (a := ⟨w.heap.size, 3, none⟩) (c9.other (w.heap.size) (by omega))).trans hHeld.2.2.2.1, (World.cell?_of_block (w := w56) (a := ⟨w.heap.size, 4, none⟩) (c9.other (w.heap.size) (by omega))).trans hHeld.2.2.2.2.1, (World.cell?_of_block (w := w56) (a := ⟨w.heap.size, 5, none⟩) (c9.other (w.heap.size) (by omega))).trans hHeld.2.2.2.2.2.1, (World.cell?_of_block (w := w56) (a := ⟨w.heap.size, 6, none⟩) (c9.other (w.heap.size) (by omega))).trans hHeld.2.2.2.2.2.2.1, (World.cell?_of_block (w := w56) (a := ⟨w.heap.size, 7, none⟩) (c9.other (w.heap.size) (by omega))).trans hHeld.2.2.2.2.2.2.2.1, (World.cell?_of_block (w := w56) (a := ⟨w.heap.size + 1, 0, none⟩) (c9.other (w.heap.size + 1) (by omega))).trans hHeld.2.2.2.2.2.2.2.2.1, (World.cell?_of_block (w := w56) (a := ⟨w.heap.size + 1, 1, none⟩) (c9.other (w.heap.size + 1) (by omega))).trans hHeld.2.2.2.2.2.2.2.2.2⟩ : _ ∧ _ ∧ _ ∧ _ ∧ _ ∧ _ ∧ _ ∧ _ ∧ _ ∧ _)
        go_simp
        clear z0 z1 fz hno c9
        replace q5 := q9
        refine hKK.out _ _ hH2 ?_
        clear hHeld
        intro hHeld
        clear hKK KK
        try simp only [pP, pN, pS, pZ, pC]
        clear hH2
        generalize ((w56.setCell ⟨cq5, 0, none⟩ (.bool (ng T))).setCell ⟨cq5, 1, none⟩ (.slice pt (ln (am T)) (ln (am T)))) = w57 at bT h1 h3 hS q6 q5 ks kt kg hHeld ⊢
        refine wpAnyH_ready (rs := [16]) (by kernel_rfl) (by simp) ?_
        refine cons' rfl (fun KK hKK => ?_)
        have z0 := q6.cell 0
        have z1 := q6.cell 1
        simp only [List.getElem?_toArray, List.getElem?_cons_zero, List.getElem?_cons_succ] at z0 z1
        have fz := fun o => q6.frozen o
        obtain ⟨c9, q9⟩ := q6.set2s (.bool (ng G)) (.slice pg (ln (am G)) (ln (am G)))
        have hno := q6.no (by simp)
        replace h1 := h1.ch c9 hno
        replace h3 := h3.ch c9 hno
        replace hS := hS.ch c9 hno
        replace q5 := q5.ch c9 (by omega)
        replace ks := ks.ch c9 hno
        replace kt := kt.ch c9 hno
        replace kg := kg.ch c9 hno
        replace bT := bT.trans (c9.below (by omega))
        have hH2 := (⟨(World.cell?_of_block (w := w57) (a := ⟨w.heap.size, 0, none⟩) (c9.other (w.heap.size) (by omega))).trans hHeld.1, (World.cell?_of_block (w := w57) (a := ⟨w.heap.size, 1, none⟩) (c9.other (w.heap.size) (by omega))).trans hHeld.2.1, (World.cell?_of_block (w := w57) (a := ⟨w.heap.size, 2, none⟩) (c9.other (w.heap.size) (by omega))).trans hHeld.2.2.1, (World.cell?_of_block (w := w57) (a := ⟨w.heap.size, 3, none⟩) (c9.other (w.heap.size) (by omega))).trans hHeld.2.2.2.1, (World.cell?_of_block (w := w57) (a := ⟨w.heap.size, 4, none⟩) (c9.other (w.heap.size) (by omega))).trans hHeld.2.2.2.2.1, (World.cell?_of_block (w := w57) (a := ⟨w.heap.size, 5, none⟩) (c9.other (w.heap.size) (by omega))).trans hHeld.2.2.2.2.2.1, (World.cell?_of_block (w := w57) (a := ⟨w.heap.size, 6, none⟩) (c9.other (w.heap.size) (by omega))).trans hHeld.2.2.2.2.2.2.1, (World.cell?_of_block (w := w57) (a := ⟨w.heap.size, 7, none⟩) (c9.other (w.heap.size) (by omega))).trans hHeld.2.2.2.2.2.2.2.1, (World.cell?_of_block (w := w57) (a := ⟨w.heap.size + 1, 0, none⟩) (c9.other (w.heap.size + 1) (by omega))).trans hHeld.2.2.2.2.2.2.2.2.1, (World.cell?_of_block (w := w57) (a := ⟨w.heap.size + 1, 1, none⟩) (c9.other (w.heap.size + 1) (by omega))).trans hHeld.2.2.2.2.2.2.2.2.2⟩ : _ ∧ _ ∧ _ ∧ _ ∧ _ ∧ _ ∧ _ ∧ _ ∧ _ ∧ _)
        go_simp
        clear z0 z1 fz hno c9
        replace q6 := q9
        refine hKK.out _ _ hH2 ?_
        clear hHeld
        intro hHeld
        clear hKK KK
        try simp only [pP, pN, pS, pZ, pC]
        clear hH2
        generalize ((w57.setCell ⟨cq6, 0, none⟩ (.bool (ng G))).setCell ⟨cq6, 1, none⟩ (.slice pg (ln (am G)) (ln (am G)))) = w58 at bT h1 h3 hS q6 q5 ks kt kg hHeld ⊢
        refine tk 17 (v := ?_) rfl (Or.inl ⟨by rfl, ?_⟩) ?_
        rotate_left
        · intro w9 hSw
          go_simp
          first | done | with_reducible rfl
        simp only [pP, pN, pS, pZ, pC]
        refine wpAnyH_done (by kernel_rfl) ?_ _
        go_wp2_with fail
        go_meet
        exact ⟨_, cq5, cq6, pt, rfl, rfl, rfl, rfl, q5, kt, hq5ge, bT⟩
      exact AllReadyH.nil
    exact AllReadyH.nil
  case rest =>
    obtain ⟨wc59, c5, c6, pt, hwv, rfl, rfl, rfl, q5, kt, g5, bT⟩ := hcut
    subst hwv
    replace h0 := h0.later bT
    replace h1 := h1.later bT
    replace h2 := h2.later bT
    replace h3 := h3.later bT
    replace hS := hS.later bT
    replace qv := qv.later bT
    replace ql := ql.later bT
    replace qo := qo.later bT
    replace bel := bel.trans (bT.mono bel.size)
    clear bT
    clear GS GF hbs
    have qv_0 := qv.cell 0
    have qv_1 := qv.cell 1
    have qv_2 := qv.cell 2
    have qv_3 := qv.cell 3
    have qv_4 := qv.cell 4
    have qv_5 := qv.cell 5
    have qv_6 := qv.cell 6
    have qv_7 := qv.cell 7
    have q5_0 := q5.cell 0
    have q5_1 := q5.cell 1
    simp only [List.getElem?_toArray, List.getElem?_cons_zero, List.getElem?_cons_succ] at qv_0 qv_1 qv_2 qv_3 qv_4 qv_5 qv_6 qv_7 q5_0 q5_1
    go_wp2_with fail
    clear qv_0 qv_1 qv_2 qv_3 qv_4 qv_5 qv_6 qv_7 q5_0 q5_1
    refine (GM.out _ pt h0 h1 h2 h3 kt).mono ?_
    rintro e w60 ⟨pa, pb, rfl, b1, ka, kb⟩
    have bb := b1
    replace h0 := h0.later bb
    replace h1 := h1.later bb
    replace h2 := h2.later bb
    replace h3 := h3.later bb
    replace hS := hS.later bb
    replace qv := qv.later bb
    replace ql := ql.later bb
    replace qo := qo.later bb
    replace kt := kt.later bb
    replace q5 := q5.later bb
    replace bel := bel.trans (bb.mono bel.size)
    clear bb
    clear b1
    clear qv ql q5 h0 h1 h2 h3 hS kt
    have qo_0 := qo.cell 0
    have qo_1 := qo.cell 1
    have qo_2 := qo.cell 2
    have qo_3 := qo.cell 3
    simp only [List.getElem?_toArray, List.getElem?_cons_zero, List.getElem?_cons_succ] at qo_0 qo_1 qo_2 qo_3
    have fz := fun o => qo.frozen o
    go_wp2
    obtain ⟨c9, q9⟩ := qo.set4 (.bool (ng A)) (.slice pa (ln (am A)) (ln (am A))) (.bool (ng B)) (.slice pb (ln (am B)) (ln (am B)))
    have hno := qo.no (by simp)
    replace ka := ka.ch c9 hno
    replace kb := kb.ch c9 hno
    replace bel := bel.trans (c9.below (by omega))
    clear qo_0 qo_1 qo_2 qo_3
    clear fz hno
    replace qo := q9
    have qo_0 := qo.cell 0
    have qo_1 := qo.cell 1
    have qo_2 := qo.cell 2
    have qo_3 := qo.cell 3
    simp only [List.getElem?_toArray, List.getElem?_cons_zero, List.getElem?_cons_succ] at qo_0 qo_1 qo_2 qo_3
    refine bodyPost_ret (v := .agg #[.bool (ng A), .slice pa (ln (am A)) (ln (am A)), .bool (ng B), .slice pb (ln (am B)) (ln (am B))]) (by rw [results_cell rfl]; go_simp) rfl ?_
    exact ⟨pa, pb, rfl, bel, ka, kb⟩
end Go.Proofs.YtejlnodillnoaaaGreatDoor
