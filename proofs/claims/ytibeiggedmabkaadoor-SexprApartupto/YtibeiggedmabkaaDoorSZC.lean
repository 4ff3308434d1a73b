/-
  SexprApart: the walk.
-/
import Derived.Test.YtibeiggedmabkaaDoorSZA
import Derived.Test.YtibeiggedmabkaaDoorSZB
namespace Go.Proofs.YtibeiggedmabkaaDoor
open Go.RowKit
set_option linter.unusedVariables false
set_option linter.unusedSimpArgs false
set_option maxHeartbeats 16000000 in
set_option maxRecDepth 100000 in
theorem apart_walk (a1 : Option Addr) (n1 cc1 : Nat) (g1 : Nat → ByteArray) (a2 : Option Addr) (n2 cc2 : Nat) (g2 : Nat → ByteArray) (w : World) (hS1 : StrsAt w a1 n1 g1) (hS2 : StrsAt w a2 n2 g2) (ht1 : tots g1 n1 ≤ 1048576) (ht2 : tots g2 n2 ≤ 1048576) (hn1 : n1 ≤ 1048576) (hn2 : n2 ≤ 1048576) (hM : MaxL w) (hmx : mxB < w.heap.size) : Calls Tryd.prog 8 #[.slice a1 n1 cc1, .slice a2 n2 cc2] w fun r w' => r = .returned (.bool true) ∧ Below w.heap.size w w' := by
  have GN := hideT (newI w hmx)
  go_enter Tryd.func8, Tryd.ntmps8
  go_wp2_with fail
  refine GN.out.mono ?_
  rintro e w1 ⟨b1, sc1, Xa, rfl, r1, hb1⟩
  clear GN
  have hM1 := hM.on hb1
  have hmx1 := Nat.lt_of_lt_of_le hmx hb1.size
  have GN := hideT (newI w1 hmx1)
  go_wp2_with fail
  refine GN.out.mono ?_
  rintro e w2 ⟨b2, sc2, Xb, rfl, r2, hb2⟩
  clear GN
  have hM2 := hM1.on hb2
  have hmx2 := Nat.lt_of_lt_of_le hmx1 hb2.size
  have tw := TwoI.new r1 r2 hb2
  have GL := hideT (lives_is w2 hM2 hmx2)
  generalize hB2 : w1.heap.size = B2 at tw
  have hwB : w.heap.size ≤ B2 := by rw [← hB2]; exact hb1.size
  have hB := hb1.trans (hb2.mono hb1.size)
  clear hB2 r1 r2 hM1
  go_wp2_with fail
  refine GL.out.mono ?_
  rintro e w3 ⟨rfl, b3⟩
  clear GL
  replace tw := tw.later b3
  have hM3 := hM2.on b3
  replace hB := hB.trans (b3.mono hB.size)
  clear hM2 hb1 hb2 b3
  have sz4 : (w3.alloc (.cells #[.string ⟨#[]⟩, .int .i64 0, .int .i64 0, .bool false, .int .i64 0, .int .i64 0] 40)).heap.size = w3.heap.size + 1 := by simp
  have b4 := below_alloc (w := w3) (.cells #[.string ⟨#[]⟩, .int .i64 0, .int .i64 0, .bool false, .int .i64 0, .int .i64 0] 40)
  have qa := Blk.new w3 #[.string ⟨#[]⟩, .int .i64 0, .int .i64 0, .bool false, .int .i64 0, .int .i64 0] 40
  have t4 := tw.later b4
  have m4 := hM3.on b4
  have h4 := hB.trans (b4.mono hB.size)
  have b5 := below_alloc (w := w3.alloc (.cells #[.string ⟨#[]⟩, .int .i64 0, .int .i64 0, .bool false, .int .i64 0, .int .i64 0] 40)) (.cells #[.string ⟨#[]⟩, .int .i64 0, .int .i64 0, .bool false, .int .i64 0, .int .i64 0] 40)
  have qb := Blk.new (w3.alloc (.cells #[.string ⟨#[]⟩, .int .i64 0, .int .i64 0, .bool false, .int .i64 0, .int .i64 0] 40)) #[.string ⟨#[]⟩, .int .i64 0, .int .i64 0, .bool false, .int .i64 0, .int .i64 0] 40
  replace qa := qa.later b5
  have t5 := t4.later b5
  have m5 := m4.on b5
  have h5 := h4.trans (b5.mono h4.size)
  have b6 := below_alloc (w := (w3.alloc (.cells #[.string ⟨#[]⟩, .int .i64 0, .int .i64 0, .bool false, .int .i64 0, .int .i64 0] 40)).alloc (.cells #[.string ⟨#[]⟩, .int .i64 0, .int .i64 0, .bool false, .int .i64 0, .int .i64 0] 40)) (.cells #[] 34)
  replace qa := qa.later b6
  replace qb := qb.later b6
  have t6 := t5.later b6
  have m6 := m5.on b6
  have h6 := h5.trans (b6.mono h5.size)
  rw [sz4] at qb
  have x1 : ∀ k, Xa k → k < w3.heap.size := fun k hk => (tw.one.xb.1 k hk).2
  have x2 : ∀ k, Xb k → k < w3.heap.size := fun k hk => (tw.two.xb.1 k hk).2
  have hX : ¬ Xa w3.heap.size ∧ ¬ Xa (w3.heap.size + 1) ∧ ¬ Xb w3.heap.size ∧ ¬ Xb (w3.heap.size + 1) := ⟨fun c => by have := x1 _ c; omega, fun c => by have := x1 _ c; omega, fun c => by have := x2 _ c; omega, fun c => by have := x2 _ c; omega⟩
  have INI := hideT (And.intro qa (And.intro qb (And.intro t6 (And.intro m6 (And.intro h6 hX)))))
  have hbs := hB.size
  clear x1 x2 hX qa qb t4 t5 t6 m4 m5 m6 h4 h5 h6 b4 b5 b6 sz4 tw hM3 hB hmx1 hmx2
  go_wp2_with fail
  generalize hc1 : w3.heap.size = c1 at INI hbs ⊢
  clear hc1
  have hne : c1 < c1 + 1 := by omega
  generalize hc2 : c1 + 1 = c2 at INI hne ⊢
  clear hc2
  go_loopw [11] (fun i wr => ∃ (k : Nat) (rs1 rs2 : RS) (X1 P1 X2 P2 : Nat → Prop) (tx1 : ByteArray) (told1 : Nat) (ov1 : Bool) (co1 qq1 : Int) (tx2 : ByteArray) (told2 : Nat) (ov2 : Bool) (co2 qq2 : Int), k ≤ n1 + n2 ∧ i = .int .i64 k ∧ Blk wr c1 #[.string tx1, .int .i64 (told1 : Nat), .int .i64 (depF rs1), .bool ov1, .int .i64 co1, .int .i64 qq1] 40 ∧ Blk wr c2 #[.string tx2, .int .i64 (told2 : Nat), .int .i64 (depF rs2), .bool ov2, .int .i64 co2, .int .i64 qq2] 40 ∧ TwoI wr w.heap.size b1 sc1 X1 P1 rs1 B2 b2 sc2 X2 P2 rs2 ∧ RfR rs1 tx1 told1 (depF rs1) ov1 co1 qq1 ∧ RfR rs2 tx2 told2 (depF rs2) ov2 co2 qq2 ∧ (¬ X1 c1 ∧ ¬ X1 c2 ∧ ¬ X2 c1 ∧ ¬ X2 c2) ∧ MaxL wr ∧ Below w.heap.size w wr ∧ (∀ o p, rs1 = .go o p → p.rd ≤ tots g1 (min k n1)) ∧ tx1.size ≤ tots g1 (min k n1) ∧ (∀ o p, rs2 = .go o p → p.rd ≤ tots g2 (min k n2)) ∧ tx2.size ≤ tots g2 (min k n2)) (fun i _ => n1 + n2 - (intOf i).toNat)
  case atStart => exact ⟨0, rs0, rs0, _, _, _, _, ⟨#[]⟩, 0, false, 0, 0, ⟨#[]⟩, 0, false, 0, 0, Nat.zero_le _, rfl, INI.out.1, INI.out.2.1, INI.out.2.2.1, rfR_zero, rfR_zero, INI.out.2.2.2.2.2, INI.out.2.2.2.1, INI.out.2.2.2.2.1, fun o p e => by injection e with _ e2; rw [← e2]; exact Nat.zero_le _, Nat.zero_le _, fun o p e => by injection e with _ e2; rw [← e2]; exact Nat.zero_le _, Nat.zero_le _⟩
  case round =>
    clear INI
    obtain ⟨k, rs1, rs2, X1, P1, X2, P2, tx1, told1, ov1, co1, qq1, tx2, told2, ov2, co2, qq2, hk, rfl, qc1, qc2, tw, rf1, rf2, ⟨hX11, hX12, hX21, hX22⟩, hMr, hBr, hrd1, htx1, hrd2, htx2⟩ := hrel
    by_cases hkl1 : k < n1
    · have hki1 : (k : Int) < (n1 : Int) := by omega
      by_cases hkl2 : k < n2
      · have hki2 : (k : Int) < (n2 : Int) := by omega
        obtain ⟨bq, off, hac, hcell⟩ := hS1 (by omega)
        have hcz := below_at hBr (World.block_lt_of_cell? w _ (hcell k hkl1)) (hcell k hkl1)
        subst hac
        have htk : tots g1 (k + 1) = tots g1 k + (g1 k).size := rfl
        have htm := tots_mono g1 (show k + 1 ≤ n1 by omega)
        obtain ⟨pc, hpc⟩ : ∃ pc, g1 k = pc := ⟨_, rfl⟩
        rw [hpc] at hcz htk
        have HC0 := hideT (hcell k hkl1)
        rw [hpc] at HC0
        have hpl : pc.data.toList.length = pc.size := by rw [Array.length_toList]; rfl
        rw [show min k n1 = k by omega] at hrd1 htx1
        have rI := tw.one
        have G1 := hideT (feedR2 rI pc hMr (fun o p e => by have := hrd1 o p e; omega))
        have hRD1 := feedF_rdR (rs := rs1) (S := pc.data.toList) (B := tots g1 k) (fun o p e => ⟨(e ▸ rI).inv, hrd1 o p e⟩)
        have hfew := feedF_few rs1 pc.data.toList
        have G2 := hideT (fun W => vfeedR rf1 pc W (by omega))
        have hlow := rI.low
        clear rI
        rcases hx : feedF rs1 pc.data.toList with ⟨N2, e2, rs1n⟩
        simp only [hx] at G1 G2 hfew hRD1
        rw [hpl] at hRD1 hfew
        have HT1 := hideT htk
        have hsmall : N2.length ≤ 1099511627776 := by omega
        have hpcs : tots g1 k + pc.size ≤ 1048576 := by omega
        clear htk htm hpl hpc hx hcell
        go_wp2_with fail
        refine G1.out.mono ?_
        rintro e w4 ⟨v1, rfl, fd, ch2⟩
        clear G1
        obtain ⟨Q1, nd1, hty⟩ := fd.nd (by omega)
        have ch := ch2.chg
        obtain ⟨X1n, P1n, tw2, mX⟩ := TwoI.fed (tw) fd ch2
        have l1 := qc1.lt
        have l2 := qc2.lt
        replace qc1 := ch.blk qc1 hX11 (by decide) (by decide)
        have hX1n1 : ¬ X1n c1 := fun c => hX11 (mX c1 c l1)
        replace qc2 := ch.blk qc2 hX12 (by decide) (by decide)
        have hX1n2 : ¬ X1n c2 := fun c => hX12 (mX c2 c l2)
        replace hMr := ch.maxL hMr (by omega)
        replace hBr := hBr.trans (ch.below hlow (Nat.le_refl _))
        obtain ⟨va, vc, ev1⟩ := nd1.sl
        subst ev1
        clear ch ch2 mX tw l1 l2 fd hlow hX11 hX12
        have tw := tw2
        clear tw2
        have hcz4 := below_at hBr (World.block_lt_of_cell? w _ HC0.out) HC0.out
        have hbq : bq < w.heap.size := World.block_lt_of_cell? w _ HC0.out
        clear hcz HC0
        go_wp2_with fail
        have bD : Below w4.heap.size w4 w4.drew := (Below.refl _ _).drew
        have khcz4 := below_cell bD hcz4
        replace tw := tw.later bD
        replace hty := fun g hg => (hty g hg).of (bD.block g (hty g hg).lt)
        replace nd1 := nd1.on bD
        replace hMr := hMr.on bD
        replace hBr := hBr.trans (bD.mono hBr.size)
        replace qc1 := qc1.later bD
        replace qc2 := qc2.later bD
        refine wp_region_held_drew (S := fun w' => w'.cell? ⟨bq, off + k, none⟩ = some (.string pc)) (by kernel_rfl) khcz4 (fun hHeld => ?_)
        clear khcz4
        generalize w4.drew = w5 at bD tw nd1 hMr hBr hty qc1 qc2 hHeld ⊢
        clear bD hcz4
        refine take' 1 (v := ?_) rfl (by kernel_rfl) (by kernel_rfl) (by kernel_rfl) (fun _ _ _ h => h) (Or.inl ⟨by rfl, ?_⟩) (by assumption) ?_
        rotate_left
        · intro w9 hSw
          go_simp
          first | done | with_reducible rfl
        simp only [Act.put, List.setIfInBounds_toArray, List.set_cons_zero, List.set_cons_succ]
        refine take' 2 (v := ?_) rfl (by kernel_rfl) (by kernel_rfl) (by kernel_rfl) (fun _ _ _ h => h) (Or.inl ⟨by rfl, ?_⟩) (by assumption) ?_
        rotate_left
        · intro w9 hSw
          go_simp
          first | done | with_reducible rfl
        simp only [Act.put, List.setIfInBounds_toArray, List.set_cons_zero, List.set_cons_succ]
        refine take' 3 (v := ?_) rfl (by kernel_rfl) (by kernel_rfl) (by kernel_rfl) (fun _ _ _ h => h) (Or.inl ⟨by rfl, ?_⟩) (by assumption) ?_
        rotate_left
        · intro w9 hSw
          go_simp
          first | done | with_reducible rfl
        simp only [Act.put, List.setIfInBounds_toArray, List.set_cons_zero, List.set_cons_succ]
        refine take' 4 (v := ?_) rfl (by kernel_rfl) (by kernel_rfl) (by kernel_rfl) (fun _ _ _ h => h) (Or.inl ⟨by rfl, ?_⟩) (by assumption) ?_
        rotate_left
        · intro w9 hSw
          go_simp
          first | done | with_reducible rfl
        simp only [Act.put, List.setIfInBounds_toArray, List.set_cons_zero, List.set_cons_succ]
        refine wpAnyH_ready (rs := [0]) (by kernel_rfl) (by simp) ?_
        refine cons' rfl (fun KK hKK => ?_)
        have x0 := qc1.cell 0
        have x1 := qc1.cell 1
        have x2 := qc1.cell 2
        have x3 := qc1.cell 3
        have x4 := qc1.cell 4
        have x5 := qc1.cell 5
        simp only [List.getElem?_toArray, List.getElem?_cons_zero, List.getElem?_cons_succ] at x0 x1 x2 x3 x4 x5
        go_simp
        clear x0 x1 x2 x3 x4 x5
        refine hKK.out _ _ hHeld ?_
        clear hHeld
        intro hHeld
        clear hKK KK
        try simp only [Act.put, List.setIfInBounds_toArray, List.set_cons_zero, List.set_cons_succ]
        refine wpAnyH_ready (rs := [5]) (by kernel_rfl) (by simp) ?_
        refine cons' rfl (fun KK hKK => ?_)
        go_simp
        refine (G2.out _).mono ?_
        rintro r5 w6 ⟨tx1n, told1n, depn, ov1n, co1n, qq1n, v2, Q2, rfl, rf1n, nd2, hq2, b5, htx1n⟩
        have hl5 := qc1.lt
        replace tw := tw.later b5
        replace hty := fun g hg => (hty g hg).of (b5.block g (hty g hg).lt)
        replace nd1 := nd1.on b5
        replace hMr := hMr.on b5
        replace hBr := hBr.trans (b5.mono hBr.size)
        replace qc1 := qc1.later b5
        replace qc2 := qc2.later b5
        replace hHeld := below_cell b5 hHeld
        clear b5 G2
        have hdep := rf1n.dep
        subst hdep
        obtain ⟨va2, vc2, ev2⟩ := nd2.sl
        subst ev2
        have nP1 : ∀ i, P1n i → ¬ i = c1 := fun i c e => tyn_ne qc1 (by decide) (e ▸ (tw.one.xb.2 i c).2)
        have nP2 : ∀ i, P2 i → ¬ i = c1 := fun i c e => tyn_ne qc1 (by decide) (e ▸ (tw.two.xb.2 i c).2)
        have nQ1 : ¬ Q1 c1 := fun c => tyn_ne qc1 (by decide) (hty _ c)
        have nQ2 : ¬ Q2 c1 := fun c => by have := hq2 _ c; omega
        clear hq2 hl5 hty
        go_wp2_with fail
        refine hKK.out _ _ hHeld ?_
        clear hHeld
        intro hHeld
        clear hKK KK
        try simp only [Act.put, List.setIfInBounds_toArray, List.set_cons_zero, List.set_cons_succ]
        refine take' 6 (v := ?_) rfl (by kernel_rfl) (by kernel_rfl) (by kernel_rfl) (fun _ _ _ h => h) (Or.inl ⟨by rfl, ?_⟩) (by assumption) ?_
        rotate_left
        · intro w9 hSw
          go_simp
          first | done | with_reducible rfl
        simp only [Act.put, List.setIfInBounds_toArray, List.set_cons_zero, List.set_cons_succ]
        refine take' 7 (v := ?_) rfl (by kernel_rfl) (by kernel_rfl) (by kernel_rfl) (fun _ _ _ h => h) (Or.inl ⟨by rfl, ?_⟩) (by assumption) ?_
        rotate_left
        · intro w9 hSw
          go_simp
          first | done | with_reducible rfl
        simp only [Act.put, List.setIfInBounds_toArray, List.set_cons_zero, List.set_cons_succ]
        refine take' 8 (v := ?_) rfl (by kernel_rfl) (by kernel_rfl) (by kernel_rfl) (fun _ _ _ h => h) (Or.inl ⟨by rfl, ?_⟩) (by assumption) ?_
        rotate_left
        · intro w9 hSw
          go_simp
          first | done | with_reducible rfl
        simp only [Act.put, List.setIfInBounds_toArray, List.set_cons_zero, List.set_cons_succ]
        refine take' 9 (v := ?_) rfl (by kernel_rfl) (by kernel_rfl) (by kernel_rfl) (fun _ _ _ h => h) (Or.inl ⟨by rfl, ?_⟩) (by assumption) ?_
        rotate_left
        · intro w9 hSw
          go_simp
          first | done | with_reducible rfl
        simp only [Act.put, List.setIfInBounds_toArray, List.set_cons_zero, List.set_cons_succ]
        refine wpAnyH_ready (rs := [10]) (by kernel_rfl) (by simp) ?_
        refine cons' rfl (fun KK hKK => ?_)
        have fz := fun o => qc1.frozen o
        have t0 := qc1.cell 0
        have t1 := qc1.cell 1
        have t2 := qc1.cell 2
        have t3 := qc1.cell 3
        have t4 := qc1.cell 4
        have t5 := qc1.cell 5
        simp only [List.getElem?_toArray, List.getElem?_cons_zero, List.getElem?_cons_succ] at t0 t1 t2 t3 t4 t5
        go_simp
        clear fz t0 t1 t2 t3 t4 t5
        obtain ⟨ks, q9⟩ := qc1.set6 (.string tx1n) (.int .i64 (told1n : Nat)) (.int .i64 (depF rs1n)) (.bool ov1n) (.int .i64 co1n) (.int .i64 qq1n)
        have hH2 := ks.cell (show bq ≠ c1 by omega) hHeld
        unfold set6 at ks q9 hH2
        have kk := Kp.ch (X := fun i => i = c1) ks rfl
        have tw3 := tw.kp kk (fun i hi e => hX1n1 (e ▸ hi)) (fun i hi e => hX21 (e ▸ hi)) nP1 nP2 (fun i e _ => by subst e; exact ⟨_, _, qc1, by decide, by decide⟩)
        have qo := kk.blk qc2 (show ¬ c2 = c1 by omega)
        have nd1b := nd1.kept (Q := Q1) (fun g hg hl => ks.other g (fun e => nQ1 (e ▸ hg))) (fun _ c => c)
        have nd2b := nd2.kept (Q := Q2) (fun g hg hl => ks.other g (fun e => nQ2 (e ▸ hg))) (fun _ c => c)
        have hM6 := kk.maxL (show ¬ mxB = c1 by omega) hMr
        have hB6 := hBr.trans (ks.below (B := w.heap.size) (by omega))
        clear ks kk tw nd1 nd2 hMr hBr qc1 qc2 nP1 nP2 nQ1 nQ2
        generalize ((((((w6.setCell ⟨c1, 0, none⟩ (.string tx1n)).setCell ⟨c1, 1, none⟩ (.int .i64 (told1n : Nat))).setCell ⟨c1, 2, none⟩ (.int .i64 (depF rs1n))).setCell ⟨c1, 3, none⟩ (.bool ov1n)).setCell ⟨c1, 4, none⟩ (.int .i64 co1n)).setCell ⟨c1, 5, none⟩ (.int .i64 qq1n)) = w7 at q9 qo tw3 nd1b nd2b hM6 hB6 hH2 ⊢
        have qc1 := q9
        have qc2 := qo
        clear q9 qo
        refine hKK.out _ _ hH2 ?_
        clear hHeld
        intro hHeld
        clear hKK KK
        try simp only [Act.put, List.setIfInBounds_toArray, List.set_cons_zero, List.set_cons_succ]
        clear hH2
        refine take' 11 (v := ?_) rfl (by kernel_rfl) (by kernel_rfl) (by kernel_rfl) (fun _ _ _ h => h) (Or.inl ⟨by rfl, ?_⟩) (by assumption) ?_
        rotate_left
        · intro w9 hSw
          go_simp
          first | done | with_reducible rfl
        simp only [Act.put, List.setIfInBounds_toArray, List.set_cons_zero, List.set_cons_succ]
        refine take' 12 (v := ?_) rfl (by kernel_rfl) (by kernel_rfl) (by kernel_rfl) (fun _ _ _ h => h) (Or.inl ⟨by rfl, ?_⟩) (by assumption) ?_
        rotate_left
        · intro w9 hSw
          go_simp
          first | done | with_reducible rfl
        simp only [Act.put, List.setIfInBounds_toArray, List.set_cons_zero, List.set_cons_succ]
        refine wpAnyH_done (by kernel_rfl) ?_ _
        clear hHeld
        have GA := hideT (alikeL nd1b nd2b)
        clear nd1b nd2b
        go_wp2_with fail
        refine GA.out.mono ?_
        rintro e w8 ⟨rfl, b8⟩
        have tw := tw3.later b8
        have hMr := hM6.on b8
        have hBr := hB6.trans (b8.mono hB6.size)
        replace qc1 := qc1.later b8
        replace qc2 := qc2.later b8
        clear GA tw3 hM6 hB6 b8
        obtain ⟨bq, off, hac, hcell⟩ := hS2 (by omega)
        have hcz := below_at hBr (World.block_lt_of_cell? w _ (hcell k hkl2)) (hcell k hkl2)
        subst hac
        have htk : tots g2 (k + 1) = tots g2 k + (g2 k).size := rfl
        have htm := tots_mono g2 (show k + 1 ≤ n2 by omega)
        obtain ⟨pc, hpc⟩ : ∃ pc, g2 k = pc := ⟨_, rfl⟩
        rw [hpc] at hcz htk
        have HC0 := hideT (hcell k hkl2)
        rw [hpc] at HC0
        have hpl : pc.data.toList.length = pc.size := by rw [Array.length_toList]; rfl
        rw [show min k n2 = k by omega] at hrd2 htx2
        have rI := tw.two
        have G1 := hideT (feedR2 rI pc hMr (fun o p e => by have := hrd2 o p e; omega))
        have hRD2 := feedF_rdR (rs := rs2) (S := pc.data.toList) (B := tots g2 k) (fun o p e => ⟨(e ▸ rI).inv, hrd2 o p e⟩)
        have hfew := feedF_few rs2 pc.data.toList
        have G2 := hideT (fun W => vfeedR rf2 pc W (by omega))
        have hlow := rI.low
        clear rI
        rcases hx : feedF rs2 pc.data.toList with ⟨N2, e2, rs2n⟩
        simp only [hx] at G1 G2 hfew hRD2
        rw [hpl] at hRD2 hfew
        have HT2 := hideT htk
        have hsmall : N2.length ≤ 1099511627776 := by omega
        have hpcs : tots g2 k + pc.size ≤ 1048576 := by omega
        clear htk htm hpl hpc hx hcell
        go_wp2_with fail
        refine G1.out.mono ?_
        rintro e w4 ⟨v1, rfl, fd, ch2⟩
        clear G1
        obtain ⟨Q1, nd1, hty⟩ := fd.nd (by omega)
        have ch := ch2.chg
        obtain ⟨X2n, P2n, tw2, mX⟩ := TwoI.fed (tw.symm) fd ch2
        replace tw2 := tw2.symm
        have l1 := qc1.lt
        have l2 := qc2.lt
        replace qc1 := ch.blk qc1 hX21 (by decide) (by decide)
        have hX2n1 : ¬ X2n c1 := fun c => hX21 (mX c1 c l1)
        replace qc2 := ch.blk qc2 hX22 (by decide) (by decide)
        have hX2n2 : ¬ X2n c2 := fun c => hX22 (mX c2 c l2)
        replace hMr := ch.maxL hMr (by omega)
        replace hBr := hBr.trans (ch.below hlow hwB)
        obtain ⟨va, vc, ev1⟩ := nd1.sl
        subst ev1
        clear ch ch2 mX tw l1 l2 fd hlow hX21 hX22
        have tw := tw2
        clear tw2
        have hcz4 := below_at hBr (World.block_lt_of_cell? w _ HC0.out) HC0.out
        have hbq : bq < w.heap.size := World.block_lt_of_cell? w _ HC0.out
        clear hcz HC0
        go_wp2_with fail
        have bD : Below w4.heap.size w4 w4.drew := (Below.refl _ _).drew
        have khcz4 := below_cell bD hcz4
        replace tw := tw.later bD
        replace hty := fun g hg => (hty g hg).of (bD.block g (hty g hg).lt)
        replace nd1 := nd1.on bD
        replace hMr := hMr.on bD
        replace hBr := hBr.trans (bD.mono hBr.size)
        replace qc1 := qc1.later bD
        replace qc2 := qc2.later bD
        refine wp_region_held_drew (S := fun w' => w'.cell? ⟨bq, off + k, none⟩ = some (.string pc)) (by kernel_rfl) khcz4 (fun hHeld => ?_)
        clear khcz4
        generalize w4.drew = w5 at bD tw nd1 hMr hBr hty qc1 qc2 hHeld ⊢
        clear bD hcz4
        refine take' 1 (v := ?_) rfl (by kernel_rfl) (by kernel_rfl) (by kernel_rfl) (fun _ _ _ h => h) (Or.inl ⟨by rfl, ?_⟩) (by assumption) ?_
        rotate_left
        · intro w9 hSw
          go_simp
          first | done | with_reducible rfl
        simp only [Act.put, List.setIfInBounds_toArray, List.set_cons_zero, List.set_cons_succ]
        refine take' 2 (v := ?_) rfl (by kernel_rfl) (by kernel_rfl) (by kernel_rfl) (fun _ _ _ h => h) (Or.inl ⟨by rfl, ?_⟩) (by assumption) ?_
        rotate_left
        · intro w9 hSw
          go_simp
          first | done | with_reducible rfl
        simp only [Act.put, List.setIfInBounds_toArray, List.set_cons_zero, List.set_cons_succ]
        refine take' 3 (v := ?_) rfl (by kernel_rfl) (by kernel_rfl) (by kernel_rfl) (fun _ _ _ h => h) (Or.inl ⟨by rfl, ?_⟩) (by assumption) ?_
        rotate_left
        · intro w9 hSw
          go_simp
          first | done | with_reducible rfl
        simp only [Act.put, List.setIfInBounds_toArray, List.set_cons_zero, List.set_cons_succ]
        refine take' 4 (v := ?_) rfl (by kernel_rfl) (by kernel_rfl) (by kernel_rfl) (fun _ _ _ h => h) (Or.inl ⟨by rfl, ?_⟩) (by assumption) ?_
        rotate_left
        · intro w9 hSw
          go_simp
          first | done | with_reducible rfl
        simp only [Act.put, List.setIfInBounds_toArray, List.set_cons_zero, List.set_cons_succ]
        refine wpAnyH_ready (rs := [0]) (by kernel_rfl) (by simp) ?_
        refine cons' rfl (fun KK hKK => ?_)
        have x0 := qc2.cell 0
        have x1 := qc2.cell 1
        have x2 := qc2.cell 2
        have x3 := qc2.cell 3
        have x4 := qc2.cell 4
        have x5 := qc2.cell 5
        simp only [List.getElem?_toArray, List.getElem?_cons_zero, List.getElem?_cons_succ] at x0 x1 x2 x3 x4 x5
        go_simp
        clear x0 x1 x2 x3 x4 x5
        refine hKK.out _ _ hHeld ?_
        clear hHeld
        intro hHeld
        clear hKK KK
        try simp only [Act.put, List.setIfInBounds_toArray, List.set_cons_zero, List.set_cons_succ]
        refine wpAnyH_ready (rs := [5]) (by kernel_rfl) (by simp) ?_
        refine cons' rfl (fun KK hKK => ?_)
        go_simp
        refine (G2.out _).mono ?_
        rintro r5 w6 ⟨tx2n, told2n, depn, ov2n, co2n, qq2n, v2, Q2, rfl, rf2n, nd2, hq2, b5, htx2n⟩
        have hl5 := qc2.lt
        replace tw := tw.later b5
        replace hty := fun g hg => (hty g hg).of (b5.block g (hty g hg).lt)
        replace nd1 := nd1.on b5
        replace hMr := hMr.on b5
        replace hBr := hBr.trans (b5.mono hBr.size)
        replace qc1 := qc1.later b5
        replace qc2 := qc2.later b5
        replace hHeld := below_cell b5 hHeld
        clear b5 G2
        have hdep := rf2n.dep
        subst hdep
        obtain ⟨va2, vc2, ev2⟩ := nd2.sl
        subst ev2
        have nP1 : ∀ i, P1n i → ¬ i = c2 := fun i c e => tyn_ne qc2 (by decide) (e ▸ (tw.one.xb.2 i c).2)
        have nP2 : ∀ i, P2n i → ¬ i = c2 := fun i c e => tyn_ne qc2 (by decide) (e ▸ (tw.two.xb.2 i c).2)
        have nQ1 : ¬ Q1 c2 := fun c => tyn_ne qc2 (by decide) (hty _ c)
        have nQ2 : ¬ Q2 c2 := fun c => by have := hq2 _ c; omega
        clear hq2 hl5 hty
        go_wp2_with fail
        refine hKK.out _ _ hHeld ?_
        clear hHeld
        intro hHeld
        clear hKK KK
        try simp only [Act.put, List.setIfInBounds_toArray, List.set_cons_zero, List.set_cons_succ]
        refine take' 6 (v := ?_) rfl (by kernel_rfl) (by kernel_rfl) (by kernel_rfl) (fun _ _ _ h => h) (Or.inl ⟨by rfl, ?_⟩) (by assumption) ?_
        rotate_left
        · intro w9 hSw
          go_simp
          first | done | with_reducible rfl
        simp only [Act.put, List.setIfInBounds_toArray, List.set_cons_zero, List.set_cons_succ]
        refine take' 7 (v := ?_) rfl (by kernel_rfl) (by kernel_rfl) (by kernel_rfl) (fun _ _ _ h => h) (Or.inl ⟨by rfl, ?_⟩) (by assumption) ?_
        rotate_left
        · intro w9 hSw
          go_simp
          first | done | with_reducible rfl
        simp only [Act.put, List.setIfInBounds_toArray, List.set_cons_zero, List.set_cons_succ]
        refine take' 8 (v := ?_) rfl (by kernel_rfl) (by kernel_rfl) (by kernel_rfl) (fun _ _ _ h => h) (Or.inl ⟨by rfl, ?_⟩) (by assumption) ?_
        rotate_left
        · intro w9 hSw
          go_simp
          first | done | with_reducible rfl
        simp only [Act.put, List.setIfInBounds_toArray, List.set_cons_zero, List.set_cons_succ]
        refine take' 9 (v := ?_) rfl (by kernel_rfl) (by kernel_rfl) (by kernel_rfl) (fun _ _ _ h => h) (Or.inl ⟨by rfl, ?_⟩) (by assumption) ?_
        rotate_left
        · intro w9 hSw
          go_simp
          first | done | with_reducible rfl
        simp only [Act.put, List.setIfInBounds_toArray, List.set_cons_zero, List.set_cons_succ]
        refine wpAnyH_ready (rs := [10]) (by kernel_rfl) (by simp) ?_
        refine cons' rfl (fun KK hKK => ?_)
        have fz := fun o => qc2.frozen o
        have t0 := qc2.cell 0
        have t1 := qc2.cell 1
        have t2 := qc2.cell 2
        have t3 := qc2.cell 3
        have t4 := qc2.cell 4
        have t5 := qc2.cell 5
        simp only [List.getElem?_toArray, List.getElem?_cons_zero, List.getElem?_cons_succ] at t0 t1 t2 t3 t4 t5
        go_simp
        clear fz t0 t1 t2 t3 t4 t5
        obtain ⟨ks, q9⟩ := qc2.set6 (.string tx2n) (.int .i64 (told2n : Nat)) (.int .i64 (depF rs2n)) (.bool ov2n) (.int .i64 co2n) (.int .i64 qq2n)
        have hH2 := ks.cell (show bq ≠ c2 by omega) hHeld
        unfold set6 at ks q9 hH2
        have kk := Kp.ch (X := fun i => i = c2) ks rfl
        have tw3 := tw.kp kk (fun i hi e => hX1n2 (e ▸ hi)) (fun i hi e => hX2n2 (e ▸ hi)) nP1 nP2 (fun i e _ => by subst e; exact ⟨_, _, qc2, by decide, by decide⟩)
        have qo := kk.blk qc1 (show ¬ c1 = c2 by omega)
        have nd1b := nd1.kept (Q := Q1) (fun g hg hl => ks.other g (fun e => nQ1 (e ▸ hg))) (fun _ c => c)
        have nd2b := nd2.kept (Q := Q2) (fun g hg hl => ks.other g (fun e => nQ2 (e ▸ hg))) (fun _ c => c)
        have hM6 := kk.maxL (show ¬ mxB = c2 by omega) hMr
        have hB6 := hBr.trans (ks.below (B := w.heap.size) (by omega))
        clear ks kk tw nd1 nd2 hMr hBr qc1 qc2 nP1 nP2 nQ1 nQ2
        generalize ((((((w6.setCell ⟨c2, 0, none⟩ (.string tx2n)).setCell ⟨c2, 1, none⟩ (.int .i64 (told2n : Nat))).setCell ⟨c2, 2, none⟩ (.int .i64 (depF rs2n))).setCell ⟨c2, 3, none⟩ (.bool ov2n)).setCell ⟨c2, 4, none⟩ (.int .i64 co2n)).setCell ⟨c2, 5, none⟩ (.int .i64 qq2n)) = w7 at q9 qo tw3 nd1b nd2b hM6 hB6 hH2 ⊢
        have qc2 := q9
        have qc1 := qo
        clear q9 qo
        refine hKK.out _ _ hH2 ?_
        clear hHeld
        intro hHeld
        clear hKK KK
        try simp only [Act.put, List.setIfInBounds_toArray, List.set_cons_zero, List.set_cons_succ]
        clear hH2
        refine take' 11 (v := ?_) rfl (by kernel_rfl) (by kernel_rfl) (by kernel_rfl) (fun _ _ _ h => h) (Or.inl ⟨by rfl, ?_⟩) (by assumption) ?_
        rotate_left
        · intro w9 hSw
          go_simp
          first | done | with_reducible rfl
        simp only [Act.put, List.setIfInBounds_toArray, List.set_cons_zero, List.set_cons_succ]
        refine take' 12 (v := ?_) rfl (by kernel_rfl) (by kernel_rfl) (by kernel_rfl) (fun _ _ _ h => h) (Or.inl ⟨by rfl, ?_⟩) (by assumption) ?_
        rotate_left
        · intro w9 hSw
          go_simp
          first | done | with_reducible rfl
        simp only [Act.put, List.setIfInBounds_toArray, List.set_cons_zero, List.set_cons_succ]
        refine wpAnyH_done (by kernel_rfl) ?_ _
        clear hHeld
        have GA := hideT (alikeL nd1b nd2b)
        clear nd1b nd2b
        go_wp2_with fail
        refine GA.out.mono ?_
        rintro e w8 ⟨rfl, b8⟩
        have tw := tw3.later b8
        have hMr := hM6.on b8
        have hBr := hB6.trans (b8.mono hB6.size)
        replace qc1 := qc1.later b8
        replace qc2 := qc2.later b8
        clear GA tw3 hM6 hB6 b8
        go_wp2
        go_roundw
        case rel => exact ⟨k + 1, rs1n, rs2n, X1n, P1n, X2n, P2n, tx1n, told1n, ov1n, co1n, qq1n, tx2n, told2n, ov2n, co2n, qq2n, by omega, by go_num, qc1, qc2, tw, rf1n, rf2n, ⟨hX1n1, hX1n2, hX2n1, hX2n2⟩, hMr, hBr, fun o p e => by rw [show min (k + 1) n1 = k + 1 by omega, HT1.out]; exact hRD1 o p e, by rw [show min (k + 1) n1 = k + 1 by omega, HT1.out]; omega, fun o p e => by rw [show min (k + 1) n2 = k + 1 by omega, HT2.out]; exact hRD2 o p e, by rw [show min (k + 1) n2 = k + 1 by omega, HT2.out]; omega⟩
        case measure => simp [intOf]; omega
      · have hki2 : ¬ (k : Int) < (n2 : Int) := by omega
        obtain ⟨bq, off, hac, hcell⟩ := hS1 (by omega)
        have hcz := below_at hBr (World.block_lt_of_cell? w _ (hcell k hkl1)) (hcell k hkl1)
        subst hac
        have htk : tots g1 (k + 1) = tots g1 k + (g1 k).size := rfl
        have htm := tots_mono g1 (show k + 1 ≤ n1 by omega)
        obtain ⟨pc, hpc⟩ : ∃ pc, g1 k = pc := ⟨_, rfl⟩
        rw [hpc] at hcz htk
        have HC0 := hideT (hcell k hkl1)
        rw [hpc] at HC0
        have hpl : pc.data.toList.length = pc.size := by rw [Array.length_toList]; rfl
        rw [show min k n1 = k by omega] at hrd1 htx1
        have rI := tw.one
        have G1 := hideT (feedR2 rI pc hMr (fun o p e => by have := hrd1 o p e; omega))
        have hRD1 := feedF_rdR (rs := rs1) (S := pc.data.toList) (B := tots g1 k) (fun o p e => ⟨(e ▸ rI).inv, hrd1 o p e⟩)
        have hfew := feedF_few rs1 pc.data.toList
        have G2 := hideT (fun W => vfeedR rf1 pc W (by omega))
        have hlow := rI.low
        clear rI
        rcases hx : feedF rs1 pc.data.toList with ⟨N2, e2, rs1n⟩
        simp only [hx] at G1 G2 hfew hRD1
        rw [hpl] at hRD1 hfew
        have HT1 := hideT htk
        have hsmall : N2.length ≤ 1099511627776 := by omega
        have hpcs : tots g1 k + pc.size ≤ 1048576 := by omega
        clear htk htm hpl hpc hx hcell
        go_wp2_with fail
        refine G1.out.mono ?_
        rintro e w4 ⟨v1, rfl, fd, ch2⟩
        clear G1
        obtain ⟨Q1, nd1, hty⟩ := fd.nd (by omega)
        have ch := ch2.chg
        obtain ⟨X1n, P1n, tw2, mX⟩ := TwoI.fed (tw) fd ch2
        have l1 := qc1.lt
        have l2 := qc2.lt
        replace qc1 := ch.blk qc1 hX11 (by decide) (by decide)
        have hX1n1 : ¬ X1n c1 := fun c => hX11 (mX c1 c l1)
        replace qc2 := ch.blk qc2 hX12 (by decide) (by decide)
        have hX1n2 : ¬ X1n c2 := fun c => hX12 (mX c2 c l2)
        replace hMr := ch.maxL hMr (by omega)
        replace hBr := hBr.trans (ch.below hlow (Nat.le_refl _))
        obtain ⟨va, vc, ev1⟩ := nd1.sl
        subst ev1
        clear ch ch2 mX tw l1 l2 fd hlow hX11 hX12
        have tw := tw2
        clear tw2
        have hcz4 := below_at hBr (World.block_lt_of_cell? w _ HC0.out) HC0.out
        have hbq : bq < w.heap.size := World.block_lt_of_cell? w _ HC0.out
        clear hcz HC0
        go_wp2_with fail
        have bD : Below w4.heap.size w4 w4.drew := (Below.refl _ _).drew
        have khcz4 := below_cell bD hcz4
        replace tw := tw.later bD
        replace hty := fun g hg => (hty g hg).of (bD.block g (hty g hg).lt)
        replace nd1 := nd1.on bD
        replace hMr := hMr.on bD
        replace hBr := hBr.trans (bD.mono hBr.size)
        replace qc1 := qc1.later bD
        replace qc2 := qc2.later bD
        refine wp_region_held_drew (S := fun w' => w'.cell? ⟨bq, off + k, none⟩ = some (.string pc)) (by kernel_rfl) khcz4 (fun hHeld => ?_)
        clear khcz4
        generalize w4.drew = w5 at bD tw nd1 hMr hBr hty qc1 qc2 hHeld ⊢
        clear bD hcz4
        refine take' 1 (v := ?_) rfl (by kernel_rfl) (by kernel_rfl) (by kernel_rfl) (fun _ _ _ h => h) (Or.inl ⟨by rfl, ?_⟩) (by assumption) ?_
        rotate_left
        · intro w9 hSw
          go_simp
          first | done | with_reducible rfl
        simp only [Act.put, List.setIfInBounds_toArray, List.set_cons_zero, List.set_cons_succ]
        refine take' 2 (v := ?_) rfl (by kernel_rfl) (by kernel_rfl) (by kernel_rfl) (fun _ _ _ h => h) (Or.inl ⟨by rfl, ?_⟩) (by assumption) ?_
        rotate_left
        · intro w9 hSw
          go_simp
          first | done | with_reducible rfl
        simp only [Act.put, List.setIfInBounds_toArray, List.set_cons_zero, List.set_cons_succ]
        refine take' 3 (v := ?_) rfl (by kernel_rfl) (by kernel_rfl) (by kernel_rfl) (fun _ _ _ h => h) (Or.inl ⟨by rfl, ?_⟩) (by assumption) ?_
        rotate_left
        · intro w9 hSw
          go_simp
          first | done | with_reducible rfl
        simp only [Act.put, List.setIfInBounds_toArray, List.set_cons_zero, List.set_cons_succ]
        refine take' 4 (v := ?_) rfl (by kernel_rfl) (by kernel_rfl) (by kernel_rfl) (fun _ _ _ h => h) (Or.inl ⟨by rfl, ?_⟩) (by assumption) ?_
        rotate_left
        · intro w9 hSw
          go_simp
          first | done | with_reducible rfl
        simp only [Act.put, List.setIfInBounds_toArray, List.set_cons_zero, List.set_cons_succ]
        refine wpAnyH_ready (rs := [0]) (by kernel_rfl) (by simp) ?_
        refine cons' rfl (fun KK hKK => ?_)
        have x0 := qc1.cell 0
        have x1 := qc1.cell 1
        have x2 := qc1.cell 2
        have x3 := qc1.cell 3
        have x4 := qc1.cell 4
        have x5 := qc1.cell 5
        simp only [List.getElem?_toArray, List.getElem?_cons_zero, List.getElem?_cons_succ] at x0 x1 x2 x3 x4 x5
        go_simp
        clear x0 x1 x2 x3 x4 x5
        refine hKK.out _ _ hHeld ?_
        clear hHeld
        intro hHeld
        clear hKK KK
        try simp only [Act.put, List.setIfInBounds_toArray, List.set_cons_zero, List.set_cons_succ]
        refine wpAnyH_ready (rs := [5]) (by kernel_rfl) (by simp) ?_
        refine cons' rfl (fun KK hKK => ?_)
        go_simp
        refine (G2.out _).mono ?_
        rintro r5 w6 ⟨tx1n, told1n, depn, ov1n, co1n, qq1n, v2, Q2, rfl, rf1n, nd2, hq2, b5, htx1n⟩
        have hl5 := qc1.lt
        replace tw := tw.later b5
        replace hty := fun g hg => (hty g hg).of (b5.block g (hty g hg).lt)
        replace nd1 := nd1.on b5
        replace hMr := hMr.on b5
        replace hBr := hBr.trans (b5.mono hBr.size)
        replace qc1 := qc1.later b5
        replace qc2 := qc2.later b5
        replace hHeld := below_cell b5 hHeld
        clear b5 G2
        have hdep := rf1n.dep
        subst hdep
        obtain ⟨va2, vc2, ev2⟩ := nd2.sl
        subst ev2
        have nP1 : ∀ i, P1n i → ¬ i = c1 := fun i c e => tyn_ne qc1 (by decide) (e ▸ (tw.one.xb.2 i c).2)
        have nP2 : ∀ i, P2 i → ¬ i = c1 := fun i c e => tyn_ne qc1 (by decide) (e ▸ (tw.two.xb.2 i c).2)
        have nQ1 : ¬ Q1 c1 := fun c => tyn_ne qc1 (by decide) (hty _ c)
        have nQ2 : ¬ Q2 c1 := fun c => by have := hq2 _ c; omega
        clear hq2 hl5 hty
        go_wp2_with fail
        refine hKK.out _ _ hHeld ?_
        clear hHeld
        intro hHeld
        clear hKK KK
        try simp only [Act.put, List.setIfInBounds_toArray, List.set_cons_zero, List.set_cons_succ]
        refine take' 6 (v := ?_) rfl (by kernel_rfl) (by kernel_rfl) (by kernel_rfl) (fun _ _ _ h => h) (Or.inl ⟨by rfl, ?_⟩) (by assumption) ?_
        rotate_left
        · intro w9 hSw
          go_simp
          first | done | with_reducible rfl
        simp only [Act.put, List.setIfInBounds_toArray, List.set_cons_zero, List.set_cons_succ]
        refine take' 7 (v := ?_) rfl (by kernel_rfl) (by kernel_rfl) (by kernel_rfl) (fun _ _ _ h => h) (Or.inl ⟨by rfl, ?_⟩) (by assumption) ?_
        rotate_left
        · intro w9 hSw
          go_simp
          first | done | with_reducible rfl
        simp only [Act.put, List.setIfInBounds_toArray, List.set_cons_zero, List.set_cons_succ]
        refine take' 8 (v := ?_) rfl (by kernel_rfl) (by kernel_rfl) (by kernel_rfl) (fun _ _ _ h => h) (Or.inl ⟨by rfl, ?_⟩) (by assumption) ?_
        rotate_left
        · intro w9 hSw
          go_simp
          first | done | with_reducible rfl
        simp only [Act.put, List.setIfInBounds_toArray, List.set_cons_zero, List.set_cons_succ]
        refine take' 9 (v := ?_) rfl (by kernel_rfl) (by kernel_rfl) (by kernel_rfl) (fun _ _ _ h => h) (Or.inl ⟨by rfl, ?_⟩) (by assumption) ?_
        rotate_left
        · intro w9 hSw
          go_simp
          first | done | with_reducible rfl
        simp only [Act.put, List.setIfInBounds_toArray, List.set_cons_zero, List.set_cons_succ]
        refine wpAnyH_ready (rs := [10]) (by kernel_rfl) (by simp) ?_
        refine cons' rfl (fun KK hKK => ?_)
        have fz := fun o => qc1.frozen o
        have t0 := qc1.cell 0
        have t1 := qc1.cell 1
        have t2 := qc1.cell 2
        have t3 := qc1.cell 3
        have t4 := qc1.cell 4
        have t5 := qc1.cell 5
        simp only [List.getElem?_toArray, List.getElem?_cons_zero, List.getElem?_cons_succ] at t0 t1 t2 t3 t4 t5
        go_simp
        clear fz t0 t1 t2 t3 t4 t5
        obtain ⟨ks, q9⟩ := qc1.set6 (.string tx1n) (.int .i64 (told1n : Nat)) (.int .i64 (depF rs1n)) (.bool ov1n) (.int .i64 co1n) (.int .i64 qq1n)
        have hH2 := ks.cell (show bq ≠ c1 by omega) hHeld
        unfold set6 at ks q9 hH2
        have kk := Kp.ch (X := fun i => i = c1) ks rfl
        have tw3 := tw.kp kk (fun i hi e => hX1n1 (e ▸ hi)) (fun i hi e => hX21 (e ▸ hi)) nP1 nP2 (fun i e _ => by subst e; exact ⟨_, _, qc1, by decide, by decide⟩)
        have qo := kk.blk qc2 (show ¬ c2 = c1 by omega)
        have nd1b := nd1.kept (Q := Q1) (fun g hg hl => ks.other g (fun e => nQ1 (e ▸ hg))) (fun _ c => c)
        have nd2b := nd2.kept (Q := Q2) (fun g hg hl => ks.other g (fun e => nQ2 (e ▸ hg))) (fun _ c => c)
        have hM6 := kk.maxL (show ¬ mxB = c1 by omega) hMr
        have hB6 := hBr.trans (ks.below (B := w.heap.size) (by omega))
        clear ks kk tw nd1 nd2 hMr hBr qc1 qc2 nP1 nP2 nQ1 nQ2
        generalize ((((((w6.setCell ⟨c1, 0, none⟩ (.string tx1n)).setCell ⟨c1, 1, none⟩ (.int .i64 (told1n : Nat))).setCell ⟨c1, 2, none⟩ (.int .i64 (depF rs1n))).setCell ⟨c1, 3, none⟩ (.bool ov1n)).setCell ⟨c1, 4, none⟩ (.int .i64 co1n)).setCell ⟨c1, 5, none⟩ (.int .i64 qq1n)) = w7 at q9 qo tw3 nd1b nd2b hM6 hB6 hH2 ⊢
        have qc1 := q9
        have qc2 := qo
        clear q9 qo
        refine hKK.out _ _ hH2 ?_
        clear hHeld
        intro hHeld
        clear hKK KK
        try simp only [Act.put, List.setIfInBounds_toArray, List.set_cons_zero, List.set_cons_succ]
        clear hH2
        refine take' 11 (v := ?_) rfl (by kernel_rfl) (by kernel_rfl) (by kernel_rfl) (fun _ _ _ h => h) (Or.inl ⟨by rfl, ?_⟩) (by assumption) ?_
        rotate_left
        · intro w9 hSw
          go_simp
          first | done | with_reducible rfl
        simp only [Act.put, List.setIfInBounds_toArray, List.set_cons_zero, List.set_cons_succ]
        refine take' 12 (v := ?_) rfl (by kernel_rfl) (by kernel_rfl) (by kernel_rfl) (fun _ _ _ h => h) (Or.inl ⟨by rfl, ?_⟩) (by assumption) ?_
        rotate_left
        · intro w9 hSw
          go_simp
          first | done | with_reducible rfl
        simp only [Act.put, List.setIfInBounds_toArray, List.set_cons_zero, List.set_cons_succ]
        refine wpAnyH_done (by kernel_rfl) ?_ _
        clear hHeld
        have GA := hideT (alikeL nd1b nd2b)
        clear nd1b nd2b
        go_wp2_with fail
        refine GA.out.mono ?_
        rintro e w8 ⟨rfl, b8⟩
        have tw := tw3.later b8
        have hMr := hM6.on b8
        have hBr := hB6.trans (b8.mono hB6.size)
        replace qc1 := qc1.later b8
        replace qc2 := qc2.later b8
        clear GA tw3 hM6 hB6 b8
        go_wp2
        go_roundw
        case rel => exact ⟨k + 1, rs1n, rs2, X1n, P1n, X2, P2, tx1n, told1n, ov1n, co1n, qq1n, tx2, told2, ov2, co2, qq2, by omega, by go_num, qc1, qc2, tw, rf1n, rf2, ⟨hX1n1, hX1n2, hX21, hX22⟩, hMr, hBr, fun o p e => by rw [show min (k + 1) n1 = k + 1 by omega, HT1.out]; exact hRD1 o p e, by rw [show min (k + 1) n1 = k + 1 by omega, HT1.out]; omega, fun o p e => by rw [show min (k + 1) n2 = min k n2 by omega]; exact hrd2 o p e, by rw [show min (k + 1) n2 = min k n2 by omega]; exact htx2⟩
        case measure => simp [intOf]; omega
    · have hki1 : ¬ (k : Int) < (n1 : Int) := by omega
      by_cases hkl2 : k < n2
      · have hki2 : (k : Int) < (n2 : Int) := by omega
        obtain ⟨bq, off, hac, hcell⟩ := hS2 (by omega)
        have hcz := below_at hBr (World.block_lt_of_cell? w _ (hcell k hkl2)) (hcell k hkl2)
        subst hac
        have htk : tots g2 (k + 1) = tots g2 k + (g2 k).size := rfl
        have htm := tots_mono g2 (show k + 1 ≤ n2 by omega)
        obtain ⟨pc, hpc⟩ : ∃ pc, g2 k = pc := ⟨_, rfl⟩
        rw [hpc] at hcz htk
        have HC0 := hideT (hcell k hkl2)
        rw [hpc] at HC0
        have hpl : pc.data.toList.length = pc.size := by rw [Array.length_toList]; rfl
        rw [show min k n2 = k by omega] at hrd2 htx2
        have rI := tw.two
        have G1 := hideT (feedR2 rI pc hMr (fun o p e => by have := hrd2 o p e; omega))
        have hRD2 := feedF_rdR (rs := rs2) (S := pc.data.toList) (B := tots g2 k) (fun o p e => ⟨(e ▸ rI).inv, hrd2 o p e⟩)
        have hfew := feedF_few rs2 pc.data.toList
        have G2 := hideT (fun W => vfeedR rf2 pc W (by omega))
        have hlow := rI.low
        clear rI
        rcases hx : feedF rs2 pc.data.toList with ⟨N2, e2, rs2n⟩
        simp only [hx] at G1 G2 hfew hRD2
        rw [hpl] at hRD2 hfew
        have HT2 := hideT htk
        have hsmall : N2.length ≤ 1099511627776 := by omega
        have hpcs : tots g2 k + pc.size ≤ 1048576 := by omega
        clear htk htm hpl hpc hx hcell
        go_wp2_with fail
        refine G1.out.mono ?_
        rintro e w4 ⟨v1, rfl, fd, ch2⟩
        clear G1
        obtain ⟨Q1, nd1, hty⟩ := fd.nd (by omega)
        have ch := ch2.chg
        obtain ⟨X2n, P2n, tw2, mX⟩ := TwoI.fed (tw.symm) fd ch2
        replace tw2 := tw2.symm
        have l1 := qc1.lt
        have l2 := qc2.lt
        replace qc1 := ch.blk qc1 hX21 (by decide) (by decide)
        have hX2n1 : ¬ X2n c1 := fun c => hX21 (mX c1 c l1)
        replace qc2 := ch.blk qc2 hX22 (by decide) (by decide)
        have hX2n2 : ¬ X2n c2 := fun c => hX22 (mX c2 c l2)
        replace hMr := ch.maxL hMr (by omega)
        replace hBr := hBr.trans (ch.below hlow hwB)
        obtain ⟨va, vc, ev1⟩ := nd1.sl
        subst ev1
        clear ch ch2 mX tw l1 l2 fd hlow hX21 hX22
        have tw := tw2
        clear tw2
        have hcz4 := below_at hBr (World.block_lt_of_cell? w _ HC0.out) HC0.out
        have hbq : bq < w.heap.size := World.block_lt_of_cell? w _ HC0.out
        clear hcz HC0
        go_wp2_with fail
        have bD : Below w4.heap.size w4 w4.drew := (Below.refl _ _).drew
        have khcz4 := below_cell bD hcz4
        replace tw := tw.later bD
        replace hty := fun g hg => (hty g hg).of (bD.block g (hty g hg).lt)
        replace nd1 := nd1.on bD
        replace hMr := hMr.on bD
        replace hBr := hBr.trans (bD.mono hBr.size)
        replace qc1 := qc1.later bD
        replace qc2 := qc2.later bD
        refine wp_region_held_drew (S := fun w' => w'.cell? ⟨bq, off + k, none⟩ = some (.string pc)) (by kernel_rfl) khcz4 (fun hHeld => ?_)
        clear khcz4
        generalize w4.drew = w5 at bD tw nd1 hMr hBr hty qc1 qc2 hHeld ⊢
        clear bD hcz4
        refine take' 1 (v := ?_) rfl (by kernel_rfl) (by kernel_rfl) (by kernel_rfl) (fun _ _ _ h => h) (Or.inl ⟨by rfl, ?_⟩) (by assumption) ?_
        rotate_left
        · intro w9 hSw
          go_simp
          first | done | with_reducible rfl
        simp only [Act.put, List.setIfInBounds_toArray, List.set_cons_zero, List.set_cons_succ]
        refine take' 2 (v := ?_) rfl (by kernel_rfl) (by kernel_rfl) (by kernel_rfl) (fun _ _ _ h => h) (Or.inl ⟨by rfl, ?_⟩) (by assumption) ?_
        rotate_left
        · intro w9 hSw
          go_simp
          first | done | with_reducible rfl
        simp only [Act.put, List.setIfInBounds_toArray, List.set_cons_zero, List.set_cons_succ]
        refine take' 3 (v := ?_) rfl (by kernel_rfl) (by kernel_rfl) (by kernel_rfl) (fun _ _ _ h => h) (Or.inl ⟨by rfl, ?_⟩) (by assumption) ?_
        rotate_left
        · intro w9 hSw
          go_simp
          first | done | with_reducible rfl
        simp only [Act.put, List.setIfInBounds_toArray, List.set_cons_zero, List.set_cons_succ]
        refine take' 4 (v := ?_) rfl (by kernel_rfl) (by kernel_rfl) (by kernel_rfl) (fun _ _ _ h => h) (Or.inl ⟨by rfl, ?_⟩) (by assumption) ?_
        rotate_left
        · intro w9 hSw
          go_simp
          first | done | with_reducible rfl
        simp only [Act.put, List.setIfInBounds_toArray, List.set_cons_zero, List.set_cons_succ]
        refine wpAnyH_ready (rs := [0]) (by kernel_rfl) (by simp) ?_
        refine cons' rfl (fun KK hKK => ?_)
        have x0 := qc2.cell 0
        have x1 := qc2.cell 1
        have x2 := qc2.cell 2
        have x3 := qc2.cell 3
        have x4 := qc2.cell 4
        have x5 := qc2.cell 5
        simp only [List.getElem?_toArray, List.getElem?_cons_zero, List.getElem?_cons_succ] at x0 x1 x2 x3 x4 x5
        go_simp
        clear x0 x1 x2 x3 x4 x5
        refine hKK.out _ _ hHeld ?_
        clear hHeld
        intro hHeld
        clear hKK KK
        try simp only [Act.put, List.setIfInBounds_toArray, List.set_cons_zero, List.set_cons_succ]
        refine wpAnyH_ready (rs := [5]) (by kernel_rfl) (by simp) ?_
        refine cons' rfl (fun KK hKK => ?_)
        go_simp
        refine (G2.out _).mono ?_
        rintro r5 w6 ⟨tx2n, told2n, depn, ov2n, co2n, qq2n, v2, Q2, rfl, rf2n, nd2, hq2, b5, htx2n⟩
        have hl5 := qc2.lt
        replace tw := tw.later b5
        replace hty := fun g hg => (hty g hg).of (b5.block g (hty g hg).lt)
        replace nd1 := nd1.on b5
        replace hMr := hMr.on b5
        replace hBr := hBr.trans (b5.mono hBr.size)
        replace qc1 := qc1.later b5
        replace qc2 := qc2.later b5
        replace hHeld := below_cell b5 hHeld
        clear b5 G2
        have hdep := rf2n.dep
        subst hdep
        obtain ⟨va2, vc2, ev2⟩ := nd2.sl
        subst ev2
        have nP1 : ∀ i, P1 i → ¬ i = c2 := fun i c e => tyn_ne qc2 (by decide) (e ▸ (tw.one.xb.2 i c).2)
        have nP2 : ∀ i, P2n i → ¬ i = c2 := fun i c e => tyn_ne qc2 (by decide) (e ▸ (tw.two.xb.2 i c).2)
        have nQ1 : ¬ Q1 c2 := fun c => tyn_ne qc2 (by decide) (hty _ c)
        have nQ2 : ¬ Q2 c2 := fun c => by have := hq2 _ c; omega
        clear hq2 hl5 hty
        go_wp2_with fail
        refine hKK.out _ _ hHeld ?_
        clear hHeld
        intro hHeld
        clear hKK KK
        try simp only [Act.put, List.setIfInBounds_toArray, List.set_cons_zero, List.set_cons_succ]
        refine take' 6 (v := ?_) rfl (by kernel_rfl) (by kernel_rfl) (by kernel_rfl) (fun _ _ _ h => h) (Or.inl ⟨by rfl, ?_⟩) (by assumption) ?_
        rotate_left
        · intro w9 hSw
          go_simp
          first | done | with_reducible rfl
        simp only [Act.put, List.setIfInBounds_toArray, List.set_cons_zero, List.set_cons_succ]
        refine take' 7 (v := ?_) rfl (by kernel_rfl) (by kernel_rfl) (by kernel_rfl) (fun _ _ _ h => h) (Or.inl ⟨by rfl, ?_⟩) (by assumption) ?_
        rotate_left
        · intro w9 hSw
          go_simp
          first | done | with_reducible rfl
        simp only [Act.put, List.setIfInBounds_toArray, List.set_cons_zero, List.set_cons_succ]
        refine take' 8 (v := ?_) rfl (by kernel_rfl) (by kernel_rfl) (by kernel_rfl) (fun _ _ _ h => h) (Or.inl ⟨by rfl, ?_⟩) (by assumption) ?_
        rotate_left
        · intro w9 hSw
          go_simp
          first | done | with_reducible rfl
        simp only [Act.put, List.setIfInBounds_toArray, List.set_cons_zero, List.set_cons_succ]
        refine take' 9 (v := ?_) rfl (by kernel_rfl) (by kernel_rfl) (by kernel_rfl) (fun _ _ _ h => h) (Or.inl ⟨by rfl, ?_⟩) (by assumption) ?_
        rotate_left
        · intro w9 hSw
          go_simp
          first | done | with_reducible rfl
        simp only [Act.put, List.setIfInBounds_toArray, List.set_cons_zero, List.set_cons_succ]
        refine wpAnyH_ready (rs := [10]) (by kernel_rfl) (by simp) ?_
        refine cons' rfl (fun KK hKK => ?_)
        have fz := fun o => qc2.frozen o
        have t0 := qc2.cell 0
        have t1 := qc2.cell 1
        have t2 := qc2.cell 2
        have t3 := qc2.cell 3
        have t4 := qc2.cell 4
        have t5 := qc2.cell 5
        simp only [List.getElem?_toArray, List.getElem?_cons_zero, List.getElem?_cons_succ] at t0 t1 t2 t3 t4 t5
        go_simp
        clear fz t0 t1 t2 t3 t4 t5
        obtain ⟨ks, q9⟩ := qc2.set6 (.string tx2n) (.int .i64 (told2n : Nat)) (.int .i64 (depF rs2n)) (.bool ov2n) (.int .i64 co2n) (.int .i64 qq2n)
        have hH2 := ks.cell (show bq ≠ c2 by omega) hHeld
        unfold set6 at ks q9 hH2
        have kk := Kp.ch (X := fun i => i = c2) ks rfl
        have tw3 := tw.kp kk (fun i hi e => hX12 (e ▸ hi)) (fun i hi e => hX2n2 (e ▸ hi)) nP1 nP2 (fun i e _ => by subst e; exact ⟨_, _, qc2, by decide, by decide⟩)
        have qo := kk.blk qc1 (show ¬ c1 = c2 by omega)
        have nd1b := nd1.kept (Q := Q1) (fun g hg hl => ks.other g (fun e => nQ1 (e ▸ hg))) (fun _ c => c)
        have nd2b := nd2.kept (Q := Q2) (fun g hg hl => ks.other g (fun e => nQ2 (e ▸ hg))) (fun _ c => c)
        have hM6 := kk.maxL (show ¬ mxB = c2 by omega) hMr
        have hB6 := hBr.trans (ks.below (B := w.heap.size) (by omega))
        clear ks kk tw nd1 nd2 hMr hBr qc1 qc2 nP1 nP2 nQ1 nQ2
        generalize ((((((w6.setCell ⟨c2, 0, none⟩ (.string tx2n)).setCell ⟨c2, 1, none⟩ (.int .i64 (told2n : Nat))).setCell ⟨c2, 2, none⟩ (.int .i64 (depF rs2n))).setCell ⟨c2, 3, none⟩ (.bool ov2n)).setCell ⟨c2, 4, none⟩ (.int .i64 co2n)).setCell ⟨c2, 5, none⟩ (.int .i64 qq2n)) = w7 at q9 qo tw3 nd1b nd2b hM6 hB6 hH2 ⊢
        have qc2 := q9
        have qc1 := qo
        clear q9 qo
        refine hKK.out _ _ hH2 ?_
        clear hHeld
        intro hHeld
        clear hKK KK
        try simp only [Act.put, List.setIfInBounds_toArray, List.set_cons_zero, List.set_cons_succ]
        clear hH2
        refine take' 11 (v := ?_) rfl (by kernel_rfl) (by kernel_rfl) (by kernel_rfl) (fun _ _ _ h => h) (Or.inl ⟨by rfl, ?_⟩) (by assumption) ?_
        rotate_left
        · intro w9 hSw
          go_simp
          first | done | with_reducible rfl
        simp only [Act.put, List.setIfInBounds_toArray, List.set_cons_zero, List.set_cons_succ]
        refine take' 12 (v := ?_) rfl (by kernel_rfl) (by kernel_rfl) (by kernel_rfl) (fun _ _ _ h => h) (Or.inl ⟨by rfl, ?_⟩) (by assumption) ?_
        rotate_left
        · intro w9 hSw
          go_simp
          first | done | with_reducible rfl
        simp only [Act.put, List.setIfInBounds_toArray, List.set_cons_zero, List.set_cons_succ]
        refine wpAnyH_done (by kernel_rfl) ?_ _
        clear hHeld
        have GA := hideT (alikeL nd1b nd2b)
        clear nd1b nd2b
        go_wp2_with fail
        refine GA.out.mono ?_
        rintro e w8 ⟨rfl, b8⟩
        have tw := tw3.later b8
        have hMr := hM6.on b8
        have hBr := hB6.trans (b8.mono hB6.size)
        replace qc1 := qc1.later b8
        replace qc2 := qc2.later b8
        clear GA tw3 hM6 hB6 b8
        go_wp2
        go_roundw
        case rel => exact ⟨k + 1, rs1, rs2n, X1, P1, X2n, P2n, tx1, told1, ov1, co1, qq1, tx2n, told2n, ov2n, co2n, qq2n, by omega, by go_num, qc1, qc2, tw, rf1, rf2n, ⟨hX11, hX12, hX2n1, hX2n2⟩, hMr, hBr, fun o p e => by rw [show min (k + 1) n1 = min k n1 by omega]; exact hrd1 o p e, by rw [show min (k + 1) n1 = min k n1 by omega]; exact htx1, fun o p e => by rw [show min (k + 1) n2 = k + 1 by omega, HT2.out]; exact hRD2 o p e, by rw [show min (k + 1) n2 = k + 1 by omega, HT2.out]; omega⟩
        case measure => simp [intOf]; omega
      · have hki2 : ¬ (k : Int) < (n2 : Int) := by omega
        go_wp2_with fail
        have y1 := qc1.cell 2
        have y2 := qc2.cell 2
        simp only [List.getElem?_toArray, List.getElem?_cons_zero, List.getElem?_cons_succ] at y1 y2
        have bD : Below wr.heap.size wr wr.drew := (Below.refl _ _).drew
        have ky1 := below_cell bD y1
        have ky2 := below_cell bD y2
        replace hBr := hBr.trans (bD.mono hBr.size)
        replace tw := tw.later bD
        refine wp_region_held_drew (S := fun w' => w'.cell? ⟨c1, 2, none⟩ = some (.int .i64 (depF rs1)) ∧ w'.cell? ⟨c2, 2, none⟩ = some (.int .i64 (depF rs2))) (by kernel_rfl) ⟨ky1, ky2⟩ (fun hHeld => ?_)
        clear ky1 ky2
        generalize wr.drew = w10 at bD tw hBr hHeld ⊢
        clear bD y1 y2
        refine take' 0 (v := ?_) rfl (by kernel_rfl) (by kernel_rfl) (by kernel_rfl) (fun _ _ _ h => h) (Or.inl ⟨by rfl, ?_⟩) (by assumption) ?_
        rotate_left
        · intro w9 hSw
          go_simp
          first | done | with_reducible rfl
        simp only [Act.put, List.setIfInBounds_toArray, List.set_cons_zero, List.set_cons_succ]
        refine take' 2 (v := ?_) rfl (by kernel_rfl) (by kernel_rfl) (by kernel_rfl) (fun _ _ _ h => h) (Or.inl ⟨by rfl, ?_⟩) (by assumption) ?_
        rotate_left
        · intro w9 hSw
          go_simp
          first | done | with_reducible rfl
        simp only [Act.put, List.setIfInBounds_toArray, List.set_cons_zero, List.set_cons_succ]
        refine take' 3 (v := ?_) rfl (by kernel_rfl) (by kernel_rfl) (by kernel_rfl) (fun _ _ _ h => h) (Or.inl ⟨by rfl, ?_⟩) (by assumption) ?_
        rotate_left
        · intro w9 hSw
          go_simp
          first | done | with_reducible rfl
        simp only [Act.put, List.setIfInBounds_toArray, List.set_cons_zero, List.set_cons_succ]
        refine wpAnyH_ready (rs := [1]) (by kernel_rfl) (by simp) ?_
        refine cons' rfl (fun KK hKK => ?_)
        go_simp
        obtain ⟨p5, v5, en5, e5, q5, hblk⟩ := tw.one.depth
        refine (depth_is b1 p5 v5 _ en5 e5 q5 _ hblk).mono ?_
        rintro e w12 ⟨rfl, rfl⟩
        clear hblk
        go_wp2_with fail
        refine hKK.out _ _ hHeld ?_
        clear hHeld
        intro hHeld
        clear hKK KK
        try simp only [Act.put, List.setIfInBounds_toArray, List.set_cons_zero, List.set_cons_succ]
        refine take' 4 (v := ?_) rfl (by kernel_rfl) (by kernel_rfl) (by kernel_rfl) (fun _ _ _ h => h) (Or.inl ⟨by rfl, ?_⟩) (by assumption) ?_
        rotate_left
        · intro w9 hSw
          go_simp
          first | done | with_reducible rfl
        simp only [Act.put, List.setIfInBounds_toArray, List.set_cons_zero, List.set_cons_succ]
        refine take' 5 (v := ?_) rfl (by kernel_rfl) (by kernel_rfl) (by kernel_rfl) (fun _ _ _ h => h) (Or.inl ⟨by rfl, ?_⟩) (by assumption) ?_
        rotate_left
        · intro w9 hSw
          go_simp
          first | done | with_reducible rfl
        simp only [Act.put, List.setIfInBounds_toArray, List.set_cons_zero, List.set_cons_succ]
        refine take' 6 (v := ?_) rfl (by kernel_rfl) (by kernel_rfl) (by kernel_rfl) (fun _ _ _ h => h) (Or.inl ⟨by rfl, ?_⟩) (by assumption) ?_
        rotate_left
        · intro w9 hSw
          go_simp
          first | done | with_reducible rfl
        simp only [Act.put, List.setIfInBounds_toArray, List.set_cons_zero, List.set_cons_succ]
        refine take' 8 (v := ?_) rfl (by kernel_rfl) (by kernel_rfl) (by kernel_rfl) (fun _ _ _ h => h) (Or.inl ⟨by rfl, ?_⟩) (by assumption) ?_
        rotate_left
        · intro w9 hSw
          go_simp
          first | done | with_reducible rfl
        simp only [Act.put, List.setIfInBounds_toArray, List.set_cons_zero, List.set_cons_succ]
        refine take' 9 (v := ?_) rfl (by kernel_rfl) (by kernel_rfl) (by kernel_rfl) (fun _ _ _ h => h) (Or.inl ⟨by rfl, ?_⟩) (by assumption) ?_
        rotate_left
        · intro w9 hSw
          go_simp
          first | done | with_reducible rfl
        simp only [Act.put, List.setIfInBounds_toArray, List.set_cons_zero, List.set_cons_succ]
        refine wpAnyH_ready (rs := [7]) (by kernel_rfl) (by simp) ?_
        refine cons' rfl (fun KK hKK => ?_)
        go_simp
        obtain ⟨p5, v5, en5, e5, q5, hblk⟩ := tw.two.depth
        refine (depth_is b2 p5 v5 _ en5 e5 q5 _ hblk).mono ?_
        rintro e w12 ⟨rfl, rfl⟩
        clear hblk
        go_wp2_with fail
        refine hKK.out _ _ hHeld ?_
        clear hHeld
        intro hHeld
        clear hKK KK
        try simp only [Act.put, List.setIfInBounds_toArray, List.set_cons_zero, List.set_cons_succ]
        refine take' 10 (v := ?_) rfl (by kernel_rfl) (by kernel_rfl) (by kernel_rfl) (fun _ _ _ h => h) (Or.inl ⟨by rfl, ?_⟩) (by assumption) ?_
        rotate_left
        · intro w9 hSw
          go_simp
          first | done | with_reducible rfl
        simp only [Act.put, List.setIfInBounds_toArray, List.set_cons_zero, List.set_cons_succ]
        refine take' 11 (v := ?_) rfl (by kernel_rfl) (by kernel_rfl) (by kernel_rfl) (fun _ _ _ h => h) (Or.inl ⟨by rfl, ?_⟩) (by assumption) ?_
        rotate_left
        · intro w9 hSw
          go_simp
          first | done | with_reducible rfl
        simp only [Act.put, List.setIfInBounds_toArray, List.set_cons_zero, List.set_cons_succ]
        refine take' 12 (v := ?_) rfl (by kernel_rfl) (by kernel_rfl) (by kernel_rfl) (fun _ _ _ h => h) (Or.inl ⟨by rfl, ?_⟩) (by assumption) ?_
        rotate_left
        · intro w9 hSw
          go_simp
          first | done | with_reducible rfl
        simp only [Act.put, List.setIfInBounds_toArray, List.set_cons_zero, List.set_cons_succ]
        refine wpAnyH_done (by kernel_rfl) ?_ _
        clear hHeld
        go_wp2
        go_ret
        exact ⟨rfl, hBr⟩
end Go.Proofs.YtibeiggedmabkaaDoor
