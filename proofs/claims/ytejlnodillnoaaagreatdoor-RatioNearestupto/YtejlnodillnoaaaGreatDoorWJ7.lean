import Derived.Test.YtejlnodillnoaaaGreatDoorWJ2
import Derived.Test.YtejlnodillnoaaaGreatDoorWI3
import Derived.Test.YtejlnodillnoaaaGreatDoorWI2
import Derived.Test.YtejlnodillnoaaaGreatDoorWQ5
import Derived.Test.YtejlnodillnoaaaGreatDoorNumZ
set_option linter.unusedSimpArgs false
namespace Go.Proofs.YtejlnodillnoaaaGreatDoor
open Go.RowKit
set_option linter.unusedVariables false
set_option maxHeartbeats 8000000 in
set_option maxRecDepth 100000 in
theorem mixed_is (Z0 Z1 Z2 Z3:Int) (p0 p1 p2 p3:Option Addr) (s:Bool) (a:Option Addr) (n c X:Nat) (A B:Int) (w:World) (h0:Seg w p0 (am Z0) (ln (am Z0))) (l0:ln (am Z0)≤35184372088000) (h1:Seg w p1 (am Z1) (ln (am Z1))) (l1:ln (am Z1)≤35184372088000) (h2:Seg w p2 (am Z2) (ln (am Z2))) (l2:ln (am Z2)≤35184372088000) (h3:Seg w p3 (am Z3) (ln (am Z3))) (l3:ln (am Z3)≤35184372088000) (hc:n≤c) (hn:n≤35184372088000) (hS:Seg w a X n) (hA:Z2*sg s X+Z0=A) (hB:Z3*sg s X+Z1=B) :
  Calls Tryz.prog 85 #[.agg #[.bool (ng Z0),.slice p0 (ln (am Z0)) (ln (am Z0)),.bool (ng Z1),.slice p1 (ln (am Z1)) (ln (am Z1)),.bool (ng Z2),.slice p2 (ln (am Z2)) (ln (am Z2)),.bool (ng Z3),.slice p3 (ln (am Z3)) (ln (am Z3))],.agg #[.bool s,.slice a n c]] w fun e w'=>∃ pa pb,e=.returned (.agg #[.bool (ng A),.slice pa (ln (am A)) (ln (am A)),.bool (ng B),.slice pb (ln (am B)) (ln (am B))])∧Below w.heap.size w w'∧Seg w' pa (am A) (ln (am A))∧Seg w' pb (am B) (ln (am B)):=by
 obtain ⟨M2,hM2⟩:∃ M,Z2*sg s X=M:=⟨_,rfl⟩
 obtain ⟨M3,hM3⟩:∃ M,Z3*sg s X=M:=⟨_,rfl⟩
 rw [hM2] at hA
 rw [hM3] at hB
 have lM2:ln (am M2)≤70368744176100:=by rw [←hM2,am_mul,am_sg];have:=ln_prod (ln_lt (am Z2)) hS.1;omega
 have lM3:ln (am M3)≤70368744176100:=by rw [←hM3,am_mul,am_sg];have:=ln_prod (ln_lt (am Z3)) hS.1;omega
 have G1:=hide' (fun w' k1 k2=>wMul_is (ng Z2) p2 (ln (am Z2)) (ln (am Z2)) (am Z2) s a n c X M2 w' (Nat.le_refl _) (by omega) k1 hc (by omega) k2 (by rw [sg_na];exact hM2))
 have G2:=hide' (fun w' k1 k2=>wMul_is (ng Z3) p3 (ln (am Z3)) (ln (am Z3)) (am Z3) s a n c X M3 w' (Nat.le_refl _) (by omega) k1 hc (by omega) k2 (by rw [sg_na];exact hM3))
 have G3:=hide' (fun w' p k1 k2=>wAdd_is (ng M2) p (ln (am M2)) (ln (am M2)) (am M2) (ng Z0) p0 (ln (am Z0)) (ln (am Z0)) (am Z0) A w' (Nat.le_refl _) (by omega) k1 (Nat.le_refl _) (by omega) k2 (by rw [sg_na,sg_na];exact hA))
 have G4:=hide' (fun w' p k1 k2=>wAdd_is (ng M3) p (ln (am M3)) (ln (am M3)) (am M3) (ng Z1) p1 (ln (am Z1)) (ln (am Z1)) (am Z1) B w' (Nat.le_refl _) (by omega) k1 (Nat.le_refl _) (by omega) k2 (by rw [sg_na,sg_na];exact hB))
 clear hA hB hM2 hM3
 have b1:=below_alloc (w:=w) (.cells #[.bool (ng Z0),.slice p0 (ln (am Z0)) (ln (am Z0)),.bool (ng Z1),.slice p1 (ln (am Z1)) (ln (am Z1)),.bool (ng Z2),.slice p2 (ln (am Z2)) (ln (am Z2)),.bool (ng Z3),.slice p3 (ln (am Z3)) (ln (am Z3))] 68)
 have b2:=b1.alloc (by simp) (.cells #[.bool s,.slice a n c] 25)
 have b3:=b2.alloc (by simp;omega) (.cells #[.bool false,.slice none 0 0,.bool false,.slice none 0 0] 43)
 have q1:=(Blk.new w #[.bool (ng Z0),.slice p0 (ln (am Z0)) (ln (am Z0)),.bool (ng Z1),.slice p1 (ln (am Z1)) (ln (am Z1)),.bool (ng Z2),.slice p2 (ln (am Z2)) (ln (am Z2)),.bool (ng Z3),.slice p3 (ln (am Z3)) (ln (am Z3))] 68).later ((below_alloc (.cells #[.bool s,.slice a n c] 25)).trans ((below_alloc (.cells #[.bool false,.slice none 0 0,.bool false,.slice none 0 0] 43)).mono (below_alloc _).size))
 have q2:=(Blk.new (w.alloc (.cells #[.bool (ng Z0),.slice p0 (ln (am Z0)) (ln (am Z0)),.bool (ng Z1),.slice p1 (ln (am Z1)) (ln (am Z1)),.bool (ng Z2),.slice p2 (ln (am Z2)) (ln (am Z2)),.bool (ng Z3),.slice p3 (ln (am Z3)) (ln (am Z3))] 68)) #[.bool s,.slice a n c] 25).later (below_alloc (.cells #[.bool false,.slice none 0 0,.bool false,.slice none 0 0] 43))
 have q3:=Blk.new ((w.alloc (.cells #[.bool (ng Z0),.slice p0 (ln (am Z0)) (ln (am Z0)),.bool (ng Z1),.slice p1 (ln (am Z1)) (ln (am Z1)),.bool (ng Z2),.slice p2 (ln (am Z2)) (ln (am Z2)),.bool (ng Z3),.slice p3 (ln (am Z3)) (ln (am Z3))] 68)).alloc (.cells #[.bool s,.slice a n c] 25)) #[.bool false,.slice none 0 0,.bool false,.slice none 0 0] 43
 simp only [World.size_alloc] at q2 q3
 replace h0:=h0.later b3
 replace h1:=h1.later b3
 replace h2:=h2.later b3
 replace h3:=h3.later b3
 replace hS:=hS.later b3
 go_enter Tryz.func85,Tryz.ntmps85
 go_wp2_with fail
 obtain ⟨W,hW⟩:∃ W,((w.alloc (.cells #[.bool (ng Z0),.slice p0 (ln (am Z0)) (ln (am Z0)),.bool (ng Z1),.slice p1 (ln (am Z1)) (ln (am Z1)),.bool (ng Z2),.slice p2 (ln (am Z2)) (ln (am Z2)),.bool (ng Z3),.slice p3 (ln (am Z3)) (ln (am Z3))] 68)).alloc (.cells #[.bool s,.slice a n c] 25)).alloc (.cells #[.bool false,.slice none 0 0,.bool false,.slice none 0 0] 43)=W:=⟨_,rfl⟩
 rw [hW] at b3 q1 q2 q3 h0 h1 h2 h3 hS ⊢
 clear hW b1 b2
 have x0:=q1.cell 0
 have x1:=q1.cell 1
 have x2:=q1.cell 2
 have x3:=q1.cell 3
 have x4:=q1.cell 4
 have x5:=q1.cell 5
 have x6:=q1.cell 6
 have x7:=q1.cell 7
 have y0:=q2.cell 0
 have y1:=q2.cell 1
 simp only [List.getElem?_toArray,List.getElem?_cons_zero,List.getElem?_cons_succ] at x0 x1 x2 x3 x4 x5 x6 x7 y0 y1
 clear q1 q2
 have bD:Below W.heap.size W W.drew:=(Below.refl _ _).drew
 have kx0:=below_cell bD x0
 have kx1:=below_cell bD x1
 have kx2:=below_cell bD x2
 have kx3:=below_cell bD x3
 have kx4:=below_cell bD x4
 have kx5:=below_cell bD x5
 have kx6:=below_cell bD x6
 have kx7:=below_cell bD x7
 have ky0:=below_cell bD y0
 have ky1:=below_cell bD y1
 replace b3:=b3.trans (bD.mono b3.size)
 replace h0:=h0.later bD
 replace h1:=h1.later bD
 replace h2:=h2.later bD
 replace h3:=h3.later bD
 replace hS:=hS.later bD
 replace q3:=q3.later bD
 refine wp_region_held_drew (S:=fun w'=>w'.cell? ⟨w.heap.size,0,none⟩=some (.bool (ng Z0))∧w'.cell? ⟨w.heap.size,1,none⟩=some (.slice p0 (ln (am Z0)) (ln (am Z0)))∧w'.cell? ⟨w.heap.size,2,none⟩=some (.bool (ng Z1))∧w'.cell? ⟨w.heap.size,3,none⟩=some (.slice p1 (ln (am Z1)) (ln (am Z1)))∧w'.cell? ⟨w.heap.size,4,none⟩=some (.bool (ng Z2))∧w'.cell? ⟨w.heap.size,5,none⟩=some (.slice p2 (ln (am Z2)) (ln (am Z2)))∧w'.cell? ⟨w.heap.size,6,none⟩=some (.bool (ng Z3))∧w'.cell? ⟨w.heap.size,7,none⟩=some (.slice p3 (ln (am Z3)) (ln (am Z3)))∧w'.cell? ⟨w.heap.size+1,0,none⟩=some (.bool s)∧w'.cell? ⟨w.heap.size+1,1,none⟩=some (.slice a n c)) (by kernel_rfl) ⟨kx0,kx1,kx2,kx3,kx4,kx5,kx6,kx7,ky0,ky1⟩ (fun hHeld=>?_)
 clear kx0 kx1 kx2 kx3 kx4 kx5 kx6 kx7 ky0 ky1
 generalize W.drew=wF0 at bD h0 h1 h2 h3 hS q3 b3 hHeld ⊢
 clear bD x0 x1 x2 x3 x4 x5 x6 x7 y0 y1
 refine tk 0 (v:=?_) rfl (Or.inl ⟨by rfl,?_⟩) ?_
 rotate_left
 ·intro w9 hSw
  go_simp
  first | done | with_reducible rfl
 simp only [pP,pN,pS,pZ,pC]
 refine tk 1 (v:=?_) rfl (Or.inl ⟨by rfl,?_⟩) ?_
 rotate_left
 ·intro w9 hSw
  go_simp
  first | done | with_reducible rfl
 simp only [pP,pN,pS,pZ,pC]
 refine tk 2 (v:=?_) rfl (Or.inl ⟨by rfl,?_⟩) ?_
 rotate_left
 ·intro w9 hSw
  go_simp
  first | done | with_reducible rfl
 simp only [pP,pN,pS,pZ,pC]
 refine tk 3 (v:=?_) rfl (Or.inl ⟨by rfl,?_⟩) ?_
 rotate_left
 ·intro w9 hSw
  go_simp
  first | done | with_reducible rfl
 simp only [pP,pN,pS,pZ,pC]
 refine tk 5 (v:=?_) rfl (Or.inl ⟨by rfl,?_⟩) ?_
 rotate_left
 ·intro w9 hSw
  go_simp
  first | done | with_reducible rfl
 simp only [pP,pN,pS,pZ,pC]
 refine tk 6 (v:=?_) rfl (Or.inl ⟨by rfl,?_⟩) ?_
 rotate_left
 ·intro w9 hSw
  go_simp
  first | done | with_reducible rfl
 simp only [pP,pN,pS,pZ,pC]
 refine tk 7 (v:=?_) rfl (Or.inl ⟨by rfl,?_⟩) ?_
 rotate_left
 ·intro w9 hSw
  go_simp
  first | done | with_reducible rfl
 simp only [pP,pN,pS,pZ,pC]
 refine tk 9 (v:=?_) rfl (Or.inl ⟨by rfl,?_⟩) ?_
 rotate_left
 ·intro w9 hSw
  go_simp
  first | done | with_reducible rfl
 simp only [pP,pN,pS,pZ,pC]
 refine tk 10 (v:=?_) rfl (Or.inl ⟨by rfl,?_⟩) ?_
 rotate_left
 ·intro w9 hSw
  go_simp
  first | done | with_reducible rfl
 simp only [pP,pN,pS,pZ,pC]
 refine tk 11 (v:=?_) rfl (Or.inl ⟨by rfl,?_⟩) ?_
 rotate_left
 ·intro w9 hSw
  go_simp
  first | done | with_reducible rfl
 simp only [pP,pN,pS,pZ,pC]
 refine tk 12 (v:=?_) rfl (Or.inl ⟨by rfl,?_⟩) ?_
 rotate_left
 ·intro w9 hSw
  go_simp
  first | done | with_reducible rfl
 simp only [pP,pN,pS,pZ,pC]
 refine tk 14 (v:=?_) rfl (Or.inl ⟨by rfl,?_⟩) ?_
 rotate_left
 ·intro w9 hSw
  go_simp
  first | done | with_reducible rfl
 simp only [pP,pN,pS,pZ,pC]
 refine tk 15 (v:=?_) rfl (Or.inl ⟨by rfl,?_⟩) ?_
 rotate_left
 ·intro w9 hSw
  go_simp
  first | done | with_reducible rfl
 simp only [pP,pN,pS,pZ,pC]
 refine tk 16 (v:=?_) rfl (Or.inl ⟨by rfl,?_⟩) ?_
 rotate_left
 ·intro w9 hSw
  go_simp
  first | done | with_reducible rfl
 simp only [pP,pN,pS,pZ,pC]
 refine wpAnyH_ready (rs:=[4]) (by kernel_rfl) (by simp) ?_
 refine cons' rfl (fun KK hKK=>?_)
 go_simp
 refine (G1.out _ h2 hS).mono ?_
 rintro e wF1 ⟨pm,rfl,nw⟩
 have bC:=nw.below
 replace b3:=b3.trans (bC.mono b3.size)
 replace h0:=h0.later bC
 replace h1:=h1.later bC
 replace h2:=h2.later bC
 replace h3:=h3.later bC
 replace hS:=hS.later bC
 replace q3:=q3.later bC
 replace hHeld:=(⟨below_cell bC hHeld.1,below_cell bC hHeld.2.1,below_cell bC hHeld.2.2.1,below_cell bC hHeld.2.2.2.1,below_cell bC hHeld.2.2.2.2.1,below_cell bC hHeld.2.2.2.2.2.1,below_cell bC hHeld.2.2.2.2.2.2.1,below_cell bC hHeld.2.2.2.2.2.2.2.1,below_cell bC hHeld.2.2.2.2.2.2.2.2.1,below_cell bC hHeld.2.2.2.2.2.2.2.2.2⟩:_∧_∧_∧_∧_∧_∧_∧_∧_∧_)
 clear bC
 go_wp2_with fail
 have k2:=nw.seg
 clear nw
 refine hKK.out _ _ hHeld ?_
 clear hHeld
 intro hHeld
 clear hKK KK
 try simp only [pP,pN,pS,pZ,pC]
 refine wpAnyH_ready (rs:=[8]) (by kernel_rfl) (by simp) ?_
 refine cons' rfl (fun KK hKK=>?_)
 go_simp
 refine (G3.out _ pm k2 h0).mono ?_
 rintro e wF2 ⟨pa,rfl,nw⟩
 have bC:=nw.below
 replace b3:=b3.trans (bC.mono b3.size)
 replace h0:=h0.later bC
 replace h1:=h1.later bC
 replace h2:=h2.later bC
 replace h3:=h3.later bC
 replace hS:=hS.later bC
 replace q3:=q3.later bC
 replace k2:=k2.later bC
 replace hHeld:=(⟨below_cell bC hHeld.1,below_cell bC hHeld.2.1,below_cell bC hHeld.2.2.1,below_cell bC hHeld.2.2.2.1,below_cell bC hHeld.2.2.2.2.1,below_cell bC hHeld.2.2.2.2.2.1,below_cell bC hHeld.2.2.2.2.2.2.1,below_cell bC hHeld.2.2.2.2.2.2.2.1,below_cell bC hHeld.2.2.2.2.2.2.2.2.1,below_cell bC hHeld.2.2.2.2.2.2.2.2.2⟩:_∧_∧_∧_∧_∧_∧_∧_∧_∧_)
 clear bC
 go_wp2_with fail
 have ka:=nw.seg
 clear nw
 refine hKK.out _ _ hHeld ?_
 clear hHeld
 intro hHeld
 clear hKK KK
 try simp only [pP,pN,pS,pZ,pC]
 refine wpAnyH_ready (rs:=[13]) (by kernel_rfl) (by simp) ?_
 refine cons' rfl (fun KK hKK=>?_)
 go_simp
 refine (G2.out _ h3 hS).mono ?_
 rintro e wF3 ⟨pn,rfl,nw⟩
 have bC:=nw.below
 replace b3:=b3.trans (bC.mono b3.size)
 replace h0:=h0.later bC
 replace h1:=h1.later bC
 replace h2:=h2.later bC
 replace h3:=h3.later bC
 replace hS:=hS.later bC
 replace q3:=q3.later bC
 replace k2:=k2.later bC
 replace ka:=ka.later bC
 replace hHeld:=(⟨below_cell bC hHeld.1,below_cell bC hHeld.2.1,below_cell bC hHeld.2.2.1,below_cell bC hHeld.2.2.2.1,below_cell bC hHeld.2.2.2.2.1,below_cell bC hHeld.2.2.2.2.2.1,below_cell bC hHeld.2.2.2.2.2.2.1,below_cell bC hHeld.2.2.2.2.2.2.2.1,below_cell bC hHeld.2.2.2.2.2.2.2.2.1,below_cell bC hHeld.2.2.2.2.2.2.2.2.2⟩:_∧_∧_∧_∧_∧_∧_∧_∧_∧_)
 clear bC
 go_wp2_with fail
 have k3:=nw.seg
 clear nw
 refine hKK.out _ _ hHeld ?_
 clear hHeld
 intro hHeld
 clear hKK KK
 try simp only [pP,pN,pS,pZ,pC]
 refine wpAnyH_ready (rs:=[17]) (by kernel_rfl) (by simp) ?_
 refine cons' rfl (fun KK hKK=>?_)
 go_simp
 refine (G4.out _ pn k3 h1).mono ?_
 rintro e wF4 ⟨pb,rfl,nw⟩
 have bC:=nw.below
 replace b3:=b3.trans (bC.mono b3.size)
 replace h0:=h0.later bC
 replace h1:=h1.later bC
 replace h2:=h2.later bC
 replace h3:=h3.later bC
 replace hS:=hS.later bC
 replace q3:=q3.later bC
 replace k2:=k2.later bC
 replace ka:=ka.later bC
 replace k3:=k3.later bC
 replace hHeld:=(⟨below_cell bC hHeld.1,below_cell bC hHeld.2.1,below_cell bC hHeld.2.2.1,below_cell bC hHeld.2.2.2.1,below_cell bC hHeld.2.2.2.2.1,below_cell bC hHeld.2.2.2.2.2.1,below_cell bC hHeld.2.2.2.2.2.2.1,below_cell bC hHeld.2.2.2.2.2.2.2.1,below_cell bC hHeld.2.2.2.2.2.2.2.2.1,below_cell bC hHeld.2.2.2.2.2.2.2.2.2⟩:_∧_∧_∧_∧_∧_∧_∧_∧_∧_)
 clear bC
 go_wp2_with fail
 have kb:=nw.seg
 clear nw
 refine hKK.out _ _ hHeld ?_
 clear hHeld
 intro hHeld
 clear hKK KK
 try simp only [pP,pN,pS,pZ,pC]
 refine tk 18 (v:=?_) rfl (Or.inl ⟨by rfl,?_⟩) ?_
 rotate_left
 ·intro w9 hSw
  go_simp
  first | done | with_reducible rfl
 simp only [pP,pN,pS,pZ,pC]
 refine wpAnyH_ready (rs:=[19]) (by kernel_rfl) (by simp) ?_
 refine cons' rfl (fun KK hKK=>?_)
 have z0:=q3.cell 0
 have z1:=q3.cell 1
 have z2:=q3.cell 2
 have z3:=q3.cell 3
 simp only [List.getElem?_toArray,List.getElem?_cons_zero,List.getElem?_cons_succ] at z0 z1 z2 z3
 have fz:=fun o=>q3.frozen o
 obtain ⟨c9,q9⟩:=q3.set4 (.bool (ng A)) (.slice pa (ln (am A)) (ln (am A))) (.bool (ng B)) (.slice pb (ln (am B)) (ln (am B)))
 have hno:=q3.no (by simp)
 replace ka:=ka.ch c9 hno
 replace kb:=kb.ch c9 hno
 have b9:=b3.trans (c9.below (by omega))
 have hH2:=(⟨(World.cell?_of_block (w:=wF4) (a:=⟨w.heap.size,0,none⟩) (c9.other (w.heap.size) (by omega))).trans hHeld.1,(World.cell?_of_block (w:=wF4) (a:=⟨w.heap.size,1,none⟩) (c9.other (w.heap.size) (by omega))).trans hHeld.2.1,(World.cell?_of_block (w:=wF4) (a:=⟨w.heap.size,2,none⟩) (c9.other (w.heap.size) (by omega))).trans hHeld.2.2.1,(World.cell?_of_block (w:=wF4) (a:=⟨w.heap.size,3,none⟩) (c9.other (w.heap.size) (by omega))).trans hHeld.2.2.2.1,(World.cell?_of_block (w:=wF4) (a:=⟨w.heap.size,4,none⟩) (c9.other (w.heap.size) (by omega))).trans hHeld.2.2.2.2.1,(World.cell?_of_block (w:=wF4) (a:=⟨w.heap.size,5,none⟩) (c9.other (w.heap.size) (by omega))).trans hHeld.2.2.2.2.2.1,(World.cell?_of_block (w:=wF4) (a:=⟨w.heap.size,6,none⟩) (c9.other (w.heap.size) (by omega))).trans hHeld.2.2.2.2.2.2.1,(World.cell?_of_block (w:=wF4) (a:=⟨w.heap.size,7,none⟩) (c9.other (w.heap.size) (by omega))).trans hHeld.2.2.2.2.2.2.2.1,(World.cell?_of_block (w:=wF4) (a:=⟨w.heap.size+1,0,none⟩) (c9.other (w.heap.size+1) (by omega))).trans hHeld.2.2.2.2.2.2.2.2.1,(World.cell?_of_block (w:=wF4) (a:=⟨w.heap.size+1,1,none⟩) (c9.other (w.heap.size+1) (by omega))).trans hHeld.2.2.2.2.2.2.2.2.2⟩:_∧_∧_∧_∧_∧_∧_∧_∧_∧_)
 have v0:=q9.cell 0
 have v1:=q9.cell 1
 have v2:=q9.cell 2
 have v3:=q9.cell 3
 simp only [List.getElem?_toArray,List.getElem?_cons_zero,List.getElem?_cons_succ] at v0 v1 v2 v3
 clear c9 q9 hno
 go_simp
 clear z0 z1 z2 z3 fz q3
 refine hKK.out _ _ hH2 ?_
 clear hHeld
 intro hHeld
 clear hKK KK
 try simp only [pP,pN,pS,pZ,pC]
 clear hH2
 refine wpAnyH_done (by kernel_rfl) ?_ _
 go_wp2_with fail
 refine bodyPost_ret (v:=.agg #[.bool (ng A),.slice pa (ln (am A)) (ln (am A)),.bool (ng B),.slice pb (ln (am B)) (ln (am B))]) (by rw [results_cell rfl];go_simp) rfl ?_
 exact ⟨pa,pb,rfl,b9,ka,kb⟩
set_option maxHeartbeats 8000000 in
set_option maxRecDepth 100000 in
theorem longer_is (Z0 Z1 Z2 Z3:Int) (p0 p1 p2 p3:Option Addr) (s:Bool) (a:Option Addr) (n c X:Nat) (A B:Int) (w:World) (h0:Seg w p0 (am Z0) (ln (am Z0))) (l0:ln (am Z0)≤35184372088000) (h1:Seg w p1 (am Z1) (ln (am Z1))) (l1:ln (am Z1)≤35184372088000) (h2:Seg w p2 (am Z2) (ln (am Z2))) (l2:ln (am Z2)≤35184372088000) (h3:Seg w p3 (am Z3) (ln (am Z3))) (l3:ln (am Z3)≤35184372088000) (hc:n≤c) (hn:n≤35184372088000) (hS:Seg w a X n) (hA:Z2*sg s X+Z0=A) (hB:Z3*sg s X+Z1=B) :
  Calls Tryz.prog 48 #[.agg #[.bool (ng Z0),.slice p0 (ln (am Z0)) (ln (am Z0)),.bool (ng Z1),.slice p1 (ln (am Z1)) (ln (am Z1)),.bool (ng Z2),.slice p2 (ln (am Z2)) (ln (am Z2)),.bool (ng Z3),.slice p3 (ln (am Z3)) (ln (am Z3))],.agg #[.bool s,.slice a n c]] w fun e w'=>∃ pa pb,e=.returned (.agg #[.bool (ng Z2),.slice p2 (ln (am Z2)) (ln (am Z2)),.bool (ng Z3),.slice p3 (ln (am Z3)) (ln (am Z3)),.bool (ng A),.slice pa (ln (am A)) (ln (am A)),.bool (ng B),.slice pb (ln (am B)) (ln (am B))])∧Below w.heap.size w w'∧Seg w' pa (am A) (ln (am A))∧Seg w' pb (am B) (ln (am B)):=by
 have G1:=hide' (fun w' k0 k1 k2 k3 k4=>mixed_is Z0 Z1 Z2 Z3 p0 p1 p2 p3 s a n c X A B w' k0 l0 k1 l1 k2 l2 k3 l3 hc hn k4 hA hB)
 clear hA hB
 have b1:=below_alloc (w:=w) (.cells #[.bool (ng Z0),.slice p0 (ln (am Z0)) (ln (am Z0)),.bool (ng Z1),.slice p1 (ln (am Z1)) (ln (am Z1)),.bool (ng Z2),.slice p2 (ln (am Z2)) (ln (am Z2)),.bool (ng Z3),.slice p3 (ln (am Z3)) (ln (am Z3))] 68)
 have b2:=b1.alloc (by simp) (.cells #[.bool s,.slice a n c] 25)
 have b3:=b2.alloc (by simp;omega) (.cells #[.bool false,.slice none 0 0,.bool false,.slice none 0 0,.bool false,.slice none 0 0,.bool false,.slice none 0 0] 68)
 have q1:=(Blk.new w #[.bool (ng Z0),.slice p0 (ln (am Z0)) (ln (am Z0)),.bool (ng Z1),.slice p1 (ln (am Z1)) (ln (am Z1)),.bool (ng Z2),.slice p2 (ln (am Z2)) (ln (am Z2)),.bool (ng Z3),.slice p3 (ln (am Z3)) (ln (am Z3))] 68).later ((below_alloc (.cells #[.bool s,.slice a n c] 25)).trans ((below_alloc (.cells #[.bool false,.slice none 0 0,.bool false,.slice none 0 0,.bool false,.slice none 0 0,.bool false,.slice none 0 0] 68)).mono (below_alloc _).size))
 have q2:=(Blk.new (w.alloc (.cells #[.bool (ng Z0),.slice p0 (ln (am Z0)) (ln (am Z0)),.bool (ng Z1),.slice p1 (ln (am Z1)) (ln (am Z1)),.bool (ng Z2),.slice p2 (ln (am Z2)) (ln (am Z2)),.bool (ng Z3),.slice p3 (ln (am Z3)) (ln (am Z3))] 68)) #[.bool s,.slice a n c] 25).later (below_alloc (.cells #[.bool false,.slice none 0 0,.bool false,.slice none 0 0,.bool false,.slice none 0 0,.bool false,.slice none 0 0] 68))
 have q3:=Blk.new ((w.alloc (.cells #[.bool (ng Z0),.slice p0 (ln (am Z0)) (ln (am Z0)),.bool (ng Z1),.slice p1 (ln (am Z1)) (ln (am Z1)),.bool (ng Z2),.slice p2 (ln (am Z2)) (ln (am Z2)),.bool (ng Z3),.slice p3 (ln (am Z3)) (ln (am Z3))] 68)).alloc (.cells #[.bool s,.slice a n c] 25)) #[.bool false,.slice none 0 0,.bool false,.slice none 0 0,.bool false,.slice none 0 0,.bool false,.slice none 0 0] 68
 simp only [World.size_alloc] at q2 q3
 replace h0:=h0.later b3
 replace h1:=h1.later b3
 replace h2:=h2.later b3
 replace h3:=h3.later b3
 replace hS:=hS.later b3
 go_enter Tryz.func48,Tryz.ntmps48
 go_wp2_with fail
 obtain ⟨W,hW⟩:∃ W,((w.alloc (.cells #[.bool (ng Z0),.slice p0 (ln (am Z0)) (ln (am Z0)),.bool (ng Z1),.slice p1 (ln (am Z1)) (ln (am Z1)),.bool (ng Z2),.slice p2 (ln (am Z2)) (ln (am Z2)),.bool (ng Z3),.slice p3 (ln (am Z3)) (ln (am Z3))] 68)).alloc (.cells #[.bool s,.slice a n c] 25)).alloc (.cells #[.bool false,.slice none 0 0,.bool false,.slice none 0 0,.bool false,.slice none 0 0,.bool false,.slice none 0 0] 68)=W:=⟨_,rfl⟩
 rw [hW] at b3 q1 q2 q3 h0 h1 h2 h3 hS ⊢
 clear hW b1 b2
 have x0:=q1.cell 0
 have x1:=q1.cell 1
 have x2:=q1.cell 2
 have x3:=q1.cell 3
 have x4:=q1.cell 4
 have x5:=q1.cell 5
 have x6:=q1.cell 6
 have x7:=q1.cell 7
 have y0:=q2.cell 0
 have y1:=q2.cell 1
 simp only [List.getElem?_toArray,List.getElem?_cons_zero,List.getElem?_cons_succ] at x0 x1 x2 x3 x4 x5 x6 x7 y0 y1
 clear q1 q2
 have bD:Below W.heap.size W W.drew:=(Below.refl _ _).drew
 have kx0:=below_cell bD x0
 have kx1:=below_cell bD x1
 have kx2:=below_cell bD x2
 have kx3:=below_cell bD x3
 have kx4:=below_cell bD x4
 have kx5:=below_cell bD x5
 have kx6:=below_cell bD x6
 have kx7:=below_cell bD x7
 have ky0:=below_cell bD y0
 have ky1:=below_cell bD y1
 replace b3:=b3.trans (bD.mono b3.size)
 replace h0:=h0.later bD
 replace h1:=h1.later bD
 replace h2:=h2.later bD
 replace h3:=h3.later bD
 replace hS:=hS.later bD
 replace q3:=q3.later bD
 refine wp_region_held_drew (S:=fun w'=>w'.cell? ⟨w.heap.size,0,none⟩=some (.bool (ng Z0))∧w'.cell? ⟨w.heap.size,1,none⟩=some (.slice p0 (ln (am Z0)) (ln (am Z0)))∧w'.cell? ⟨w.heap.size,2,none⟩=some (.bool (ng Z1))∧w'.cell? ⟨w.heap.size,3,none⟩=some (.slice p1 (ln (am Z1)) (ln (am Z1)))∧w'.cell? ⟨w.heap.size,4,none⟩=some (.bool (ng Z2))∧w'.cell? ⟨w.heap.size,5,none⟩=some (.slice p2 (ln (am Z2)) (ln (am Z2)))∧w'.cell? ⟨w.heap.size,6,none⟩=some (.bool (ng Z3))∧w'.cell? ⟨w.heap.size,7,none⟩=some (.slice p3 (ln (am Z3)) (ln (am Z3)))∧w'.cell? ⟨w.heap.size+1,0,none⟩=some (.bool s)∧w'.cell? ⟨w.heap.size+1,1,none⟩=some (.slice a n c)) (by kernel_rfl) ⟨kx0,kx1,kx2,kx3,kx4,kx5,kx6,kx7,ky0,ky1⟩ (fun hHeld=>?_)
 clear kx0 kx1 kx2 kx3 kx4 kx5 kx6 kx7 ky0 ky1
 generalize W.drew=wF0 at bD h0 h1 h2 h3 hS q3 b3 hHeld ⊢
 clear bD x0 x1 x2 x3 x4 x5 x6 x7 y0 y1
 refine tk 0 (v:=?_) rfl (Or.inl ⟨by rfl,?_⟩) ?_
 rotate_left
 ·intro w9 hSw
  go_simp
  first | done | with_reducible rfl
 simp only [pP,pN,pS,pZ,pC]
 refine tk 1 (v:=?_) rfl (Or.inl ⟨by rfl,?_⟩) ?_
 rotate_left
 ·intro w9 hSw
  go_simp
  first | done | with_reducible rfl
 simp only [pP,pN,pS,pZ,pC]
 refine tk 2 (v:=?_) rfl (Or.inl ⟨by rfl,?_⟩) ?_
 rotate_left
 ·intro w9 hSw
  go_simp
  first | done | with_reducible rfl
 simp only [pP,pN,pS,pZ,pC]
 refine tk 3 (v:=?_) rfl (Or.inl ⟨by rfl,?_⟩) ?_
 rotate_left
 ·intro w9 hSw
  go_simp
  first | done | with_reducible rfl
 simp only [pP,pN,pS,pZ,pC]
 refine wpAnyH_ready (rs:=[4]) (by kernel_rfl) (by simp) ?_
 refine cons' rfl (fun KK hKK=>?_)
 go_simp
 refine (G1.out _ h0 h1 h2 h3 hS).mono ?_
 rintro e wF1 ⟨pa,pb,rfl,bV,ka,kb⟩
 have bC:=bV
 replace b3:=b3.trans (bC.mono b3.size)
 replace h0:=h0.later bC
 replace h1:=h1.later bC
 replace h2:=h2.later bC
 replace h3:=h3.later bC
 replace hS:=hS.later bC
 replace q3:=q3.later bC
 replace hHeld:=(⟨below_cell bC hHeld.1,below_cell bC hHeld.2.1,below_cell bC hHeld.2.2.1,below_cell bC hHeld.2.2.2.1,below_cell bC hHeld.2.2.2.2.1,below_cell bC hHeld.2.2.2.2.2.1,below_cell bC hHeld.2.2.2.2.2.2.1,below_cell bC hHeld.2.2.2.2.2.2.2.1,below_cell bC hHeld.2.2.2.2.2.2.2.2.1,below_cell bC hHeld.2.2.2.2.2.2.2.2.2⟩:_∧_∧_∧_∧_∧_∧_∧_∧_∧_)
 clear bC
 go_wp2_with fail
 clear bV
 refine hKK.out _ _ hHeld ?_
 clear hHeld
 intro hHeld
 clear hKK KK
 try simp only [pP,pN,pS,pZ,pC]
 refine tk 5 (v:=?_) rfl (Or.inl ⟨by rfl,?_⟩) ?_
 rotate_left
 ·intro w9 hSw
  go_simp
  first | done | with_reducible rfl
 simp only [pP,pN,pS,pZ,pC]
 refine wpAnyH_ready (rs:=[6]) (by kernel_rfl) (by simp) ?_
 refine cons' rfl (fun KK hKK=>?_)
 have z0:=q3.cell 0
 have z1:=q3.cell 1
 have z2:=q3.cell 2
 have z3:=q3.cell 3
 have z4:=q3.cell 4
 have z5:=q3.cell 5
 have z6:=q3.cell 6
 have z7:=q3.cell 7
 simp only [List.getElem?_toArray,List.getElem?_cons_zero,List.getElem?_cons_succ] at z0 z1 z2 z3 z4 z5 z6 z7
 have fz:=fun o=>q3.frozen o
 obtain ⟨c9,q9⟩:=q3.set8 (.bool (ng Z2)) (.slice p2 (ln (am Z2)) (ln (am Z2))) (.bool (ng Z3)) (.slice p3 (ln (am Z3)) (ln (am Z3))) (.bool (ng A)) (.slice pa (ln (am A)) (ln (am A))) (.bool (ng B)) (.slice pb (ln (am B)) (ln (am B)))
 have hno:=q3.no (by simp)
 replace ka:=ka.ch c9 hno
 replace kb:=kb.ch c9 hno
 have b9:=b3.trans (c9.below (by omega))
 have hH2:=(⟨(World.cell?_of_block (w:=wF1) (a:=⟨w.heap.size,0,none⟩) (c9.other (w.heap.size) (by omega))).trans hHeld.1,(World.cell?_of_block (w:=wF1) (a:=⟨w.heap.size,1,none⟩) (c9.other (w.heap.size) (by omega))).trans hHeld.2.1,(World.cell?_of_block (w:=wF1) (a:=⟨w.heap.size,2,none⟩) (c9.other (w.heap.size) (by omega))).trans hHeld.2.2.1,(World.cell?_of_block (w:=wF1) (a:=⟨w.heap.size,3,none⟩) (c9.other (w.heap.size) (by omega))).trans hHeld.2.2.2.1,(World.cell?_of_block (w:=wF1) (a:=⟨w.heap.size,4,none⟩) (c9.other (w.heap.size) (by omega))).trans hHeld.2.2.2.2.1,(World.cell?_of_block (w:=wF1) (a:=⟨w.heap.size,5,none⟩) (c9.other (w.heap.size) (by omega))).trans hHeld.2.2.2.2.2.1,(World.cell?_of_block (w:=wF1) (a:=⟨w.heap.size,6,none⟩) (c9.other (w.heap.size) (by omega))).trans hHeld.2.2.2.2.2.2.1,(World.cell?_of_block (w:=wF1) (a:=⟨w.heap.size,7,none⟩) (c9.other (w.heap.size) (by omega))).trans hHeld.2.2.2.2.2.2.2.1,(World.cell?_of_block (w:=wF1) (a:=⟨w.heap.size+1,0,none⟩) (c9.other (w.heap.size+1) (by omega))).trans hHeld.2.2.2.2.2.2.2.2.1,(World.cell?_of_block (w:=wF1) (a:=⟨w.heap.size+1,1,none⟩) (c9.other (w.heap.size+1) (by omega))).trans hHeld.2.2.2.2.2.2.2.2.2⟩:_∧_∧_∧_∧_∧_∧_∧_∧_∧_)
 have v0:=q9.cell 0
 have v1:=q9.cell 1
 have v2:=q9.cell 2
 have v3:=q9.cell 3
 have v4:=q9.cell 4
 have v5:=q9.cell 5
 have v6:=q9.cell 6
 have v7:=q9.cell 7
 simp only [List.getElem?_toArray,List.getElem?_cons_zero,List.getElem?_cons_succ] at v0 v1 v2 v3 v4 v5 v6 v7
 clear c9 q9 hno
 go_simp
 clear z0 z1 z2 z3 z4 z5 z6 z7 fz q3
 refine hKK.out _ _ hH2 ?_
 clear hHeld
 intro hHeld
 clear hKK KK
 try simp only [pP,pN,pS,pZ,pC]
 clear hH2
 refine wpAnyH_done (by kernel_rfl) ?_ _
 go_wp2_with fail
 refine bodyPost_ret (v:=.agg #[.bool (ng Z2),.slice p2 (ln (am Z2)) (ln (am Z2)),.bool (ng Z3),.slice p3 (ln (am Z3)) (ln (am Z3)),.bool (ng A),.slice pa (ln (am A)) (ln (am A)),.bool (ng B),.slice pb (ln (am B)) (ln (am B))]) (by rw [results_cell rfl];go_simp) rfl ?_
 exact ⟨pa,pb,rfl,b9,ka,kb⟩
set_option maxHeartbeats 4000000 in
set_option maxRecDepth 100000 in
theorem beginning_is (O I:Int) (hO:O=0) (hI:I=1) (w:World) :
  Calls Tryz.prog 46 #[] w fun e w'=>∃ p0 p1 p2 p3,e=.returned (.agg #[.bool (ng O),.slice p0 (ln (am O)) (ln (am O)),.bool (ng I),.slice p1 (ln (am I)) (ln (am I)),.bool (ng I),.slice p2 (ln (am I)) (ln (am I)),.bool (ng O),.slice p3 (ln (am O)) (ln (am O))])∧Below w.heap.size w w'∧Seg w' p0 (am O) (ln (am O))∧Seg w' p1 (am I) (ln (am I))∧Seg w' p2 (am I) (ln (am I))∧Seg w' p3 (am O) (ln (am O)):=by
 have GO':∀ w',Calls Tryz.prog 62 #[.int .i64 0] w' fun e w''=>∃ p,e=.returned (.agg #[.bool (ng O),.slice p (ln (am O)) (ln (am O))])∧New w' w'' p (am O) (ln (am O)):=fun w'=>by subst hO;exact wOf_is 0 w' (by omega) (by omega)
 have GI':∀ w',Calls Tryz.prog 62 #[.int .i64 1] w' fun e w''=>∃ p,e=.returned (.agg #[.bool (ng I),.slice p (ln (am I)) (ln (am I))])∧New w' w'' p (am I) (ln (am I)):=fun w'=>by subst hI;exact wOf_is 1 w' (by omega) (by omega)
 have GO:=hide' GO'
 have GI:=hide' GI'
 clear GO' GI' hO hI
 have b0:=below_alloc (w:=w) (.cells #[.bool false,.slice none 0 0,.bool false,.slice none 0 0,.bool false,.slice none 0 0,.bool false,.slice none 0 0] 68)
 have q0:=Blk.new w #[.bool false,.slice none 0 0,.bool false,.slice none 0 0,.bool false,.slice none 0 0,.bool false,.slice none 0 0] 68
 go_enter Tryz.func46,Tryz.ntmps46
 go_wp2_with fail
 refine (GO.out _).mono ?_
 rintro e w0 ⟨p0,rfl,n0⟩
 have bb:=n0.below
 have k0:=n0.seg
 clear n0
 replace q0:=q0.later bb
 replace b0:=b0.trans (bb.mono b0.size)
 clear bb
 go_wp2_with fail
 refine (GI.out _).mono ?_
 rintro e w1 ⟨p1,rfl,n1⟩
 have bb:=n1.below
 have k1:=n1.seg
 clear n1
 replace k0:=k0.later bb
 replace q0:=q0.later bb
 replace b0:=b0.trans (bb.mono b0.size)
 clear bb
 go_wp2_with fail
 refine (GI.out _).mono ?_
 rintro e w2 ⟨p2,rfl,n2⟩
 have bb:=n2.below
 have k2:=n2.seg
 clear n2
 replace k0:=k0.later bb
 replace k1:=k1.later bb
 replace q0:=q0.later bb
 replace b0:=b0.trans (bb.mono b0.size)
 clear bb
 go_wp2_with fail
 refine (GO.out _).mono ?_
 rintro e w3 ⟨p3,rfl,n3⟩
 have bb:=n3.below
 have k3:=n3.seg
 clear n3
 replace k0:=k0.later bb
 replace k1:=k1.later bb
 replace k2:=k2.later bb
 replace q0:=q0.later bb
 replace b0:=b0.trans (bb.mono b0.size)
 clear bb
 have z0:=q0.cell 0
 have z1:=q0.cell 1
 have z2:=q0.cell 2
 have z3:=q0.cell 3
 have z4:=q0.cell 4
 have z5:=q0.cell 5
 have z6:=q0.cell 6
 have z7:=q0.cell 7
 simp only [List.getElem?_toArray,List.getElem?_cons_zero,List.getElem?_cons_succ] at z0 z1 z2 z3 z4 z5 z6 z7
 have fz:=fun o=>q0.frozen o
 go_wp2_with fail
 obtain ⟨c9,q9⟩:=q0.set8 (.bool (ng O)) (.slice p0 (ln (am O)) (ln (am O))) (.bool (ng I)) (.slice p1 (ln (am I)) (ln (am I))) (.bool (ng I)) (.slice p2 (ln (am I)) (ln (am I))) (.bool (ng O)) (.slice p3 (ln (am O)) (ln (am O)))
 have hno:=q0.no (by simp)
 replace k0:=k0.ch c9 hno
 replace k1:=k1.ch c9 hno
 replace k2:=k2.ch c9 hno
 replace k3:=k3.ch c9 hno
 have b9:=b0.trans (c9.below (Nat.le_refl _))
 have v0:=q9.cell 0
 have v1:=q9.cell 1
 have v2:=q9.cell 2
 have v3:=q9.cell 3
 have v4:=q9.cell 4
 have v5:=q9.cell 5
 have v6:=q9.cell 6
 have v7:=q9.cell 7
 simp only [List.getElem?_toArray,List.getElem?_cons_zero,List.getElem?_cons_succ] at v0 v1 v2 v3 v4 v5 v6 v7
 clear z0 z1 z2 z3 z4 z5 z6 z7
 refine bodyPost_ret (v:=.agg #[.bool (ng O),.slice p0 (ln (am O)) (ln (am O)),.bool (ng I),.slice p1 (ln (am I)) (ln (am I)),.bool (ng I),.slice p2 (ln (am I)) (ln (am I)),.bool (ng O),.slice p3 (ln (am O)) (ln (am O))]) (by rw [results_cell rfl];go_simp) rfl ?_
 exact ⟨p0,p1,p2,p3,rfl,b9,k0,k1,k2,k3⟩
set_option maxHeartbeats 4000000 in
set_option maxRecDepth 100000 in
theorem frat_is (A B:Int) (pa pb:Option Addr) (w:World) :
  Calls Tryz.prog 51 #[.agg #[.bool (ng A),.slice pa (ln (am A)) (ln (am A)),.bool (ng B),.slice pb (ln (am B)) (ln (am B))]] w fun e w'=>e=.returned (.agg #[.bool (ng A),.slice pa (ln (am A)) (ln (am A)),.slice pb (ln (am B)) (ln (am B))])∧Below w.heap.size w w':=by
 have b3:=(below_alloc (w:=w) (.cells #[.bool (ng A),.slice pa (ln (am A)) (ln (am A)),.bool (ng B),.slice pb (ln (am B)) (ln (am B))] 43)).alloc (by simp) (.cells #[.bool (ng A),.slice pa (ln (am A)) (ln (am A)),.slice pb (ln (am B)) (ln (am B))] 27)
 go_enter Tryz.func51,Tryz.ntmps51
 go_wp2
 refine bodyPost_ret (v:=.agg #[.bool (ng A),.slice pa (ln (am A)) (ln (am A)),.slice pb (ln (am B)) (ln (am B))]) (by rw [results_cell rfl];go_simp) rfl ?_
 exact ⟨rfl,b3⟩
end Go.Proofs.YtejlnodillnoaaaGreatDoor
