import Derived.Test.YtejlnodillnoaaaGreatDoorWBC
set_option linter.unusedSimpArgs false
namespace Go.Proofs.YtejlnodillnoaaaGreatDoor
open Go.RowKit
set_option linter.unusedVariables false
theorem run_fieldR (v0 v1 v2:Value) (w:World):(Instr.field 27 (.agg #[v0,v1,v2]) 1).run Tryz.prog w=.ok v2 w:=by kernel_rfl
set_option maxHeartbeats 4000000 in
set_option maxRecDepth 100000 in
theorem vnear_a (A B C:RatV) (w:World) (hA:A.ok w) (hB:B.ok w) (hC:C.ok w) (hn:A.n≤2000000∧A.m≤2000000∧B.n≤2000000∧B.m≤2000000∧C.n≤2000000∧C.m≤2000000) (sA:sz 2000001 A.val) (sB:sz 2000001 B.val) (sC:sz 2000001 C.val) (h1:sR (dsR A.val B.val - dsR A.val C.val)=(-1)) :
  Calls Tryz.prog 21 #[.agg #[.bool A.s,.slice A.a A.n A.c,.slice A.b A.m A.e],.agg #[.bool B.s,.slice B.a B.n B.c,.slice B.b B.m B.e],.agg #[.bool C.s,.slice C.a C.n C.c,.slice C.b C.m C.e]] w fun e w'=>e=.returned (.bool true)∧Below w.heap.size w w':=by
 obtain ⟨SB,hSB⟩:∃ S,A.val - B.val=S:=⟨_,rfl⟩
 obtain ⟨DB,hDB⟩:∃ S,dsR A.val B.val=S:=⟨_,rfl⟩
 have zB:sz 100000000 SB:=by rw [←hSB];exact (sz_subY sA sB).mono (by omega)
 have zDB:sz 100000000 DB:=by rw [←hDB];exact (sz_ds sA sB).mono (by omega)
 have GSB:=hide' (fun w' k1 k2=>vsubQ A B SB w' k1 k2 (by omega) hSB zB)
 have GAB:=hide' (fun w' p q (k1:(nR SB p q).ok w')=>vabsQ (nR SB p q) DB w' k1 (by rw [nR_val,←hSB,absR_dsR2];exact hDB) zDB ⟨zB.1,zB.2⟩)
 obtain ⟨SC,hSC⟩:∃ S,A.val - C.val=S:=⟨_,rfl⟩
 obtain ⟨DC,hDC⟩:∃ S,dsR A.val C.val=S:=⟨_,rfl⟩
 have zC:sz 100000000 SC:=by rw [←hSC];exact (sz_subY sA sC).mono (by omega)
 have zDC:sz 100000000 DC:=by rw [←hDC];exact (sz_ds sA sC).mono (by omega)
 have GSC:=hide' (fun w' k1 k2=>vsubQ A C SC w' k1 k2 (by omega) hSC zC)
 have GAC:=hide' (fun w' p q (k1:(nR SC p q).ok w')=>vabsQ (nR SC p q) DC w' k1 (by rw [nR_val,←hSC,absR_dsR2];exact hDC) zDC ⟨zC.1,zC.2⟩)
 rw [hDB,hDC] at h1
 have G1:=hide' (fun w' p q p1 q1 (k1:(nR DB p q).ok w') (k2:(nR DC p1 q1).ok w')=>vcmpQ (nR DB p q) (nR DC p1 q1) w' k1 k2 ⟨zDB.1,zDB.2,zDC.1,zDC.2⟩ (-1) (by rw [nR_val,nR_val];exact h1))
 clear h1 hDB hDC hSB hSC
 have hf:=run_fieldR
 have bel:Below w.heap.size w w:=Below.refl _ _
 have bb:=below_alloc (w:=w) (.cells #[.bool A.s,.slice A.a A.n A.c,.slice A.b A.m A.e] 27)
 replace hA:=hA.on bb
 replace hB:=hB.on bb
 replace hC:=hC.on bb
 replace bel:=bel.trans (bb.mono bel.size)
 clear bb
 have qa:=Blk.new w #[.bool A.s,.slice A.a A.n A.c,.slice A.b A.m A.e] 27
 have bb:=below_alloc (w:=(w.alloc (.cells #[.bool A.s,.slice A.a A.n A.c,.slice A.b A.m A.e] 27))) (.cells #[.bool B.s,.slice B.a B.n B.c,.slice B.b B.m B.e] 27)
 replace qa:=qa.later bb
 replace hA:=hA.on bb
 replace hB:=hB.on bb
 replace hC:=hC.on bb
 replace bel:=bel.trans (bb.mono bel.size)
 clear bb
 have qb:=Blk.new (w.alloc (.cells #[.bool A.s,.slice A.a A.n A.c,.slice A.b A.m A.e] 27)) #[.bool B.s,.slice B.a B.n B.c,.slice B.b B.m B.e] 27
 simp only [World.size_alloc] at qb
 have bb:=below_alloc (w:=((w.alloc (.cells #[.bool A.s,.slice A.a A.n A.c,.slice A.b A.m A.e] 27)).alloc (.cells #[.bool B.s,.slice B.a B.n B.c,.slice B.b B.m B.e] 27))) (.cells #[.bool C.s,.slice C.a C.n C.c,.slice C.b C.m C.e] 27)
 replace qa:=qa.later bb
 replace qb:=qb.later bb
 replace hA:=hA.on bb
 replace hB:=hB.on bb
 replace hC:=hC.on bb
 replace bel:=bel.trans (bb.mono bel.size)
 clear bb
 have qc:=Blk.new ((w.alloc (.cells #[.bool A.s,.slice A.a A.n A.c,.slice A.b A.m A.e] 27)).alloc (.cells #[.bool B.s,.slice B.a B.n B.c,.slice B.b B.m B.e] 27)) #[.bool C.s,.slice C.a C.n C.c,.slice C.b C.m C.e] 27
 simp only [World.size_alloc] at qc
 go_enter Tryz.func21,Tryz.ntmps21
 go_wp2_with fail
 obtain ⟨W0,hW⟩:∃ W,(((w.alloc (.cells #[.bool A.s,.slice A.a A.n A.c,.slice A.b A.m A.e] 27)).alloc (.cells #[.bool B.s,.slice B.a B.n B.c,.slice B.b B.m B.e] 27)).alloc (.cells #[.bool C.s,.slice C.a C.n C.c,.slice C.b C.m C.e] 27))=W:=⟨_,rfl⟩
 rw [hW] at bel qa qb qc hA hB hC ⊢
 clear hW
 have qa_0:=qa.cell 0
 have qa_1:=qa.cell 1
 have qa_2:=qa.cell 2
 have qb_0:=qb.cell 0
 have qb_1:=qb.cell 1
 have qb_2:=qb.cell 2
 have qc_0:=qc.cell 0
 have qc_1:=qc.cell 1
 have qc_2:=qc.cell 2
 simp only [List.getElem?_toArray,List.getElem?_cons_zero,List.getElem?_cons_succ] at qa_0 qa_1 qa_2 qb_0 qb_1 qb_2 qc_0 qc_1 qc_2
 have bD:Below W0.heap.size W0 W0.drew:=(Below.refl _ _).drew
 have kqa_0:=below_cell bD qa_0
 have kqa_1:=below_cell bD qa_1
 have kqa_2:=below_cell bD qa_2
 have kqb_0:=below_cell bD qb_0
 have kqb_1:=below_cell bD qb_1
 have kqb_2:=below_cell bD qb_2
 have kqc_0:=below_cell bD qc_0
 have kqc_1:=below_cell bD qc_1
 have kqc_2:=below_cell bD qc_2
 replace hA:=hA.on bD
 replace hB:=hB.on bD
 replace hC:=hC.on bD
 replace bel:=bel.trans (bD.mono bel.size)
 replace qa:=qa.later bD
 replace qb:=qb.later bD
 replace qc:=qc.later bD
 refine wp_region_held_drew (S:=fun w'=>w'.cell? ⟨w.heap.size,0,none⟩=some (.bool A.s)∧w'.cell? ⟨w.heap.size,1,none⟩=some (.slice A.a A.n A.c)∧w'.cell? ⟨w.heap.size,2,none⟩=some (.slice A.b A.m A.e)∧w'.cell? ⟨w.heap.size+1,0,none⟩=some (.bool B.s)∧w'.cell? ⟨w.heap.size+1,1,none⟩=some (.slice B.a B.n B.c)∧w'.cell? ⟨w.heap.size+1,2,none⟩=some (.slice B.b B.m B.e)∧w'.cell? ⟨w.heap.size+1+1,0,none⟩=some (.bool C.s)∧w'.cell? ⟨w.heap.size+1+1,1,none⟩=some (.slice C.a C.n C.c)∧w'.cell? ⟨w.heap.size+1+1,2,none⟩=some (.slice C.b C.m C.e)) (by kernel_rfl) ⟨kqa_0,kqa_1,kqa_2,kqb_0,kqb_1,kqb_2,kqc_0,kqc_1,kqc_2⟩ (fun hHeld=>?_)
 clear kqa_0 kqa_1 kqa_2 kqb_0 kqb_1 kqb_2 kqc_0 kqc_1 kqc_2
 generalize W0.drew=w0F at bD hA hB hC qa qb qc bel hHeld ⊢
 clear bD qa_0 qa_1 qa_2 qb_0 qb_1 qb_2 qc_0 qc_1 qc_2
 refine tk 0 (v:=?_) rfl (Or.inl ⟨by rfl,?_⟩) ?_
 rotate_left
 ·intro w9 hSw
  go_simp
  first | done | with_reducible rfl
 simp only [pP,pN,pS,pZ,pC]
 refine tk 1 (v:=?_) rfl (Or.inl ⟨by rfl,?_⟩) ?_
 rotate_left
 ·intro w9 hSw
  go_simp
  first | done | with_reducible rfl
 simp only [pP,pN,pS,pZ,pC]
 refine tk 4 (v:=?_) rfl (Or.inl ⟨by rfl,?_⟩) ?_
 rotate_left
 ·intro w9 hSw
  go_simp
  first | done | with_reducible rfl
 simp only [pP,pN,pS,pZ,pC]
 refine tk 5 (v:=?_) rfl (Or.inl ⟨by rfl,?_⟩) ?_
 rotate_left
 ·intro w9 hSw
  go_simp
  first | done | with_reducible rfl
 simp only [pP,pN,pS,pZ,pC]
 refine wpAnyH_ready (rs:=[2]) (by kernel_rfl) (by simp) ?_
 refine cons' rfl (fun KK hKK=>?_)
 go_simp
 refine (GSB.out _ hA hB).mono ?_
 rintro e w1 ⟨p1,q1,rfl,b1,o1⟩
 have bC:=b1
 replace hA:=hA.on bC
 replace hB:=hB.on bC
 replace hC:=hC.on bC
 replace bel:=bel.trans (bC.mono bel.size)
 replace qa:=qa.later bC
 replace qb:=qb.later bC
 replace qc:=qc.later bC
 replace hHeld:=(⟨below_cell bC hHeld.1,below_cell bC hHeld.2.1,below_cell bC hHeld.2.2.1,below_cell bC hHeld.2.2.2.1,below_cell bC hHeld.2.2.2.2.1,below_cell bC hHeld.2.2.2.2.2.1,below_cell bC hHeld.2.2.2.2.2.2.1,below_cell bC hHeld.2.2.2.2.2.2.2.1,below_cell bC hHeld.2.2.2.2.2.2.2.2⟩:_∧_∧_∧_∧_∧_∧_∧_∧_)
 clear bC
 go_wp2_with fail
 clear b1
 refine hKK.out _ _ hHeld ?_
 clear hHeld
 intro hHeld
 clear hKK KK
 try simp only [pP,pN,pS,pZ,pC]
 refine wpAnyH_ready (rs:=[3]) (by kernel_rfl) (by simp) ?_
 refine cons' rfl (fun KK hKK=>?_)
 go_simp
 refine (GAB.out _ p1 q1 o1).mono ?_
 rintro e w2 ⟨p2,q2,rfl,b1,o2⟩
 have bC:=b1
 replace hA:=hA.on bC
 replace hB:=hB.on bC
 replace hC:=hC.on bC
 replace o1:=o1.on bC
 replace bel:=bel.trans (bC.mono bel.size)
 replace qa:=qa.later bC
 replace qb:=qb.later bC
 replace qc:=qc.later bC
 replace hHeld:=(⟨below_cell bC hHeld.1,below_cell bC hHeld.2.1,below_cell bC hHeld.2.2.1,below_cell bC hHeld.2.2.2.1,below_cell bC hHeld.2.2.2.2.1,below_cell bC hHeld.2.2.2.2.2.1,below_cell bC hHeld.2.2.2.2.2.2.1,below_cell bC hHeld.2.2.2.2.2.2.2.1,below_cell bC hHeld.2.2.2.2.2.2.2.2⟩:_∧_∧_∧_∧_∧_∧_∧_∧_)
 clear bC
 go_wp2_with fail
 clear b1
 refine hKK.out _ _ hHeld ?_
 clear hHeld
 intro hHeld
 clear hKK KK
 try simp only [pP,pN,pS,pZ,pC]
 refine wpAnyH_ready (rs:=[6]) (by kernel_rfl) (by simp) ?_
 refine cons' rfl (fun KK hKK=>?_)
 go_simp
 refine (GSC.out _ hA hC).mono ?_
 rintro e w3 ⟨p3,q3,rfl,b1,o3⟩
 have bC:=b1
 replace hA:=hA.on bC
 replace hB:=hB.on bC
 replace hC:=hC.on bC
 replace o1:=o1.on bC
 replace o2:=o2.on bC
 replace bel:=bel.trans (bC.mono bel.size)
 replace qa:=qa.later bC
 replace qb:=qb.later bC
 replace qc:=qc.later bC
 replace hHeld:=(⟨below_cell bC hHeld.1,below_cell bC hHeld.2.1,below_cell bC hHeld.2.2.1,below_cell bC hHeld.2.2.2.1,below_cell bC hHeld.2.2.2.2.1,below_cell bC hHeld.2.2.2.2.2.1,below_cell bC hHeld.2.2.2.2.2.2.1,below_cell bC hHeld.2.2.2.2.2.2.2.1,below_cell bC hHeld.2.2.2.2.2.2.2.2⟩:_∧_∧_∧_∧_∧_∧_∧_∧_)
 clear bC
 go_wp2_with fail
 clear b1
 refine hKK.out _ _ hHeld ?_
 clear hHeld
 intro hHeld
 clear hKK KK
 try simp only [pP,pN,pS,pZ,pC]
 refine wpAnyH_ready (rs:=[7]) (by kernel_rfl) (by simp) ?_
 refine cons' rfl (fun KK hKK=>?_)
 go_simp
 refine (GAC.out _ p3 q3 o3).mono ?_
 rintro e w4 ⟨p4,q4,rfl,b1,o4⟩
 have bC:=b1
 replace hA:=hA.on bC
 replace hB:=hB.on bC
 replace hC:=hC.on bC
 replace o1:=o1.on bC
 replace o2:=o2.on bC
 replace o3:=o3.on bC
 replace bel:=bel.trans (bC.mono bel.size)
 replace qa:=qa.later bC
 replace qb:=qb.later bC
 replace qc:=qc.later bC
 replace hHeld:=(⟨below_cell bC hHeld.1,below_cell bC hHeld.2.1,below_cell bC hHeld.2.2.1,below_cell bC hHeld.2.2.2.1,below_cell bC hHeld.2.2.2.2.1,below_cell bC hHeld.2.2.2.2.2.1,below_cell bC hHeld.2.2.2.2.2.2.1,below_cell bC hHeld.2.2.2.2.2.2.2.1,below_cell bC hHeld.2.2.2.2.2.2.2.2⟩:_∧_∧_∧_∧_∧_∧_∧_∧_)
 clear bC
 go_wp2_with fail
 clear b1
 refine hKK.out _ _ hHeld ?_
 clear hHeld
 intro hHeld
 clear hKK KK
 try simp only [pP,pN,pS,pZ,pC]
 refine wpAnyH_ready (rs:=[8]) (by kernel_rfl) (by simp) ?_
 refine cons' rfl (fun KK hKK=>?_)
 go_simp
 refine (G1.out _ p2 q2 p4 q4 o2 o4).mono ?_
 rintro e w5 ⟨rfl,b1⟩
 have bC:=b1
 replace hA:=hA.on bC
 replace hB:=hB.on bC
 replace hC:=hC.on bC
 replace o1:=o1.on bC
 replace o2:=o2.on bC
 replace o3:=o3.on bC
 replace o4:=o4.on bC
 replace bel:=bel.trans (bC.mono bel.size)
 replace qa:=qa.later bC
 replace qb:=qb.later bC
 replace qc:=qc.later bC
 replace hHeld:=(⟨below_cell bC hHeld.1,below_cell bC hHeld.2.1,below_cell bC hHeld.2.2.1,below_cell bC hHeld.2.2.2.1,below_cell bC hHeld.2.2.2.2.1,below_cell bC hHeld.2.2.2.2.2.1,below_cell bC hHeld.2.2.2.2.2.2.1,below_cell bC hHeld.2.2.2.2.2.2.2.1,below_cell bC hHeld.2.2.2.2.2.2.2.2⟩:_∧_∧_∧_∧_∧_∧_∧_∧_)
 clear bC
 go_wp2_with fail
 clear b1
 refine hKK.out _ _ hHeld ?_
 clear hHeld
 intro hHeld
 clear hKK KK
 try simp only [pP,pN,pS,pZ,pC]
 refine tk 9 (v:=?_) rfl (Or.inl ⟨by rfl,?_⟩) ?_
 rotate_left
 ·intro w9 hSw
  go_simp
  first | done | with_reducible rfl
 simp only [pP,pN,pS,pZ,pC]
 refine wpAnyH_done (by kernel_rfl) ?_ _
 skip
 clear o1 o2 o3 o4
 clear GSB GAB GSC GAC G1
 go_wp2
 go_ret
 exact ⟨rfl,bel⟩
set_option maxHeartbeats 4000000 in
set_option maxRecDepth 100000 in
theorem vnear_b (A B C:RatV) (w:World) (hA:A.ok w) (hB:B.ok w) (hC:C.ok w) (hn:A.n≤2000000∧A.m≤2000000∧B.n≤2000000∧B.m≤2000000∧C.n≤2000000∧C.m≤2000000) (sA:sz 2000001 A.val) (sB:sz 2000001 B.val) (sC:sz 2000001 C.val) (h1:sR (dsR A.val B.val - dsR A.val C.val)=1) :
  Calls Tryz.prog 21 #[.agg #[.bool A.s,.slice A.a A.n A.c,.slice A.b A.m A.e],.agg #[.bool B.s,.slice B.a B.n B.c,.slice B.b B.m B.e],.agg #[.bool C.s,.slice C.a C.n C.c,.slice C.b C.m C.e]] w fun e w'=>e=.returned (.bool false)∧Below w.heap.size w w':=by
 obtain ⟨SB,hSB⟩:∃ S,A.val - B.val=S:=⟨_,rfl⟩
 obtain ⟨DB,hDB⟩:∃ S,dsR A.val B.val=S:=⟨_,rfl⟩
 have zB:sz 100000000 SB:=by rw [←hSB];exact (sz_subY sA sB).mono (by omega)
 have zDB:sz 100000000 DB:=by rw [←hDB];exact (sz_ds sA sB).mono (by omega)
 have GSB:=hide' (fun w' k1 k2=>vsubQ A B SB w' k1 k2 (by omega) hSB zB)
 have GAB:=hide' (fun w' p q (k1:(nR SB p q).ok w')=>vabsQ (nR SB p q) DB w' k1 (by rw [nR_val,←hSB,absR_dsR2];exact hDB) zDB ⟨zB.1,zB.2⟩)
 obtain ⟨SC,hSC⟩:∃ S,A.val - C.val=S:=⟨_,rfl⟩
 obtain ⟨DC,hDC⟩:∃ S,dsR A.val C.val=S:=⟨_,rfl⟩
 have zC:sz 100000000 SC:=by rw [←hSC];exact (sz_subY sA sC).mono (by omega)
 have zDC:sz 100000000 DC:=by rw [←hDC];exact (sz_ds sA sC).mono (by omega)
 have GSC:=hide' (fun w' k1 k2=>vsubQ A C SC w' k1 k2 (by omega) hSC zC)
 have GAC:=hide' (fun w' p q (k1:(nR SC p q).ok w')=>vabsQ (nR SC p q) DC w' k1 (by rw [nR_val,←hSC,absR_dsR2];exact hDC) zDC ⟨zC.1,zC.2⟩)
 rw [hDB,hDC] at h1
 have G1:=hide' (fun w' p q p1 q1 (k1:(nR DB p q).ok w') (k2:(nR DC p1 q1).ok w')=>vcmpQ (nR DB p q) (nR DC p1 q1) w' k1 k2 ⟨zDB.1,zDB.2,zDC.1,zDC.2⟩ 1 (by rw [nR_val,nR_val];exact h1))
 clear h1 hDB hDC hSB hSC
 have hf:=run_fieldR
 have bel:Below w.heap.size w w:=Below.refl _ _
 have bb:=below_alloc (w:=w) (.cells #[.bool A.s,.slice A.a A.n A.c,.slice A.b A.m A.e] 27)
 replace hA:=hA.on bb
 replace hB:=hB.on bb
 replace hC:=hC.on bb
 replace bel:=bel.trans (bb.mono bel.size)
 clear bb
 have qa:=Blk.new w #[.bool A.s,.slice A.a A.n A.c,.slice A.b A.m A.e] 27
 have bb:=below_alloc (w:=(w.alloc (.cells #[.bool A.s,.slice A.a A.n A.c,.slice A.b A.m A.e] 27))) (.cells #[.bool B.s,.slice B.a B.n B.c,.slice B.b B.m B.e] 27)
 replace qa:=qa.later bb
 replace hA:=hA.on bb
 replace hB:=hB.on bb
 replace hC:=hC.on bb
 replace bel:=bel.trans (bb.mono bel.size)
 clear bb
 have qb:=Blk.new (w.alloc (.cells #[.bool A.s,.slice A.a A.n A.c,.slice A.b A.m A.e] 27)) #[.bool B.s,.slice B.a B.n B.c,.slice B.b B.m B.e] 27
 simp only [World.size_alloc] at qb
 have bb:=below_alloc (w:=((w.alloc (.cells #[.bool A.s,.slice A.a A.n A.c,.slice A.b A.m A.e] 27)).alloc (.cells #[.bool B.s,.slice B.a B.n B.c,.slice B.b B.m B.e] 27))) (.cells #[.bool C.s,.slice C.a C.n C.c,.slice C.b C.m C.e] 27)
 replace qa:=qa.later bb
 replace qb:=qb.later bb
 replace hA:=hA.on bb
 replace hB:=hB.on bb
 replace hC:=hC.on bb
 replace bel:=bel.trans (bb.mono bel.size)
 clear bb
 have qc:=Blk.new ((w.alloc (.cells #[.bool A.s,.slice A.a A.n A.c,.slice A.b A.m A.e] 27)).alloc (.cells #[.bool B.s,.slice B.a B.n B.c,.slice B.b B.m B.e] 27)) #[.bool C.s,.slice C.a C.n C.c,.slice C.b C.m C.e] 27
 simp only [World.size_alloc] at qc
 go_enter Tryz.func21,Tryz.ntmps21
 go_wp2_with fail
 obtain ⟨W0,hW⟩:∃ W,(((w.alloc (.cells #[.bool A.s,.slice A.a A.n A.c,.slice A.b A.m A.e] 27)).alloc (.cells #[.bool B.s,.slice B.a B.n B.c,.slice B.b B.m B.e] 27)).alloc (.cells #[.bool C.s,.slice C.a C.n C.c,.slice C.b C.m C.e] 27))=W:=⟨_,rfl⟩
 rw [hW] at bel qa qb qc hA hB hC ⊢
 clear hW
 have qa_0:=qa.cell 0
 have qa_1:=qa.cell 1
 have qa_2:=qa.cell 2
 have qb_0:=qb.cell 0
 have qb_1:=qb.cell 1
 have qb_2:=qb.cell 2
 have qc_0:=qc.cell 0
 have qc_1:=qc.cell 1
 have qc_2:=qc.cell 2
 simp only [List.getElem?_toArray,List.getElem?_cons_zero,List.getElem?_cons_succ] at qa_0 qa_1 qa_2 qb_0 qb_1 qb_2 qc_0 qc_1 qc_2
 have bD:Below W0.heap.size W0 W0.drew:=(Below.refl _ _).drew
 have kqa_0:=below_cell bD qa_0
 have kqa_1:=below_cell bD qa_1
 have kqa_2:=below_cell bD qa_2
 have kqb_0:=below_cell bD qb_0
 have kqb_1:=below_cell bD qb_1
 have kqb_2:=below_cell bD qb_2
 have kqc_0:=below_cell bD qc_0
 have kqc_1:=below_cell bD qc_1
 have kqc_2:=below_cell bD qc_2
 replace hA:=hA.on bD
 replace hB:=hB.on bD
 replace hC:=hC.on bD
 replace bel:=bel.trans (bD.mono bel.size)
 replace qa:=qa.later bD
 replace qb:=qb.later bD
 replace qc:=qc.later bD
 refine wp_region_held_drew (S:=fun w'=>w'.cell? ⟨w.heap.size,0,none⟩=some (.bool A.s)∧w'.cell? ⟨w.heap.size,1,none⟩=some (.slice A.a A.n A.c)∧w'.cell? ⟨w.heap.size,2,none⟩=some (.slice A.b A.m A.e)∧w'.cell? ⟨w.heap.size+1,0,none⟩=some (.bool B.s)∧w'.cell? ⟨w.heap.size+1,1,none⟩=some (.slice B.a B.n B.c)∧w'.cell? ⟨w.heap.size+1,2,none⟩=some (.slice B.b B.m B.e)∧w'.cell? ⟨w.heap.size+1+1,0,none⟩=some (.bool C.s)∧w'.cell? ⟨w.heap.size+1+1,1,none⟩=some (.slice C.a C.n C.c)∧w'.cell? ⟨w.heap.size+1+1,2,none⟩=some (.slice C.b C.m C.e)) (by kernel_rfl) ⟨kqa_0,kqa_1,kqa_2,kqb_0,kqb_1,kqb_2,kqc_0,kqc_1,kqc_2⟩ (fun hHeld=>?_)
 clear kqa_0 kqa_1 kqa_2 kqb_0 kqb_1 kqb_2 kqc_0 kqc_1 kqc_2
 generalize W0.drew=w0F at bD hA hB hC qa qb qc bel hHeld ⊢
 clear bD qa_0 qa_1 qa_2 qb_0 qb_1 qb_2 qc_0 qc_1 qc_2
 refine tk 0 (v:=?_) rfl (Or.inl ⟨by rfl,?_⟩) ?_
 rotate_left
 ·intro w9 hSw
  go_simp
  first | done | with_reducible rfl
 simp only [pP,pN,pS,pZ,pC]
 refine tk 1 (v:=?_) rfl (Or.inl ⟨by rfl,?_⟩) ?_
 rotate_left
 ·intro w9 hSw
  go_simp
  first | done | with_reducible rfl
 simp only [pP,pN,pS,pZ,pC]
 refine tk 4 (v:=?_) rfl (Or.inl ⟨by rfl,?_⟩) ?_
 rotate_left
 ·intro w9 hSw
  go_simp
  first | done | with_reducible rfl
 simp only [pP,pN,pS,pZ,pC]
 refine tk 5 (v:=?_) rfl (Or.inl ⟨by rfl,?_⟩) ?_
 rotate_left
 ·intro w9 hSw
  go_simp
  first | done | with_reducible rfl
 simp only [pP,pN,pS,pZ,pC]
 refine wpAnyH_ready (rs:=[2]) (by kernel_rfl) (by simp) ?_
 refine cons' rfl (fun KK hKK=>?_)
 go_simp
 refine (GSB.out _ hA hB).mono ?_
 rintro e w1 ⟨p1,q1,rfl,b1,o1⟩
 have bC:=b1
 replace hA:=hA.on bC
 replace hB:=hB.on bC
 replace hC:=hC.on bC
 replace bel:=bel.trans (bC.mono bel.size)
 replace qa:=qa.later bC
 replace qb:=qb.later bC
 replace qc:=qc.later bC
 replace hHeld:=(⟨below_cell bC hHeld.1,below_cell bC hHeld.2.1,below_cell bC hHeld.2.2.1,below_cell bC hHeld.2.2.2.1,below_cell bC hHeld.2.2.2.2.1,below_cell bC hHeld.2.2.2.2.2.1,below_cell bC hHeld.2.2.2.2.2.2.1,below_cell bC hHeld.2.2.2.2.2.2.2.1,below_cell bC hHeld.2.2.2.2.2.2.2.2⟩:_∧_∧_∧_∧_∧_∧_∧_∧_)
 clear bC
 go_wp2_with fail
 clear b1
 refine hKK.out _ _ hHeld ?_
 clear hHeld
 intro hHeld
 clear hKK KK
 try simp only [pP,pN,pS,pZ,pC]
 refine wpAnyH_ready (rs:=[3]) (by kernel_rfl) (by simp) ?_
 refine cons' rfl (fun KK hKK=>?_)
 go_simp
 refine (GAB.out _ p1 q1 o1).mono ?_
 rintro e w2 ⟨p2,q2,rfl,b1,o2⟩
 have bC:=b1
 replace hA:=hA.on bC
 replace hB:=hB.on bC
 replace hC:=hC.on bC
 replace o1:=o1.on bC
 replace bel:=bel.trans (bC.mono bel.size)
 replace qa:=qa.later bC
 replace qb:=qb.later bC
 replace qc:=qc.later bC
 replace hHeld:=(⟨below_cell bC hHeld.1,below_cell bC hHeld.2.1,below_cell bC hHeld.2.2.1,below_cell bC hHeld.2.2.2.1,below_cell bC hHeld.2.2.2.2.1,below_cell bC hHeld.2.2.2.2.2.1,below_cell bC hHeld.2.2.2.2.2.2.1,below_cell bC hHeld.2.2.2.2.2.2.2.1,below_cell bC hHeld.2.2.2.2.2.2.2.2⟩:_∧_∧_∧_∧_∧_∧_∧_∧_)
 clear bC
 go_wp2_with fail
 clear b1
 refine hKK.out _ _ hHeld ?_
 clear hHeld
 intro hHeld
 clear hKK KK
 try simp only [pP,pN,pS,pZ,pC]
 refine wpAnyH_ready (rs:=[6]) (by kernel_rfl) (by simp) ?_
 refine cons' rfl (fun KK hKK=>?_)
 go_simp
 refine (GSC.out _ hA hC).mono ?_
 rintro e w3 ⟨p3,q3,rfl,b1,o3⟩
 have bC:=b1
 replace hA:=hA.on bC
 replace hB:=hB.on bC
 replace hC:=hC.on bC
 replace o1:=o1.on bC
 replace o2:=o2.on bC
 replace bel:=bel.trans (bC.mono bel.size)
 replace qa:=qa.later bC
 replace qb:=qb.later bC
 replace qc:=qc.later bC
 replace hHeld:=(⟨below_cell bC hHeld.1,below_cell bC hHeld.2.1,below_cell bC hHeld.2.2.1,below_cell bC hHeld.2.2.2.1,below_cell bC hHeld.2.2.2.2.1,below_cell bC hHeld.2.2.2.2.2.1,below_cell bC hHeld.2.2.2.2.2.2.1,below_cell bC hHeld.2.2.2.2.2.2.2.1,below_cell bC hHeld.2.2.2.2.2.2.2.2⟩:_∧_∧_∧_∧_∧_∧_∧_∧_)
 clear bC
 go_wp2_with fail
 clear b1
 refine hKK.out _ _ hHeld ?_
 clear hHeld
 intro hHeld
 clear hKK KK
 try simp only [pP,pN,pS,pZ,pC]
 refine wpAnyH_ready (rs:=[7]) (by kernel_rfl) (by simp) ?_
 refine cons' rfl (fun KK hKK=>?_)
 go_simp
 refine (GAC.out _ p3 q3 o3).mono ?_
 rintro e w4 ⟨p4,q4,rfl,b1,o4⟩
 have bC:=b1
 replace hA:=hA.on bC
 replace hB:=hB.on bC
 replace hC:=hC.on bC
 replace o1:=o1.on bC
 replace o2:=o2.on bC
 replace o3:=o3.on bC
 replace bel:=bel.trans (bC.mono bel.size)
 replace qa:=qa.later bC
 replace qb:=qb.later bC
 replace qc:=qc.later bC
 replace hHeld:=(⟨below_cell bC hHeld.1,below_cell bC hHeld.2.1,below_cell bC hHeld.2.2.1,below_cell bC hHeld.2.2.2.1,below_cell bC hHeld.2.2.2.2.1,below_cell bC hHeld.2.2.2.2.2.1,below_cell bC hHeld.2.2.2.2.2.2.1,below_cell bC hHeld.2.2.2.2.2.2.2.1,below_cell bC hHeld.2.2.2.2.2.2.2.2⟩:_∧_∧_∧_∧_∧_∧_∧_∧_)
 clear bC
 go_wp2_with fail
 clear b1
 refine hKK.out _ _ hHeld ?_
 clear hHeld
 intro hHeld
 clear hKK KK
 try simp only [pP,pN,pS,pZ,pC]
 refine wpAnyH_ready (rs:=[8]) (by kernel_rfl) (by simp) ?_
 refine cons' rfl (fun KK hKK=>?_)
 go_simp
 refine (G1.out _ p2 q2 p4 q4 o2 o4).mono ?_
 rintro e w5 ⟨rfl,b1⟩
 have bC:=b1
 replace hA:=hA.on bC
 replace hB:=hB.on bC
 replace hC:=hC.on bC
 replace o1:=o1.on bC
 replace o2:=o2.on bC
 replace o3:=o3.on bC
 replace o4:=o4.on bC
 replace bel:=bel.trans (bC.mono bel.size)
 replace qa:=qa.later bC
 replace qb:=qb.later bC
 replace qc:=qc.later bC
 replace hHeld:=(⟨below_cell bC hHeld.1,below_cell bC hHeld.2.1,below_cell bC hHeld.2.2.1,below_cell bC hHeld.2.2.2.1,below_cell bC hHeld.2.2.2.2.1,below_cell bC hHeld.2.2.2.2.2.1,below_cell bC hHeld.2.2.2.2.2.2.1,below_cell bC hHeld.2.2.2.2.2.2.2.1,below_cell bC hHeld.2.2.2.2.2.2.2.2⟩:_∧_∧_∧_∧_∧_∧_∧_∧_)
 clear bC
 go_wp2_with fail
 clear b1
 refine hKK.out _ _ hHeld ?_
 clear hHeld
 intro hHeld
 clear hKK KK
 try simp only [pP,pN,pS,pZ,pC]
 refine tk 9 (v:=?_) rfl (Or.inl ⟨by rfl,?_⟩) ?_
 rotate_left
 ·intro w9 hSw
  go_simp
  first | done | with_reducible rfl
 simp only [pP,pN,pS,pZ,pC]
 refine wpAnyH_done (by kernel_rfl) ?_ _
 skip
 clear o1 o2 o3 o4
 clear GSB GAB GSC GAC G1
 go_wp2
 go_ret
 exact ⟨rfl,bel⟩
set_option maxHeartbeats 4000000 in
set_option maxRecDepth 100000 in
theorem vnear_c (A B C:RatV) (w:World) (hA:A.ok w) (hB:B.ok w) (hC:C.ok w) (hn:A.n≤2000000∧A.m≤2000000∧B.n≤2000000∧B.m≤2000000∧C.n≤2000000∧C.m≤2000000) (sA:sz 2000001 A.val) (sB:sz 2000001 B.val) (sC:sz 2000001 C.val) (h1:sR (dsR A.val B.val - dsR A.val C.val)=0) (h2:cmpI B.val.den C.val.den=(-1)) :
  Calls Tryz.prog 21 #[.agg #[.bool A.s,.slice A.a A.n A.c,.slice A.b A.m A.e],.agg #[.bool B.s,.slice B.a B.n B.c,.slice B.b B.m B.e],.agg #[.bool C.s,.slice C.a C.n C.c,.slice C.b C.m C.e]] w fun e w'=>e=.returned (.bool true)∧Below w.heap.size w w':=by
 obtain ⟨SB,hSB⟩:∃ S,A.val - B.val=S:=⟨_,rfl⟩
 obtain ⟨DB,hDB⟩:∃ S,dsR A.val B.val=S:=⟨_,rfl⟩
 have zB:sz 100000000 SB:=by rw [←hSB];exact (sz_subY sA sB).mono (by omega)
 have zDB:sz 100000000 DB:=by rw [←hDB];exact (sz_ds sA sB).mono (by omega)
 have GSB:=hide' (fun w' k1 k2=>vsubQ A B SB w' k1 k2 (by omega) hSB zB)
 have GAB:=hide' (fun w' p q (k1:(nR SB p q).ok w')=>vabsQ (nR SB p q) DB w' k1 (by rw [nR_val,←hSB,absR_dsR2];exact hDB) zDB ⟨zB.1,zB.2⟩)
 obtain ⟨SC,hSC⟩:∃ S,A.val - C.val=S:=⟨_,rfl⟩
 obtain ⟨DC,hDC⟩:∃ S,dsR A.val C.val=S:=⟨_,rfl⟩
 have zC:sz 100000000 SC:=by rw [←hSC];exact (sz_subY sA sC).mono (by omega)
 have zDC:sz 100000000 DC:=by rw [←hDC];exact (sz_ds sA sC).mono (by omega)
 have GSC:=hide' (fun w' k1 k2=>vsubQ A C SC w' k1 k2 (by omega) hSC zC)
 have GAC:=hide' (fun w' p q (k1:(nR SC p q).ok w')=>vabsQ (nR SC p q) DC w' k1 (by rw [nR_val,←hSC,absR_dsR2];exact hDC) zDC ⟨zC.1,zC.2⟩)
 rw [hDB,hDC] at h1
 have G1:=hide' (fun w' p q p1 q1 (k1:(nR DB p q).ok w') (k2:(nR DC p1 q1).ok w')=>vcmpQ (nR DB p q) (nR DC p1 q1) w' k1 k2 ⟨zDB.1,zDB.2,zDC.1,zDC.2⟩ 0 (by rw [nR_val,nR_val];exact h1))
 have GNB:=hide' (fun w' k1=>vnormQ B B.val w' k1 rfl (sB.mono (by omega)))
 have GNC:=hide' (fun w' k1=>vnormQ C C.val w' k1 rfl (sC.mono (by omega)))
 have G2:=hide' (fun w' q q1 (k1:Seg w' q B.val.den (ln B.val.den)) (k2:Seg w' q1 C.val.den (ln C.val.den))=>(rCmp_any q q1 (ln B.val.den) (ln B.val.den) B.val.den (ln C.val.den) (ln C.val.den) C.val.den w' (Nat.le_trans sB.2 (by omega)) k1 (Nat.le_trans sC.2 (by omega)) k2).mono (fun e w2 h=>(show e=.returned (.int .i64 (cmpI B.val.den C.val.den))∧Below w'.heap.size w' w2 from ⟨h.1,h.2 ▸ Below.refl _ _⟩)))
 rw [h2] at G2
 clear h1 hDB hDC hSB hSC h2
 have hf:=run_fieldR
 have bel:Below w.heap.size w w:=Below.refl _ _
 have bb:=below_alloc (w:=w) (.cells #[.bool A.s,.slice A.a A.n A.c,.slice A.b A.m A.e] 27)
 replace hA:=hA.on bb
 replace hB:=hB.on bb
 replace hC:=hC.on bb
 replace bel:=bel.trans (bb.mono bel.size)
 clear bb
 have qa:=Blk.new w #[.bool A.s,.slice A.a A.n A.c,.slice A.b A.m A.e] 27
 have bb:=below_alloc (w:=(w.alloc (.cells #[.bool A.s,.slice A.a A.n A.c,.slice A.b A.m A.e] 27))) (.cells #[.bool B.s,.slice B.a B.n B.c,.slice B.b B.m B.e] 27)
 replace qa:=qa.later bb
 replace hA:=hA.on bb
 replace hB:=hB.on bb
 replace hC:=hC.on bb
 replace bel:=bel.trans (bb.mono bel.size)
 clear bb
 have qb:=Blk.new (w.alloc (.cells #[.bool A.s,.slice A.a A.n A.c,.slice A.b A.m A.e] 27)) #[.bool B.s,.slice B.a B.n B.c,.slice B.b B.m B.e] 27
 simp only [World.size_alloc] at qb
 have bb:=below_alloc (w:=((w.alloc (.cells #[.bool A.s,.slice A.a A.n A.c,.slice A.b A.m A.e] 27)).alloc (.cells #[.bool B.s,.slice B.a B.n B.c,.slice B.b B.m B.e] 27))) (.cells #[.bool C.s,.slice C.a C.n C.c,.slice C.b C.m C.e] 27)
 replace qa:=qa.later bb
 replace qb:=qb.later bb
 replace hA:=hA.on bb
 replace hB:=hB.on bb
 replace hC:=hC.on bb
 replace bel:=bel.trans (bb.mono bel.size)
 clear bb
 have qc:=Blk.new ((w.alloc (.cells #[.bool A.s,.slice A.a A.n A.c,.slice A.b A.m A.e] 27)).alloc (.cells #[.bool B.s,.slice B.a B.n B.c,.slice B.b B.m B.e] 27)) #[.bool C.s,.slice C.a C.n C.c,.slice C.b C.m C.e] 27
 simp only [World.size_alloc] at qc
 go_enter Tryz.func21,Tryz.ntmps21
 go_wp2_with fail
 obtain ⟨W0,hW⟩:∃ W,(((w.alloc (.cells #[.bool A.s,.slice A.a A.n A.c,.slice A.b A.m A.e] 27)).alloc (.cells #[.bool B.s,.slice B.a B.n B.c,.slice B.b B.m B.e] 27)).alloc (.cells #[.bool C.s,.slice C.a C.n C.c,.slice C.b C.m C.e] 27))=W:=⟨_,rfl⟩
 rw [hW] at bel qa qb qc hA hB hC ⊢
 clear hW
 have qa_0:=qa.cell 0
 have qa_1:=qa.cell 1
 have qa_2:=qa.cell 2
 have qb_0:=qb.cell 0
 have qb_1:=qb.cell 1
 have qb_2:=qb.cell 2
 have qc_0:=qc.cell 0
 have qc_1:=qc.cell 1
 have qc_2:=qc.cell 2
 simp only [List.getElem?_toArray,List.getElem?_cons_zero,List.getElem?_cons_succ] at qa_0 qa_1 qa_2 qb_0 qb_1 qb_2 qc_0 qc_1 qc_2
 have bD:Below W0.heap.size W0 W0.drew:=(Below.refl _ _).drew
 have kqa_0:=below_cell bD qa_0
 have kqa_1:=below_cell bD qa_1
 have kqa_2:=below_cell bD qa_2
 have kqb_0:=below_cell bD qb_0
 have kqb_1:=below_cell bD qb_1
 have kqb_2:=below_cell bD qb_2
 have kqc_0:=below_cell bD qc_0
 have kqc_1:=below_cell bD qc_1
 have kqc_2:=below_cell bD qc_2
 replace hA:=hA.on bD
 replace hB:=hB.on bD
 replace hC:=hC.on bD
 replace bel:=bel.trans (bD.mono bel.size)
 replace qa:=qa.later bD
 replace qb:=qb.later bD
 replace qc:=qc.later bD
 refine wp_region_held_drew (S:=fun w'=>w'.cell? ⟨w.heap.size,0,none⟩=some (.bool A.s)∧w'.cell? ⟨w.heap.size,1,none⟩=some (.slice A.a A.n A.c)∧w'.cell? ⟨w.heap.size,2,none⟩=some (.slice A.b A.m A.e)∧w'.cell? ⟨w.heap.size+1,0,none⟩=some (.bool B.s)∧w'.cell? ⟨w.heap.size+1,1,none⟩=some (.slice B.a B.n B.c)∧w'.cell? ⟨w.heap.size+1,2,none⟩=some (.slice B.b B.m B.e)∧w'.cell? ⟨w.heap.size+1+1,0,none⟩=some (.bool C.s)∧w'.cell? ⟨w.heap.size+1+1,1,none⟩=some (.slice C.a C.n C.c)∧w'.cell? ⟨w.heap.size+1+1,2,none⟩=some (.slice C.b C.m C.e)) (by kernel_rfl) ⟨kqa_0,kqa_1,kqa_2,kqb_0,kqb_1,kqb_2,kqc_0,kqc_1,kqc_2⟩ (fun hHeld=>?_)
 clear kqa_0 kqa_1 kqa_2 kqb_0 kqb_1 kqb_2 kqc_0 kqc_1 kqc_2
 generalize W0.drew=w0F at bD hA hB hC qa qb qc bel hHeld ⊢
 clear bD qa_0 qa_1 qa_2 qb_0 qb_1 qb_2 qc_0 qc_1 qc_2
 refine tk 0 (v:=?_) rfl (Or.inl ⟨by rfl,?_⟩) ?_
 rotate_left
 ·intro w9 hSw
  go_simp
  first | done | with_reducible rfl
 simp only [pP,pN,pS,pZ,pC]
 refine tk 1 (v:=?_) rfl (Or.inl ⟨by rfl,?_⟩) ?_
 rotate_left
 ·intro w9 hSw
  go_simp
  first | done | with_reducible rfl
 simp only [pP,pN,pS,pZ,pC]
 refine tk 4 (v:=?_) rfl (Or.inl ⟨by rfl,?_⟩) ?_
 rotate_left
 ·intro w9 hSw
  go_simp
  first | done | with_reducible rfl
 simp only [pP,pN,pS,pZ,pC]
 refine tk 5 (v:=?_) rfl (Or.inl ⟨by rfl,?_⟩) ?_
 rotate_left
 ·intro w9 hSw
  go_simp
  first | done | with_reducible rfl
 simp only [pP,pN,pS,pZ,pC]
 refine wpAnyH_ready (rs:=[2]) (by kernel_rfl) (by simp) ?_
 refine cons' rfl (fun KK hKK=>?_)
 go_simp
 refine (GSB.out _ hA hB).mono ?_
 rintro e w1 ⟨p1,q1,rfl,b1,o1⟩
 have bC:=b1
 replace hA:=hA.on bC
 replace hB:=hB.on bC
 replace hC:=hC.on bC
 replace bel:=bel.trans (bC.mono bel.size)
 replace qa:=qa.later bC
 replace qb:=qb.later bC
 replace qc:=qc.later bC
 replace hHeld:=(⟨below_cell bC hHeld.1,below_cell bC hHeld.2.1,below_cell bC hHeld.2.2.1,below_cell bC hHeld.2.2.2.1,below_cell bC hHeld.2.2.2.2.1,below_cell bC hHeld.2.2.2.2.2.1,below_cell bC hHeld.2.2.2.2.2.2.1,below_cell bC hHeld.2.2.2.2.2.2.2.1,below_cell bC hHeld.2.2.2.2.2.2.2.2⟩:_∧_∧_∧_∧_∧_∧_∧_∧_)
 clear bC
 go_wp2_with fail
 clear b1
 refine hKK.out _ _ hHeld ?_
 clear hHeld
 intro hHeld
 clear hKK KK
 try simp only [pP,pN,pS,pZ,pC]
 refine wpAnyH_ready (rs:=[3]) (by kernel_rfl) (by simp) ?_
 refine cons' rfl (fun KK hKK=>?_)
 go_simp
 refine (GAB.out _ p1 q1 o1).mono ?_
 rintro e w2 ⟨p2,q2,rfl,b1,o2⟩
 have bC:=b1
 replace hA:=hA.on bC
 replace hB:=hB.on bC
 replace hC:=hC.on bC
 replace o1:=o1.on bC
 replace bel:=bel.trans (bC.mono bel.size)
 replace qa:=qa.later bC
 replace qb:=qb.later bC
 replace qc:=qc.later bC
 replace hHeld:=(⟨below_cell bC hHeld.1,below_cell bC hHeld.2.1,below_cell bC hHeld.2.2.1,below_cell bC hHeld.2.2.2.1,below_cell bC hHeld.2.2.2.2.1,below_cell bC hHeld.2.2.2.2.2.1,below_cell bC hHeld.2.2.2.2.2.2.1,below_cell bC hHeld.2.2.2.2.2.2.2.1,below_cell bC hHeld.2.2.2.2.2.2.2.2⟩:_∧_∧_∧_∧_∧_∧_∧_∧_)
 clear bC
 go_wp2_with fail
 clear b1
 refine hKK.out _ _ hHeld ?_
 clear hHeld
 intro hHeld
 clear hKK KK
 try simp only [pP,pN,pS,pZ,pC]
 refine wpAnyH_ready (rs:=[6]) (by kernel_rfl) (by simp) ?_
 refine cons' rfl (fun KK hKK=>?_)
 go_simp
 refine (GSC.out _ hA hC).mono ?_
 rintro e w3 ⟨p3,q3,rfl,b1,o3⟩
 have bC:=b1
 replace hA:=hA.on bC
 replace hB:=hB.on bC
 replace hC:=hC.on bC
 replace o1:=o1.on bC
 replace o2:=o2.on bC
 replace bel:=bel.trans (bC.mono bel.size)
 replace qa:=qa.later bC
 replace qb:=qb.later bC
 replace qc:=qc.later bC
 replace hHeld:=(⟨below_cell bC hHeld.1,below_cell bC hHeld.2.1,below_cell bC hHeld.2.2.1,below_cell bC hHeld.2.2.2.1,below_cell bC hHeld.2.2.2.2.1,below_cell bC hHeld.2.2.2.2.2.1,below_cell bC hHeld.2.2.2.2.2.2.1,below_cell bC hHeld.2.2.2.2.2.2.2.1,below_cell bC hHeld.2.2.2.2.2.2.2.2⟩:_∧_∧_∧_∧_∧_∧_∧_∧_)
 clear bC
 go_wp2_with fail
 clear b1
 refine hKK.out _ _ hHeld ?_
 clear hHeld
 intro hHeld
 clear hKK KK
 try simp only [pP,pN,pS,pZ,pC]
 refine wpAnyH_ready (rs:=[7]) (by kernel_rfl) (by simp) ?_
 refine cons' rfl (fun KK hKK=>?_)
 go_simp
 refine (GAC.out _ p3 q3 o3).mono ?_
 rintro e w4 ⟨p4,q4,rfl,b1,o4⟩
 have bC:=b1
 replace hA:=hA.on bC
 replace hB:=hB.on bC
 replace hC:=hC.on bC
 replace o1:=o1.on bC
 replace o2:=o2.on bC
 replace o3:=o3.on bC
 replace bel:=bel.trans (bC.mono bel.size)
 replace qa:=qa.later bC
 replace qb:=qb.later bC
 replace qc:=qc.later bC
 replace hHeld:=(⟨below_cell bC hHeld.1,below_cell bC hHeld.2.1,below_cell bC hHeld.2.2.1,below_cell bC hHeld.2.2.2.1,below_cell bC hHeld.2.2.2.2.1,below_cell bC hHeld.2.2.2.2.2.1,below_cell bC hHeld.2.2.2.2.2.2.1,below_cell bC hHeld.2.2.2.2.2.2.2.1,below_cell bC hHeld.2.2.2.2.2.2.2.2⟩:_∧_∧_∧_∧_∧_∧_∧_∧_)
 clear bC
 go_wp2_with fail
 clear b1
 refine hKK.out _ _ hHeld ?_
 clear hHeld
 intro hHeld
 clear hKK KK
 try simp only [pP,pN,pS,pZ,pC]
 refine wpAnyH_ready (rs:=[8]) (by kernel_rfl) (by simp) ?_
 refine cons' rfl (fun KK hKK=>?_)
 go_simp
 refine (G1.out _ p2 q2 p4 q4 o2 o4).mono ?_
 rintro e w5 ⟨rfl,b1⟩
 have bC:=b1
 replace hA:=hA.on bC
 replace hB:=hB.on bC
 replace hC:=hC.on bC
 replace o1:=o1.on bC
 replace o2:=o2.on bC
 replace o3:=o3.on bC
 replace o4:=o4.on bC
 replace bel:=bel.trans (bC.mono bel.size)
 replace qa:=qa.later bC
 replace qb:=qb.later bC
 replace qc:=qc.later bC
 replace hHeld:=(⟨below_cell bC hHeld.1,below_cell bC hHeld.2.1,below_cell bC hHeld.2.2.1,below_cell bC hHeld.2.2.2.1,below_cell bC hHeld.2.2.2.2.1,below_cell bC hHeld.2.2.2.2.2.1,below_cell bC hHeld.2.2.2.2.2.2.1,below_cell bC hHeld.2.2.2.2.2.2.2.1,below_cell bC hHeld.2.2.2.2.2.2.2.2⟩:_∧_∧_∧_∧_∧_∧_∧_∧_)
 clear bC
 go_wp2_with fail
 clear b1
 refine hKK.out _ _ hHeld ?_
 clear hHeld
 intro hHeld
 clear hKK KK
 try simp only [pP,pN,pS,pZ,pC]
 refine tk 9 (v:=?_) rfl (Or.inl ⟨by rfl,?_⟩) ?_
 rotate_left
 ·intro w9 hSw
  go_simp
  first | done | with_reducible rfl
 simp only [pP,pN,pS,pZ,pC]
 refine wpAnyH_done (by kernel_rfl) ?_ _
 skip
 clear o1 o2 o3 o4
 clear GSB GAB GSC GAC G1
 go_upto_region 4 with fail
 have qb_0:=qb.cell 0
 have qb_1:=qb.cell 1
 have qb_2:=qb.cell 2
 have qc_0:=qc.cell 0
 have qc_1:=qc.cell 1
 have qc_2:=qc.cell 2
 simp only [List.getElem?_toArray,List.getElem?_cons_zero,List.getElem?_cons_succ] at qb_0 qb_1 qb_2 qc_0 qc_1 qc_2
 have bD:Below w5.heap.size w5 w5.drew:=(Below.refl _ _).drew
 have kqb_0:=below_cell bD qb_0
 have kqb_1:=below_cell bD qb_1
 have kqb_2:=below_cell bD qb_2
 have kqc_0:=below_cell bD qc_0
 have kqc_1:=below_cell bD qc_1
 have kqc_2:=below_cell bD qc_2
 replace hA:=hA.on bD
 replace hB:=hB.on bD
 replace hC:=hC.on bD
 replace bel:=bel.trans (bD.mono bel.size)
 replace qa:=qa.later bD
 replace qb:=qb.later bD
 replace qc:=qc.later bD
 refine wp_region_held_drew (S:=fun w'=>w'.cell? ⟨w.heap.size+1,0,none⟩=some (.bool B.s)∧w'.cell? ⟨w.heap.size+1,1,none⟩=some (.slice B.a B.n B.c)∧w'.cell? ⟨w.heap.size+1,2,none⟩=some (.slice B.b B.m B.e)∧w'.cell? ⟨w.heap.size+1+1,0,none⟩=some (.bool C.s)∧w'.cell? ⟨w.heap.size+1+1,1,none⟩=some (.slice C.a C.n C.c)∧w'.cell? ⟨w.heap.size+1+1,2,none⟩=some (.slice C.b C.m C.e)) (by kernel_rfl) ⟨kqb_0,kqb_1,kqb_2,kqc_0,kqc_1,kqc_2⟩ (fun hHeld=>?_)
 clear kqb_0 kqb_1 kqb_2 kqc_0 kqc_1 kqc_2
 generalize w5.drew=w0G at bD hA hB hC qa qb qc bel hHeld ⊢
 clear bD qb_0 qb_1 qb_2 qc_0 qc_1 qc_2
 refine tk 0 (v:=?_) rfl (Or.inl ⟨by rfl,?_⟩) ?_
 rotate_left
 ·intro w9 hSw
  go_simp
  first | done | with_reducible rfl
 simp only [pP,pN,pS,pZ,pC]
 refine tk 3 (v:=?_) rfl (Or.inl ⟨by rfl,?_⟩) ?_
 rotate_left
 ·intro w9 hSw
  go_simp
  first | done | with_reducible rfl
 simp only [pP,pN,pS,pZ,pC]
 refine wpAnyH_ready (rs:=[1]) (by kernel_rfl) (by simp) ?_
 refine cons' rfl (fun KK hKK=>?_)
 go_simp
 refine (GNB.out _ hB).mono ?_
 rintro e w6 ⟨p5,q5,rfl,b1,o5⟩
 have bC:=b1
 replace hA:=hA.on bC
 replace hB:=hB.on bC
 replace hC:=hC.on bC
 replace bel:=bel.trans (bC.mono bel.size)
 replace qa:=qa.later bC
 replace qb:=qb.later bC
 replace qc:=qc.later bC
 replace hHeld:=(⟨below_cell bC hHeld.1,below_cell bC hHeld.2.1,below_cell bC hHeld.2.2.1,below_cell bC hHeld.2.2.2.1,below_cell bC hHeld.2.2.2.2.1,below_cell bC hHeld.2.2.2.2.2⟩:_∧_∧_∧_∧_∧_)
 clear bC
 go_wp2_with fail
 clear b1
 refine hKK.out _ _ hHeld ?_
 clear hHeld
 intro hHeld
 clear hKK KK
 try simp only [pP,pN,pS,pZ,pC]
 refine tk 2 (v:=?_) rfl (Or.inl ⟨by rfl,?_⟩) ?_
 rotate_left
 ·intro w9 hSw
  go_simp
  first | done | with_reducible rfl
 simp only [pP,pN,pS,pZ,pC]
 refine wpAnyH_ready (rs:=[4]) (by kernel_rfl) (by simp) ?_
 refine cons' rfl (fun KK hKK=>?_)
 go_simp
 refine (GNC.out _ hC).mono ?_
 rintro e w7 ⟨p6,q6,rfl,b1,o6⟩
 have bC:=b1
 replace hA:=hA.on bC
 replace hB:=hB.on bC
 replace hC:=hC.on bC
 replace o5:=o5.on bC
 replace bel:=bel.trans (bC.mono bel.size)
 replace qa:=qa.later bC
 replace qb:=qb.later bC
 replace qc:=qc.later bC
 replace hHeld:=(⟨below_cell bC hHeld.1,below_cell bC hHeld.2.1,below_cell bC hHeld.2.2.1,below_cell bC hHeld.2.2.2.1,below_cell bC hHeld.2.2.2.2.1,below_cell bC hHeld.2.2.2.2.2⟩:_∧_∧_∧_∧_∧_)
 clear bC
 go_wp2_with fail
 clear b1
 refine hKK.out _ _ hHeld ?_
 clear hHeld
 intro hHeld
 clear hKK KK
 try simp only [pP,pN,pS,pZ,pC]
 refine tk 5 (v:=?_) rfl (Or.inl ⟨by rfl,?_⟩) ?_
 rotate_left
 ·intro w9 hSw
  go_simp
  first | done | with_reducible rfl
 simp only [pP,pN,pS,pZ,pC]
 refine wpAnyH_ready (rs:=[6]) (by kernel_rfl) (by simp) ?_
 refine cons' rfl (fun KK hKK=>?_)
 go_simp
 refine (G2.out _ q5 q6 o5.2.2.2.1 o6.2.2.2.1).mono ?_
 rintro e w8 ⟨rfl,b1⟩
 have bC:=b1
 replace hA:=hA.on bC
 replace hB:=hB.on bC
 replace hC:=hC.on bC
 replace o5:=o5.on bC
 replace o6:=o6.on bC
 replace bel:=bel.trans (bC.mono bel.size)
 replace qa:=qa.later bC
 replace qb:=qb.later bC
 replace qc:=qc.later bC
 replace hHeld:=(⟨below_cell bC hHeld.1,below_cell bC hHeld.2.1,below_cell bC hHeld.2.2.1,below_cell bC hHeld.2.2.2.1,below_cell bC hHeld.2.2.2.2.1,below_cell bC hHeld.2.2.2.2.2⟩:_∧_∧_∧_∧_∧_)
 clear bC
 go_wp2_with fail
 clear b1
 refine hKK.out _ _ hHeld ?_
 clear hHeld
 intro hHeld
 clear hKK KK
 try simp only [pP,pN,pS,pZ,pC]
 refine tk 7 (v:=?_) rfl (Or.inl ⟨by rfl,?_⟩) ?_
 rotate_left
 ·intro w9 hSw
  go_simp
  first | done | with_reducible rfl
 simp only [pP,pN,pS,pZ,pC]
 refine wpAnyH_done (by kernel_rfl) ?_ _
 skip
 clear o5 o6
 clear GNB GNC G2
 go_wp2
 go_ret
 exact ⟨rfl,bel⟩
set_option maxHeartbeats 4000000 in
set_option maxRecDepth 100000 in
theorem vnear_d (A B C:RatV) (w:World) (hA:A.ok w) (hB:B.ok w) (hC:C.ok w) (hn:A.n≤2000000∧A.m≤2000000∧B.n≤2000000∧B.m≤2000000∧C.n≤2000000∧C.m≤2000000) (sA:sz 2000001 A.val) (sB:sz 2000001 B.val) (sC:sz 2000001 C.val) (h1:sR (dsR A.val B.val - dsR A.val C.val)=0) (h2:cmpI B.val.den C.val.den=1) :
  Calls Tryz.prog 21 #[.agg #[.bool A.s,.slice A.a A.n A.c,.slice A.b A.m A.e],.agg #[.bool B.s,.slice B.a B.n B.c,.slice B.b B.m B.e],.agg #[.bool C.s,.slice C.a C.n C.c,.slice C.b C.m C.e]] w fun e w'=>e=.returned (.bool false)∧Below w.heap.size w w':=by
 obtain ⟨SB,hSB⟩:∃ S,A.val - B.val=S:=⟨_,rfl⟩
 obtain ⟨DB,hDB⟩:∃ S,dsR A.val B.val=S:=⟨_,rfl⟩
 have zB:sz 100000000 SB:=by rw [←hSB];exact (sz_subY sA sB).mono (by omega)
 have zDB:sz 100000000 DB:=by rw [←hDB];exact (sz_ds sA sB).mono (by omega)
 have GSB:=hide' (fun w' k1 k2=>vsubQ A B SB w' k1 k2 (by omega) hSB zB)
 have GAB:=hide' (fun w' p q (k1:(nR SB p q).ok w')=>vabsQ (nR SB p q) DB w' k1 (by rw [nR_val,←hSB,absR_dsR2];exact hDB) zDB ⟨zB.1,zB.2⟩)
 obtain ⟨SC,hSC⟩:∃ S,A.val - C.val=S:=⟨_,rfl⟩
 obtain ⟨DC,hDC⟩:∃ S,dsR A.val C.val=S:=⟨_,rfl⟩
 have zC:sz 100000000 SC:=by rw [←hSC];exact (sz_subY sA sC).mono (by omega)
 have zDC:sz 100000000 DC:=by rw [←hDC];exact (sz_ds sA sC).mono (by omega)
 have GSC:=hide' (fun w' k1 k2=>vsubQ A C SC w' k1 k2 (by omega) hSC zC)
 have GAC:=hide' (fun w' p q (k1:(nR SC p q).ok w')=>vabsQ (nR SC p q) DC w' k1 (by rw [nR_val,←hSC,absR_dsR2];exact hDC) zDC ⟨zC.1,zC.2⟩)
 rw [hDB,hDC] at h1
 have G1:=hide' (fun w' p q p1 q1 (k1:(nR DB p q).ok w') (k2:(nR DC p1 q1).ok w')=>vcmpQ (nR DB p q) (nR DC p1 q1) w' k1 k2 ⟨zDB.1,zDB.2,zDC.1,zDC.2⟩ 0 (by rw [nR_val,nR_val];exact h1))
 have GNB:=hide' (fun w' k1=>vnormQ B B.val w' k1 rfl (sB.mono (by omega)))
 have GNC:=hide' (fun w' k1=>vnormQ C C.val w' k1 rfl (sC.mono (by omega)))
 have G2:=hide' (fun w' q q1 (k1:Seg w' q B.val.den (ln B.val.den)) (k2:Seg w' q1 C.val.den (ln C.val.den))=>(rCmp_any q q1 (ln B.val.den) (ln B.val.den) B.val.den (ln C.val.den) (ln C.val.den) C.val.den w' (Nat.le_trans sB.2 (by omega)) k1 (Nat.le_trans sC.2 (by omega)) k2).mono (fun e w2 h=>(show e=.returned (.int .i64 (cmpI B.val.den C.val.den))∧Below w'.heap.size w' w2 from ⟨h.1,h.2 ▸ Below.refl _ _⟩)))
 rw [h2] at G2
 clear h1 hDB hDC hSB hSC h2
 have hf:=run_fieldR
 have bel:Below w.heap.size w w:=Below.refl _ _
 have bb:=below_alloc (w:=w) (.cells #[.bool A.s,.slice A.a A.n A.c,.slice A.b A.m A.e] 27)
 replace hA:=hA.on bb
 replace hB:=hB.on bb
 replace hC:=hC.on bb
 replace bel:=bel.trans (bb.mono bel.size)
 clear bb
 have qa:=Blk.new w #[.bool A.s,.slice A.a A.n A.c,.slice A.b A.m A.e] 27
 have bb:=below_alloc (w:=(w.alloc (.cells #[.bool A.s,.slice A.a A.n A.c,.slice A.b A.m A.e] 27))) (.cells #[.bool B.s,.slice B.a B.n B.c,.slice B.b B.m B.e] 27)
 replace qa:=qa.later bb
 replace hA:=hA.on bb
 replace hB:=hB.on bb
 replace hC:=hC.on bb
 replace bel:=bel.trans (bb.mono bel.size)
 clear bb
 have qb:=Blk.new (w.alloc (.cells #[.bool A.s,.slice A.a A.n A.c,.slice A.b A.m A.e] 27)) #[.bool B.s,.slice B.a B.n B.c,.slice B.b B.m B.e] 27
 simp only [World.size_alloc] at qb
 have bb:=below_alloc (w:=((w.alloc (.cells #[.bool A.s,.slice A.a A.n A.c,.slice A.b A.m A.e] 27)).alloc (.cells #[.bool B.s,.slice B.a B.n B.c,.slice B.b B.m B.e] 27))) (.cells #[.bool C.s,.slice C.a C.n C.c,.slice C.b C.m C.e] 27)
 replace qa:=qa.later bb
 replace qb:=qb.later bb
 replace hA:=hA.on bb
 replace hB:=hB.on bb
 replace hC:=hC.on bb
 replace bel:=bel.trans (bb.mono bel.size)
 clear bb
 have qc:=Blk.new ((w.alloc (.cells #[.bool A.s,.slice A.a A.n A.c,.slice A.b A.m A.e] 27)).alloc (.cells #[.bool B.s,.slice B.a B.n B.c,.slice B.b B.m B.e] 27)) #[.bool C.s,.slice C.a C.n C.c,.slice C.b C.m C.e] 27
 simp only [World.size_alloc] at qc
 go_enter Tryz.func21,Tryz.ntmps21
 go_wp2_with fail
 obtain ⟨W0,hW⟩:∃ W,(((w.alloc (.cells #[.bool A.s,.slice A.a A.n A.c,.slice A.b A.m A.e] 27)).alloc (.cells #[.bool B.s,.slice B.a B.n B.c,.slice B.b B.m B.e] 27)).alloc (.cells #[.bool C.s,.slice C.a C.n C.c,.slice C.b C.m C.e] 27))=W:=⟨_,rfl⟩
 rw [hW] at bel qa qb qc hA hB hC ⊢
 clear hW
 have qa_0:=qa.cell 0
 have qa_1:=qa.cell 1
 have qa_2:=qa.cell 2
 have qb_0:=qb.cell 0
 have qb_1:=qb.cell 1
 have qb_2:=qb.cell 2
 have qc_0:=qc.cell 0
 have qc_1:=qc.cell 1
 have qc_2:=qc.cell 2
 simp only [List.getElem?_toArray,List.getElem?_cons_zero,List.getElem?_cons_succ] at qa_0 qa_1 qa_2 qb_0 qb_1 qb_2 qc_0 qc_1 qc_2
 have bD:Below W0.heap.size W0 W0.drew:=(Below.refl _ _).drew
 have kqa_0:=below_cell bD qa_0
 have kqa_1:=below_cell bD qa_1
 have kqa_2:=below_cell bD qa_2
 have kqb_0:=below_cell bD qb_0
 have kqb_1:=below_cell bD qb_1
 have kqb_2:=below_cell bD qb_2
 have kqc_0:=below_cell bD qc_0
 have kqc_1:=below_cell bD qc_1
 have kqc_2:=below_cell bD qc_2
 replace hA:=hA.on bD
 replace hB:=hB.on bD
 replace hC:=hC.on bD
 replace bel:=bel.trans (bD.mono bel.size)
 replace qa:=qa.later bD
 replace qb:=qb.later bD
 replace qc:=qc.later bD
 refine wp_region_held_drew (S:=fun w'=>w'.cell? ⟨w.heap.size,0,none⟩=some (.bool A.s)∧w'.cell? ⟨w.heap.size,1,none⟩=some (.slice A.a A.n A.c)∧w'.cell? ⟨w.heap.size,2,none⟩=some (.slice A.b A.m A.e)∧w'.cell? ⟨w.heap.size+1,0,none⟩=some (.bool B.s)∧w'.cell? ⟨w.heap.size+1,1,none⟩=some (.slice B.a B.n B.c)∧w'.cell? ⟨w.heap.size+1,2,none⟩=some (.slice B.b B.m B.e)∧w'.cell? ⟨w.heap.size+1+1,0,none⟩=some (.bool C.s)∧w'.cell? ⟨w.heap.size+1+1,1,none⟩=some (.slice C.a C.n C.c)∧w'.cell? ⟨w.heap.size+1+1,2,none⟩=some (.slice C.b C.m C.e)) (by kernel_rfl) ⟨kqa_0,kqa_1,kqa_2,kqb_0,kqb_1,kqb_2,kqc_0,kqc_1,kqc_2⟩ (fun hHeld=>?_)
 clear kqa_0 kqa_1 kqa_2 kqb_0 kqb_1 kqb_2 kqc_0 kqc_1 kqc_2
 generalize W0.drew=w0F at bD hA hB hC qa qb qc bel hHeld ⊢
 clear bD qa_0 qa_1 qa_2 qb_0 qb_1 qb_2 qc_0 qc_1 qc_2
 refine tk 0 (v:=?_) rfl (Or.inl ⟨by rfl,?_⟩) ?_
 rotate_left
 ·intro w9 hSw
  go_simp
  first | done | with_reducible rfl
 simp only [pP,pN,pS,pZ,pC]
 refine tk 1 (v:=?_) rfl (Or.inl ⟨by rfl,?_⟩) ?_
 rotate_left
 ·intro w9 hSw
  go_simp
  first | done | with_reducible rfl
 simp only [pP,pN,pS,pZ,pC]
 refine tk 4 (v:=?_) rfl (Or.inl ⟨by rfl,?_⟩) ?_
 rotate_left
 ·intro w9 hSw
  go_simp
  first | done | with_reducible rfl
 simp only [pP,pN,pS,pZ,pC]
 refine tk 5 (v:=?_) rfl (Or.inl ⟨by rfl,?_⟩) ?_
 rotate_left
 ·intro w9 hSw
  go_simp
  first | done | with_reducible rfl
 simp only [pP,pN,pS,pZ,pC]
 refine wpAnyH_ready (rs:=[2]) (by kernel_rfl) (by simp) ?_
 refine cons' rfl (fun KK hKK=>?_)
 go_simp
 refine (GSB.out _ hA hB).mono ?_
 rintro e w1 ⟨p1,q1,rfl,b1,o1⟩
 have bC:=b1
 replace hA:=hA.on bC
 replace hB:=hB.on bC
 replace hC:=hC.on bC
 replace bel:=bel.trans (bC.mono bel.size)
 replace qa:=qa.later bC
 replace qb:=qb.later bC
 replace qc:=qc.later bC
 replace hHeld:=(⟨below_cell bC hHeld.1,below_cell bC hHeld.2.1,below_cell bC hHeld.2.2.1,below_cell bC hHeld.2.2.2.1,below_cell bC hHeld.2.2.2.2.1,below_cell bC hHeld.2.2.2.2.2.1,below_cell bC hHeld.2.2.2.2.2.2.1,below_cell bC hHeld.2.2.2.2.2.2.2.1,below_cell bC hHeld.2.2.2.2.2.2.2.2⟩:_∧_∧_∧_∧_∧_∧_∧_∧_)
 clear bC
 go_wp2_with fail
 clear b1
 refine hKK.out _ _ hHeld ?_
 clear hHeld
 intro hHeld
 clear hKK KK
 try simp only [pP,pN,pS,pZ,pC]
 refine wpAnyH_ready (rs:=[3]) (by kernel_rfl) (by simp) ?_
 refine cons' rfl (fun KK hKK=>?_)
 go_simp
 refine (GAB.out _ p1 q1 o1).mono ?_
 rintro e w2 ⟨p2,q2,rfl,b1,o2⟩
 have bC:=b1
 replace hA:=hA.on bC
 replace hB:=hB.on bC
 replace hC:=hC.on bC
 replace o1:=o1.on bC
 replace bel:=bel.trans (bC.mono bel.size)
 replace qa:=qa.later bC
 replace qb:=qb.later bC
 replace qc:=qc.later bC
 replace hHeld:=(⟨below_cell bC hHeld.1,below_cell bC hHeld.2.1,below_cell bC hHeld.2.2.1,below_cell bC hHeld.2.2.2.1,below_cell bC hHeld.2.2.2.2.1,below_cell bC hHeld.2.2.2.2.2.1,below_cell bC hHeld.2.2.2.2.2.2.1,below_cell bC hHeld.2.2.2.2.2.2.2.1,below_cell bC hHeld.2.2.2.2.2.2.2.2⟩:_∧_∧_∧_∧_∧_∧_∧_∧_)
 clear bC
 go_wp2_with fail
 clear b1
 refine hKK.out _ _ hHeld ?_
 clear hHeld
 intro hHeld
 clear hKK KK
 try simp only [pP,pN,pS,pZ,pC]
 refine wpAnyH_ready (rs:=[6]) (by kernel_rfl) (by simp) ?_
 refine cons' rfl (fun KK hKK=>?_)
 go_simp
 refine (GSC.out _ hA hC).mono ?_
 rintro e w3 ⟨p3,q3,rfl,b1,o3⟩
 have bC:=b1
 replace hA:=hA.on bC
 replace hB:=hB.on bC
 replace hC:=hC.on bC
 replace o1:=o1.on bC
 replace o2:=o2.on bC
 replace bel:=bel.trans (bC.mono bel.size)
 replace qa:=qa.later bC
 replace qb:=qb.later bC
 replace qc:=qc.later bC
 replace hHeld:=(⟨below_cell bC hHeld.1,below_cell bC hHeld.2.1,below_cell bC hHeld.2.2.1,below_cell bC hHeld.2.2.2.1,below_cell bC hHeld.2.2.2.2.1,below_cell bC hHeld.2.2.2.2.2.1,below_cell bC hHeld.2.2.2.2.2.2.1,below_cell bC hHeld.2.2.2.2.2.2.2.1,below_cell bC hHeld.2.2.2.2.2.2.2.2⟩:_∧_∧_∧_∧_∧_∧_∧_∧_)
 clear bC
 go_wp2_with fail
 clear b1
 refine hKK.out _ _ hHeld ?_
 clear hHeld
 intro hHeld
 clear hKK KK
 try simp only [pP,pN,pS,pZ,pC]
 refine wpAnyH_ready (rs:=[7]) (by kernel_rfl) (by simp) ?_
 refine cons' rfl (fun KK hKK=>?_)
 go_simp
 refine (GAC.out _ p3 q3 o3).mono ?_
 rintro e w4 ⟨p4,q4,rfl,b1,o4⟩
 have bC:=b1
 replace hA:=hA.on bC
 replace hB:=hB.on bC
 replace hC:=hC.on bC
 replace o1:=o1.on bC
 replace o2:=o2.on bC
 replace o3:=o3.on bC
 replace bel:=bel.trans (bC.mono bel.size)
 replace qa:=qa.later bC
 replace qb:=qb.later bC
 replace qc:=qc.later bC
 replace hHeld:=(⟨below_cell bC hHeld.1,below_cell bC hHeld.2.1,below_cell bC hHeld.2.2.1,below_cell bC hHeld.2.2.2.1,below_cell bC hHeld.2.2.2.2.1,below_cell bC hHeld.2.2.2.2.2.1,below_cell bC hHeld.2.2.2.2.2.2.1,below_cell bC hHeld.2.2.2.2.2.2.2.1,below_cell bC hHeld.2.2.2.2.2.2.2.2⟩:_∧_∧_∧_∧_∧_∧_∧_∧_)
 clear bC
 go_wp2_with fail
 clear b1
 refine hKK.out _ _ hHeld ?_
 clear hHeld
 intro hHeld
 clear hKK KK
 try simp only [pP,pN,pS,pZ,pC]
 refine wpAnyH_ready (rs:=[8]) (by kernel_rfl) (by simp) ?_
 refine cons' rfl (fun KK hKK=>?_)
 go_simp
 refine (G1.out _ p2 q2 p4 q4 o2 o4).mono ?_
 rintro e w5 ⟨rfl,b1⟩
 have bC:=b1
 replace hA:=hA.on bC
 replace hB:=hB.on bC
 replace hC:=hC.on bC
 replace o1:=o1.on bC
 replace o2:=o2.on bC
 replace o3:=o3.on bC
 replace o4:=o4.on bC
 replace bel:=bel.trans (bC.mono bel.size)
 replace qa:=qa.later bC
 replace qb:=qb.later bC
 replace qc:=qc.later bC
 replace hHeld:=(⟨below_cell bC hHeld.1,below_cell bC hHeld.2.1,below_cell bC hHeld.2.2.1,below_cell bC hHeld.2.2.2.1,below_cell bC hHeld.2.2.2.2.1,below_cell bC hHeld.2.2.2.2.2.1,below_cell bC hHeld.2.2.2.2.2.2.1,below_cell bC hHeld.2.2.2.2.2.2.2.1,below_cell bC hHeld.2.2.2.2.2.2.2.2⟩:_∧_∧_∧_∧_∧_∧_∧_∧_)
 clear bC
 go_wp2_with fail
 clear b1
 refine hKK.out _ _ hHeld ?_
 clear hHeld
 intro hHeld
 clear hKK KK
 try simp only [pP,pN,pS,pZ,pC]
 refine tk 9 (v:=?_) rfl (Or.inl ⟨by rfl,?_⟩) ?_
 rotate_left
 ·intro w9 hSw
  go_simp
  first | done | with_reducible rfl
 simp only [pP,pN,pS,pZ,pC]
 refine wpAnyH_done (by kernel_rfl) ?_ _
 skip
 clear o1 o2 o3 o4
 clear GSB GAB GSC GAC G1
 go_upto_region 4 with fail
 have qb_0:=qb.cell 0
 have qb_1:=qb.cell 1
 have qb_2:=qb.cell 2
 have qc_0:=qc.cell 0
 have qc_1:=qc.cell 1
 have qc_2:=qc.cell 2
 simp only [List.getElem?_toArray,List.getElem?_cons_zero,List.getElem?_cons_succ] at qb_0 qb_1 qb_2 qc_0 qc_1 qc_2
 have bD:Below w5.heap.size w5 w5.drew:=(Below.refl _ _).drew
 have kqb_0:=below_cell bD qb_0
 have kqb_1:=below_cell bD qb_1
 have kqb_2:=below_cell bD qb_2
 have kqc_0:=below_cell bD qc_0
 have kqc_1:=below_cell bD qc_1
 have kqc_2:=below_cell bD qc_2
 replace hA:=hA.on bD
 replace hB:=hB.on bD
 replace hC:=hC.on bD
 replace bel:=bel.trans (bD.mono bel.size)
 replace qa:=qa.later bD
 replace qb:=qb.later bD
 replace qc:=qc.later bD
 refine wp_region_held_drew (S:=fun w'=>w'.cell? ⟨w.heap.size+1,0,none⟩=some (.bool B.s)∧w'.cell? ⟨w.heap.size+1,1,none⟩=some (.slice B.a B.n B.c)∧w'.cell? ⟨w.heap.size+1,2,none⟩=some (.slice B.b B.m B.e)∧w'.cell? ⟨w.heap.size+1+1,0,none⟩=some (.bool C.s)∧w'.cell? ⟨w.heap.size+1+1,1,none⟩=some (.slice C.a C.n C.c)∧w'.cell? ⟨w.heap.size+1+1,2,none⟩=some (.slice C.b C.m C.e)) (by kernel_rfl) ⟨kqb_0,kqb_1,kqb_2,kqc_0,kqc_1,kqc_2⟩ (fun hHeld=>?_)
 clear kqb_0 kqb_1 kqb_2 kqc_0 kqc_1 kqc_2
 generalize w5.drew=w0G at bD hA hB hC qa qb qc bel hHeld ⊢
 clear bD qb_0 qb_1 qb_2 qc_0 qc_1 qc_2
 refine tk 0 (v:=?_) rfl (Or.inl ⟨by rfl,?_⟩) ?_
 rotate_left
 ·intro w9 hSw
  go_simp
  first | done | with_reducible rfl
 simp only [pP,pN,pS,pZ,pC]
 refine tk 3 (v:=?_) rfl (Or.inl ⟨by rfl,?_⟩) ?_
 rotate_left
 ·intro w9 hSw
  go_simp
  first | done | with_reducible rfl
 simp only [pP,pN,pS,pZ,pC]
 refine wpAnyH_ready (rs:=[1]) (by kernel_rfl) (by simp) ?_
 refine cons' rfl (fun KK hKK=>?_)
 go_simp
 refine (GNB.out _ hB).mono ?_
 rintro e w6 ⟨p5,q5,rfl,b1,o5⟩
 have bC:=b1
 replace hA:=hA.on bC
 replace hB:=hB.on bC
 replace hC:=hC.on bC
 replace bel:=bel.trans (bC.mono bel.size)
 replace qa:=qa.later bC
 replace qb:=qb.later bC
 replace qc:=qc.later bC
 replace hHeld:=(⟨below_cell bC hHeld.1,below_cell bC hHeld.2.1,below_cell bC hHeld.2.2.1,below_cell bC hHeld.2.2.2.1,below_cell bC hHeld.2.2.2.2.1,below_cell bC hHeld.2.2.2.2.2⟩:_∧_∧_∧_∧_∧_)
 clear bC
 go_wp2_with fail
 clear b1
 refine hKK.out _ _ hHeld ?_
 clear hHeld
 intro hHeld
 clear hKK KK
 try simp only [pP,pN,pS,pZ,pC]
 refine tk 2 (v:=?_) rfl (Or.inl ⟨by rfl,?_⟩) ?_
 rotate_left
 ·intro w9 hSw
  go_simp
  first | done | with_reducible rfl
 simp only [pP,pN,pS,pZ,pC]
 refine wpAnyH_ready (rs:=[4]) (by kernel_rfl) (by simp) ?_
 refine cons' rfl (fun KK hKK=>?_)
 go_simp
 refine (GNC.out _ hC).mono ?_
 rintro e w7 ⟨p6,q6,rfl,b1,o6⟩
 have bC:=b1
 replace hA:=hA.on bC
 replace hB:=hB.on bC
 replace hC:=hC.on bC
 replace o5:=o5.on bC
 replace bel:=bel.trans (bC.mono bel.size)
 replace qa:=qa.later bC
 replace qb:=qb.later bC
 replace qc:=qc.later bC
 replace hHeld:=(⟨below_cell bC hHeld.1,below_cell bC hHeld.2.1,below_cell bC hHeld.2.2.1,below_cell bC hHeld.2.2.2.1,below_cell bC hHeld.2.2.2.2.1,below_cell bC hHeld.2.2.2.2.2⟩:_∧_∧_∧_∧_∧_)
 clear bC
 go_wp2_with fail
 clear b1
 refine hKK.out _ _ hHeld ?_
 clear hHeld
 intro hHeld
 clear hKK KK
 try simp only [pP,pN,pS,pZ,pC]
 refine tk 5 (v:=?_) rfl (Or.inl ⟨by rfl,?_⟩) ?_
 rotate_left
 ·intro w9 hSw
  go_simp
  first | done | with_reducible rfl
 simp only [pP,pN,pS,pZ,pC]
 refine wpAnyH_ready (rs:=[6]) (by kernel_rfl) (by simp) ?_
 refine cons' rfl (fun KK hKK=>?_)
 go_simp
 refine (G2.out _ q5 q6 o5.2.2.2.1 o6.2.2.2.1).mono ?_
 rintro e w8 ⟨rfl,b1⟩
 have bC:=b1
 replace hA:=hA.on bC
 replace hB:=hB.on bC
 replace hC:=hC.on bC
 replace o5:=o5.on bC
 replace o6:=o6.on bC
 replace bel:=bel.trans (bC.mono bel.size)
 replace qa:=qa.later bC
 replace qb:=qb.later bC
 replace qc:=qc.later bC
 replace hHeld:=(⟨below_cell bC hHeld.1,below_cell bC hHeld.2.1,below_cell bC hHeld.2.2.1,below_cell bC hHeld.2.2.2.1,below_cell bC hHeld.2.2.2.2.1,below_cell bC hHeld.2.2.2.2.2⟩:_∧_∧_∧_∧_∧_)
 clear bC
 go_wp2_with fail
 clear b1
 refine hKK.out _ _ hHeld ?_
 clear hHeld
 intro hHeld
 clear hKK KK
 try simp only [pP,pN,pS,pZ,pC]
 refine tk 7 (v:=?_) rfl (Or.inl ⟨by rfl,?_⟩) ?_
 rotate_left
 ·intro w9 hSw
  go_simp
  first | done | with_reducible rfl
 simp only [pP,pN,pS,pZ,pC]
 refine wpAnyH_done (by kernel_rfl) ?_ _
 skip
 clear o5 o6
 clear GNB GNC G2
 go_wp2
 go_ret
 exact ⟨rfl,bel⟩
set_option maxHeartbeats 4000000 in
set_option maxRecDepth 100000 in
theorem vnear_e (A B C:RatV) (w:World) (hA:A.ok w) (hB:B.ok w) (hC:C.ok w) (hn:A.n≤2000000∧A.m≤2000000∧B.n≤2000000∧B.m≤2000000∧C.n≤2000000∧C.m≤2000000) (sA:sz 2000001 A.val) (sB:sz 2000001 B.val) (sC:sz 2000001 C.val) (h1:sR (dsR A.val B.val - dsR A.val C.val)=0) (h2:cmpI B.val.den C.val.den=0) (h3:sR (B.val - C.val)=(-1)) :
  Calls Tryz.prog 21 #[.agg #[.bool A.s,.slice A.a A.n A.c,.slice A.b A.m A.e],.agg #[.bool B.s,.slice B.a B.n B.c,.slice B.b B.m B.e],.agg #[.bool C.s,.slice C.a C.n C.c,.slice C.b C.m C.e]] w fun e w'=>e=.returned (.bool true)∧Below w.heap.size w w':=by
 obtain ⟨SB,hSB⟩:∃ S,A.val - B.val=S:=⟨_,rfl⟩
 obtain ⟨DB,hDB⟩:∃ S,dsR A.val B.val=S:=⟨_,rfl⟩
 have zB:sz 100000000 SB:=by rw [←hSB];exact (sz_subY sA sB).mono (by omega)
 have zDB:sz 100000000 DB:=by rw [←hDB];exact (sz_ds sA sB).mono (by omega)
 have GSB:=hide' (fun w' k1 k2=>vsubQ A B SB w' k1 k2 (by omega) hSB zB)
 have GAB:=hide' (fun w' p q (k1:(nR SB p q).ok w')=>vabsQ (nR SB p q) DB w' k1 (by rw [nR_val,←hSB,absR_dsR2];exact hDB) zDB ⟨zB.1,zB.2⟩)
 obtain ⟨SC,hSC⟩:∃ S,A.val - C.val=S:=⟨_,rfl⟩
 obtain ⟨DC,hDC⟩:∃ S,dsR A.val C.val=S:=⟨_,rfl⟩
 have zC:sz 100000000 SC:=by rw [←hSC];exact (sz_subY sA sC).mono (by omega)
 have zDC:sz 100000000 DC:=by rw [←hDC];exact (sz_ds sA sC).mono (by omega)
 have GSC:=hide' (fun w' k1 k2=>vsubQ A C SC w' k1 k2 (by omega) hSC zC)
 have GAC:=hide' (fun w' p q (k1:(nR SC p q).ok w')=>vabsQ (nR SC p q) DC w' k1 (by rw [nR_val,←hSC,absR_dsR2];exact hDC) zDC ⟨zC.1,zC.2⟩)
 rw [hDB,hDC] at h1
 have G1:=hide' (fun w' p q p1 q1 (k1:(nR DB p q).ok w') (k2:(nR DC p1 q1).ok w')=>vcmpQ (nR DB p q) (nR DC p1 q1) w' k1 k2 ⟨zDB.1,zDB.2,zDC.1,zDC.2⟩ 0 (by rw [nR_val,nR_val];exact h1))
 have GNB:=hide' (fun w' k1=>vnormQ B B.val w' k1 rfl (sB.mono (by omega)))
 have GNC:=hide' (fun w' k1=>vnormQ C C.val w' k1 rfl (sC.mono (by omega)))
 have G2:=hide' (fun w' q q1 (k1:Seg w' q B.val.den (ln B.val.den)) (k2:Seg w' q1 C.val.den (ln C.val.den))=>(rCmp_any q q1 (ln B.val.den) (ln B.val.den) B.val.den (ln C.val.den) (ln C.val.den) C.val.den w' (Nat.le_trans sB.2 (by omega)) k1 (Nat.le_trans sC.2 (by omega)) k2).mono (fun e w2 h=>(show e=.returned (.int .i64 (cmpI B.val.den C.val.den))∧Below w'.heap.size w' w2 from ⟨h.1,h.2 ▸ Below.refl _ _⟩)))
 rw [h2] at G2
 have G3:=hide' (fun w' k1 k2=>vcmpQ B C w' k1 k2 (by omega) (-1) h3)
 clear h1 hDB hDC hSB hSC h2 h3
 have hf:=run_fieldR
 have bel:Below w.heap.size w w:=Below.refl _ _
 have bb:=below_alloc (w:=w) (.cells #[.bool A.s,.slice A.a A.n A.c,.slice A.b A.m A.e] 27)
 replace hA:=hA.on bb
 replace hB:=hB.on bb
 replace hC:=hC.on bb
 replace bel:=bel.trans (bb.mono bel.size)
 clear bb
 have qa:=Blk.new w #[.bool A.s,.slice A.a A.n A.c,.slice A.b A.m A.e] 27
 have bb:=below_alloc (w:=(w.alloc (.cells #[.bool A.s,.slice A.a A.n A.c,.slice A.b A.m A.e] 27))) (.cells #[.bool B.s,.slice B.a B.n B.c,.slice B.b B.m B.e] 27)
 replace qa:=qa.later bb
 replace hA:=hA.on bb
 replace hB:=hB.on bb
 replace hC:=hC.on bb
 replace bel:=bel.trans (bb.mono bel.size)
 clear bb
 have qb:=Blk.new (w.alloc (.cells #[.bool A.s,.slice A.a A.n A.c,.slice A.b A.m A.e] 27)) #[.bool B.s,.slice B.a B.n B.c,.slice B.b B.m B.e] 27
 simp only [World.size_alloc] at qb
 have bb:=below_alloc (w:=((w.alloc (.cells #[.bool A.s,.slice A.a A.n A.c,.slice A.b A.m A.e] 27)).alloc (.cells #[.bool B.s,.slice B.a B.n B.c,.slice B.b B.m B.e] 27))) (.cells #[.bool C.s,.slice C.a C.n C.c,.slice C.b C.m C.e] 27)
 replace qa:=qa.later bb
 replace qb:=qb.later bb
 replace hA:=hA.on bb
 replace hB:=hB.on bb
 replace hC:=hC.on bb
 replace bel:=bel.trans (bb.mono bel.size)
 clear bb
 have qc:=Blk.new ((w.alloc (.cells #[.bool A.s,.slice A.a A.n A.c,.slice A.b A.m A.e] 27)).alloc (.cells #[.bool B.s,.slice B.a B.n B.c,.slice B.b B.m B.e] 27)) #[.bool C.s,.slice C.a C.n C.c,.slice C.b C.m C.e] 27
 simp only [World.size_alloc] at qc
 go_enter Tryz.func21,Tryz.ntmps21
 go_wp2_with fail
 obtain ⟨W0,hW⟩:∃ W,(((w.alloc (.cells #[.bool A.s,.slice A.a A.n A.c,.slice A.b A.m A.e] 27)).alloc (.cells #[.bool B.s,.slice B.a B.n B.c,.slice B.b B.m B.e] 27)).alloc (.cells #[.bool C.s,.slice C.a C.n C.c,.slice C.b C.m C.e] 27))=W:=⟨_,rfl⟩
 rw [hW] at bel qa qb qc hA hB hC ⊢
 clear hW
 have qa_0:=qa.cell 0
 have qa_1:=qa.cell 1
 have qa_2:=qa.cell 2
 have qb_0:=qb.cell 0
 have qb_1:=qb.cell 1
 have qb_2:=qb.cell 2
 have qc_0:=qc.cell 0
 have qc_1:=qc.cell 1
 have qc_2:=qc.cell 2
 simp only [List.getElem?_toArray,List.getElem?_cons_zero,List.getElem?_cons_succ] at qa_0 qa_1 qa_2 qb_0 qb_1 qb_2 qc_0 qc_1 qc_2
 have bD:Below W0.heap.size W0 W0.drew:=(Below.refl _ _).drew
 have kqa_0:=below_cell bD qa_0
 have kqa_1:=below_cell bD qa_1
 have kqa_2:=below_cell bD qa_2
 have kqb_0:=below_cell bD qb_0
 have kqb_1:=below_cell bD qb_1
 have kqb_2:=below_cell bD qb_2
 have kqc_0:=below_cell bD qc_0
 have kqc_1:=below_cell bD qc_1
 have kqc_2:=below_cell bD qc_2
 replace hA:=hA.on bD
 replace hB:=hB.on bD
 replace hC:=hC.on bD
 replace bel:=bel.trans (bD.mono bel.size)
 replace qa:=qa.later bD
 replace qb:=qb.later bD
 replace qc:=qc.later bD
 refine wp_region_held_drew (S:=fun w'=>w'.cell? ⟨w.heap.size,0,none⟩=some (.bool A.s)∧w'.cell? ⟨w.heap.size,1,none⟩=some (.slice A.a A.n A.c)∧w'.cell? ⟨w.heap.size,2,none⟩=some (.slice A.b A.m A.e)∧w'.cell? ⟨w.heap.size+1,0,none⟩=some (.bool B.s)∧w'.cell? ⟨w.heap.size+1,1,none⟩=some (.slice B.a B.n B.c)∧w'.cell? ⟨w.heap.size+1,2,none⟩=some (.slice B.b B.m B.e)∧w'.cell? ⟨w.heap.size+1+1,0,none⟩=some (.bool C.s)∧w'.cell? ⟨w.heap.size+1+1,1,none⟩=some (.slice C.a C.n C.c)∧w'.cell? ⟨w.heap.size+1+1,2,none⟩=some (.slice C.b C.m C.e)) (by kernel_rfl) ⟨kqa_0,kqa_1,kqa_2,kqb_0,kqb_1,kqb_2,kqc_0,kqc_1,kqc_2⟩ (fun hHeld=>?_)
 clear kqa_0 kqa_1 kqa_2 kqb_0 kqb_1 kqb_2 kqc_0 kqc_1 kqc_2
 generalize W0.drew=w0F at bD hA hB hC qa qb qc bel hHeld ⊢
 clear bD qa_0 qa_1 qa_2 qb_0 qb_1 qb_2 qc_0 qc_1 qc_2
 refine tk 0 (v:=?_) rfl (Or.inl ⟨by rfl,?_⟩) ?_
 rotate_left
 ·intro w9 hSw
  go_simp
  first | done | with_reducible rfl
 simp only [pP,pN,pS,pZ,pC]
 refine tk 1 (v:=?_) rfl (Or.inl ⟨by rfl,?_⟩) ?_
 rotate_left
 ·intro w9 hSw
  go_simp
  first | done | with_reducible rfl
 simp only [pP,pN,pS,pZ,pC]
 refine tk 4 (v:=?_) rfl (Or.inl ⟨by rfl,?_⟩) ?_
 rotate_left
 ·intro w9 hSw
  go_simp
  first | done | with_reducible rfl
 simp only [pP,pN,pS,pZ,pC]
 refine tk 5 (v:=?_) rfl (Or.inl ⟨by rfl,?_⟩) ?_
 rotate_left
 ·intro w9 hSw
  go_simp
  first | done | with_reducible rfl
 simp only [pP,pN,pS,pZ,pC]
 refine wpAnyH_ready (rs:=[2]) (by kernel_rfl) (by simp) ?_
 refine cons' rfl (fun KK hKK=>?_)
 go_simp
 refine (GSB.out _ hA hB).mono ?_
 rintro e w1 ⟨p1,q1,rfl,b1,o1⟩
 have bC:=b1
 replace hA:=hA.on bC
 replace hB:=hB.on bC
 replace hC:=hC.on bC
 replace bel:=bel.trans (bC.mono bel.size)
 replace qa:=qa.later bC
 replace qb:=qb.later bC
 replace qc:=qc.later bC
 replace hHeld:=(⟨below_cell bC hHeld.1,below_cell bC hHeld.2.1,below_cell bC hHeld.2.2.1,below_cell bC hHeld.2.2.2.1,below_cell bC hHeld.2.2.2.2.1,below_cell bC hHeld.2.2.2.2.2.1,below_cell bC hHeld.2.2.2.2.2.2.1,below_cell bC hHeld.2.2.2.2.2.2.2.1,below_cell bC hHeld.2.2.2.2.2.2.2.2⟩:_∧_∧_∧_∧_∧_∧_∧_∧_)
 clear bC
 go_wp2_with fail
 clear b1
 refine hKK.out _ _ hHeld ?_
 clear hHeld
 intro hHeld
 clear hKK KK
 try simp only [pP,pN,pS,pZ,pC]
 refine wpAnyH_ready (rs:=[3]) (by kernel_rfl) (by simp) ?_
 refine cons' rfl (fun KK hKK=>?_)
 go_simp
 refine (GAB.out _ p1 q1 o1).mono ?_
 rintro e w2 ⟨p2,q2,rfl,b1,o2⟩
 have bC:=b1
 replace hA:=hA.on bC
 replace hB:=hB.on bC
 replace hC:=hC.on bC
 replace o1:=o1.on bC
 replace bel:=bel.trans (bC.mono bel.size)
 replace qa:=qa.later bC
 replace qb:=qb.later bC
 replace qc:=qc.later bC
 replace hHeld:=(⟨below_cell bC hHeld.1,below_cell bC hHeld.2.1,below_cell bC hHeld.2.2.1,below_cell bC hHeld.2.2.2.1,below_cell bC hHeld.2.2.2.2.1,below_cell bC hHeld.2.2.2.2.2.1,below_cell bC hHeld.2.2.2.2.2.2.1,below_cell bC hHeld.2.2.2.2.2.2.2.1,below_cell bC hHeld.2.2.2.2.2.2.2.2⟩:_∧_∧_∧_∧_∧_∧_∧_∧_)
 clear bC
 go_wp2_with fail
 clear b1
 refine hKK.out _ _ hHeld ?_
 clear hHeld
 intro hHeld
 clear hKK KK
 try simp only [pP,pN,pS,pZ,pC]
 refine wpAnyH_ready (rs:=[6]) (by kernel_rfl) (by simp) ?_
 refine cons' rfl (fun KK hKK=>?_)
 go_simp
 refine (GSC.out _ hA hC).mono ?_
 rintro e w3 ⟨p3,q3,rfl,b1,o3⟩
 have bC:=b1
 replace hA:=hA.on bC
 replace hB:=hB.on bC
 replace hC:=hC.on bC
 replace o1:=o1.on bC
 replace o2:=o2.on bC
 replace bel:=bel.trans (bC.mono bel.size)
 replace qa:=qa.later bC
 replace qb:=qb.later bC
 replace qc:=qc.later bC
 replace hHeld:=(⟨below_cell bC hHeld.1,below_cell bC hHeld.2.1,below_cell bC hHeld.2.2.1,below_cell bC hHeld.2.2.2.1,below_cell bC hHeld.2.2.2.2.1,below_cell bC hHeld.2.2.2.2.2.1,below_cell bC hHeld.2.2.2.2.2.2.1,below_cell bC hHeld.2.2.2.2.2.2.2.1,below_cell bC hHeld.2.2.2.2.2.2.2.2⟩:_∧_∧_∧_∧_∧_∧_∧_∧_)
 clear bC
 go_wp2_with fail
 clear b1
 refine hKK.out _ _ hHeld ?_
 clear hHeld
 intro hHeld
 clear hKK KK
 try simp only [pP,pN,pS,pZ,pC]
 refine wpAnyH_ready (rs:=[7]) (by kernel_rfl) (by simp) ?_
 refine cons' rfl (fun KK hKK=>?_)
 go_simp
 refine (GAC.out _ p3 q3 o3).mono ?_
 rintro e w4 ⟨p4,q4,rfl,b1,o4⟩
 have bC:=b1
 replace hA:=hA.on bC
 replace hB:=hB.on bC
 replace hC:=hC.on bC
 replace o1:=o1.on bC
 replace o2:=o2.on bC
 replace o3:=o3.on bC
 replace bel:=bel.trans (bC.mono bel.size)
 replace qa:=qa.later bC
 replace qb:=qb.later bC
 replace qc:=qc.later bC
 replace hHeld:=(⟨below_cell bC hHeld.1,below_cell bC hHeld.2.1,below_cell bC hHeld.2.2.1,below_cell bC hHeld.2.2.2.1,below_cell bC hHeld.2.2.2.2.1,below_cell bC hHeld.2.2.2.2.2.1,below_cell bC hHeld.2.2.2.2.2.2.1,below_cell bC hHeld.2.2.2.2.2.2.2.1,below_cell bC hHeld.2.2.2.2.2.2.2.2⟩:_∧_∧_∧_∧_∧_∧_∧_∧_)
 clear bC
 go_wp2_with fail
 clear b1
 refine hKK.out _ _ hHeld ?_
 clear hHeld
 intro hHeld
 clear hKK KK
 try simp only [pP,pN,pS,pZ,pC]
 refine wpAnyH_ready (rs:=[8]) (by kernel_rfl) (by simp) ?_
 refine cons' rfl (fun KK hKK=>?_)
 go_simp
 refine (G1.out _ p2 q2 p4 q4 o2 o4).mono ?_
 rintro e w5 ⟨rfl,b1⟩
 have bC:=b1
 replace hA:=hA.on bC
 replace hB:=hB.on bC
 replace hC:=hC.on bC
 replace o1:=o1.on bC
 replace o2:=o2.on bC
 replace o3:=o3.on bC
 replace o4:=o4.on bC
 replace bel:=bel.trans (bC.mono bel.size)
 replace qa:=qa.later bC
 replace qb:=qb.later bC
 replace qc:=qc.later bC
 replace hHeld:=(⟨below_cell bC hHeld.1,below_cell bC hHeld.2.1,below_cell bC hHeld.2.2.1,below_cell bC hHeld.2.2.2.1,below_cell bC hHeld.2.2.2.2.1,below_cell bC hHeld.2.2.2.2.2.1,below_cell bC hHeld.2.2.2.2.2.2.1,below_cell bC hHeld.2.2.2.2.2.2.2.1,below_cell bC hHeld.2.2.2.2.2.2.2.2⟩:_∧_∧_∧_∧_∧_∧_∧_∧_)
 clear bC
 go_wp2_with fail
 clear b1
 refine hKK.out _ _ hHeld ?_
 clear hHeld
 intro hHeld
 clear hKK KK
 try simp only [pP,pN,pS,pZ,pC]
 refine tk 9 (v:=?_) rfl (Or.inl ⟨by rfl,?_⟩) ?_
 rotate_left
 ·intro w9 hSw
  go_simp
  first | done | with_reducible rfl
 simp only [pP,pN,pS,pZ,pC]
 refine wpAnyH_done (by kernel_rfl) ?_ _
 skip
 clear o1 o2 o3 o4
 clear GSB GAB GSC GAC G1
 go_upto_region 4 with fail
 have qb_0:=qb.cell 0
 have qb_1:=qb.cell 1
 have qb_2:=qb.cell 2
 have qc_0:=qc.cell 0
 have qc_1:=qc.cell 1
 have qc_2:=qc.cell 2
 simp only [List.getElem?_toArray,List.getElem?_cons_zero,List.getElem?_cons_succ] at qb_0 qb_1 qb_2 qc_0 qc_1 qc_2
 have bD:Below w5.heap.size w5 w5.drew:=(Below.refl _ _).drew
 have kqb_0:=below_cell bD qb_0
 have kqb_1:=below_cell bD qb_1
 have kqb_2:=below_cell bD qb_2
 have kqc_0:=below_cell bD qc_0
 have kqc_1:=below_cell bD qc_1
 have kqc_2:=below_cell bD qc_2
 replace hA:=hA.on bD
 replace hB:=hB.on bD
 replace hC:=hC.on bD
 replace bel:=bel.trans (bD.mono bel.size)
 replace qa:=qa.later bD
 replace qb:=qb.later bD
 replace qc:=qc.later bD
 refine wp_region_held_drew (S:=fun w'=>w'.cell? ⟨w.heap.size+1,0,none⟩=some (.bool B.s)∧w'.cell? ⟨w.heap.size+1,1,none⟩=some (.slice B.a B.n B.c)∧w'.cell? ⟨w.heap.size+1,2,none⟩=some (.slice B.b B.m B.e)∧w'.cell? ⟨w.heap.size+1+1,0,none⟩=some (.bool C.s)∧w'.cell? ⟨w.heap.size+1+1,1,none⟩=some (.slice C.a C.n C.c)∧w'.cell? ⟨w.heap.size+1+1,2,none⟩=some (.slice C.b C.m C.e)) (by kernel_rfl) ⟨kqb_0,kqb_1,kqb_2,kqc_0,kqc_1,kqc_2⟩ (fun hHeld=>?_)
 clear kqb_0 kqb_1 kqb_2 kqc_0 kqc_1 kqc_2
 generalize w5.drew=w0G at bD hA hB hC qa qb qc bel hHeld ⊢
 clear bD qb_0 qb_1 qb_2 qc_0 qc_1 qc_2
 refine tk 0 (v:=?_) rfl (Or.inl ⟨by rfl,?_⟩) ?_
 rotate_left
 ·intro w9 hSw
  go_simp
  first | done | with_reducible rfl
 simp only [pP,pN,pS,pZ,pC]
 refine tk 3 (v:=?_) rfl (Or.inl ⟨by rfl,?_⟩) ?_
 rotate_left
 ·intro w9 hSw
  go_simp
  first | done | with_reducible rfl
 simp only [pP,pN,pS,pZ,pC]
 refine wpAnyH_ready (rs:=[1]) (by kernel_rfl) (by simp) ?_
 refine cons' rfl (fun KK hKK=>?_)
 go_simp
 refine (GNB.out _ hB).mono ?_
 rintro e w6 ⟨p5,q5,rfl,b1,o5⟩
 have bC:=b1
 replace hA:=hA.on bC
 replace hB:=hB.on bC
 replace hC:=hC.on bC
 replace bel:=bel.trans (bC.mono bel.size)
 replace qa:=qa.later bC
 replace qb:=qb.later bC
 replace qc:=qc.later bC
 replace hHeld:=(⟨below_cell bC hHeld.1,below_cell bC hHeld.2.1,below_cell bC hHeld.2.2.1,below_cell bC hHeld.2.2.2.1,below_cell bC hHeld.2.2.2.2.1,below_cell bC hHeld.2.2.2.2.2⟩:_∧_∧_∧_∧_∧_)
 clear bC
 go_wp2_with fail
 clear b1
 refine hKK.out _ _ hHeld ?_
 clear hHeld
 intro hHeld
 clear hKK KK
 try simp only [pP,pN,pS,pZ,pC]
 refine tk 2 (v:=?_) rfl (Or.inl ⟨by rfl,?_⟩) ?_
 rotate_left
 ·intro w9 hSw
  go_simp
  first | done | with_reducible rfl
 simp only [pP,pN,pS,pZ,pC]
 refine wpAnyH_ready (rs:=[4]) (by kernel_rfl) (by simp) ?_
 refine cons' rfl (fun KK hKK=>?_)
 go_simp
 refine (GNC.out _ hC).mono ?_
 rintro e w7 ⟨p6,q6,rfl,b1,o6⟩
 have bC:=b1
 replace hA:=hA.on bC
 replace hB:=hB.on bC
 replace hC:=hC.on bC
 replace o5:=o5.on bC
 replace bel:=bel.trans (bC.mono bel.size)
 replace qa:=qa.later bC
 replace qb:=qb.later bC
 replace qc:=qc.later bC
 replace hHeld:=(⟨below_cell bC hHeld.1,below_cell bC hHeld.2.1,below_cell bC hHeld.2.2.1,below_cell bC hHeld.2.2.2.1,below_cell bC hHeld.2.2.2.2.1,below_cell bC hHeld.2.2.2.2.2⟩:_∧_∧_∧_∧_∧_)
 clear bC
 go_wp2_with fail
 clear b1
 refine hKK.out _ _ hHeld ?_
 clear hHeld
 intro hHeld
 clear hKK KK
 try simp only [pP,pN,pS,pZ,pC]
 refine tk 5 (v:=?_) rfl (Or.inl ⟨by rfl,?_⟩) ?_
 rotate_left
 ·intro w9 hSw
  go_simp
  first | done | with_reducible rfl
 simp only [pP,pN,pS,pZ,pC]
 refine wpAnyH_ready (rs:=[6]) (by kernel_rfl) (by simp) ?_
 refine cons' rfl (fun KK hKK=>?_)
 go_simp
 refine (G2.out _ q5 q6 o5.2.2.2.1 o6.2.2.2.1).mono ?_
 rintro e w8 ⟨rfl,b1⟩
 have bC:=b1
 replace hA:=hA.on bC
 replace hB:=hB.on bC
 replace hC:=hC.on bC
 replace o5:=o5.on bC
 replace o6:=o6.on bC
 replace bel:=bel.trans (bC.mono bel.size)
 replace qa:=qa.later bC
 replace qb:=qb.later bC
 replace qc:=qc.later bC
 replace hHeld:=(⟨below_cell bC hHeld.1,below_cell bC hHeld.2.1,below_cell bC hHeld.2.2.1,below_cell bC hHeld.2.2.2.1,below_cell bC hHeld.2.2.2.2.1,below_cell bC hHeld.2.2.2.2.2⟩:_∧_∧_∧_∧_∧_)
 clear bC
 go_wp2_with fail
 clear b1
 refine hKK.out _ _ hHeld ?_
 clear hHeld
 intro hHeld
 clear hKK KK
 try simp only [pP,pN,pS,pZ,pC]
 refine tk 7 (v:=?_) rfl (Or.inl ⟨by rfl,?_⟩) ?_
 rotate_left
 ·intro w9 hSw
  go_simp
  first | done | with_reducible rfl
 simp only [pP,pN,pS,pZ,pC]
 refine wpAnyH_done (by kernel_rfl) ?_ _
 skip
 clear o5 o6
 clear GNB GNC G2
 go_upto_region 7 with fail
 have qb_0:=qb.cell 0
 have qb_1:=qb.cell 1
 have qb_2:=qb.cell 2
 have qc_0:=qc.cell 0
 have qc_1:=qc.cell 1
 have qc_2:=qc.cell 2
 simp only [List.getElem?_toArray,List.getElem?_cons_zero,List.getElem?_cons_succ] at qb_0 qb_1 qb_2 qc_0 qc_1 qc_2
 go_wp2_with fail
 clear qb_0 qb_1 qb_2 qc_0 qc_1 qc_2
 refine (G3.out _ hB hC).mono ?_
 rintro e w9 ⟨rfl,b1⟩
 have bb:=b1
 replace qa:=qa.later bb
 replace qb:=qb.later bb
 replace qc:=qc.later bb
 replace hA:=hA.on bb
 replace hB:=hB.on bb
 replace hC:=hC.on bb
 replace bel:=bel.trans (bb.mono bel.size)
 clear bb
 clear b1
 go_wp2
 go_ret
 exact ⟨rfl,bel⟩
set_option maxHeartbeats 4000000 in
set_option maxRecDepth 100000 in
theorem vnear_f (A B C:RatV) (w:World) (hA:A.ok w) (hB:B.ok w) (hC:C.ok w) (hn:A.n≤2000000∧A.m≤2000000∧B.n≤2000000∧B.m≤2000000∧C.n≤2000000∧C.m≤2000000) (sA:sz 2000001 A.val) (sB:sz 2000001 B.val) (sC:sz 2000001 C.val) (h1:sR (dsR A.val B.val - dsR A.val C.val)=0) (h2:cmpI B.val.den C.val.den=0) (h3:sR (B.val - C.val)=0) :
  Calls Tryz.prog 21 #[.agg #[.bool A.s,.slice A.a A.n A.c,.slice A.b A.m A.e],.agg #[.bool B.s,.slice B.a B.n B.c,.slice B.b B.m B.e],.agg #[.bool C.s,.slice C.a C.n C.c,.slice C.b C.m C.e]] w fun e w'=>e=.returned (.bool false)∧Below w.heap.size w w':=by
 obtain ⟨SB,hSB⟩:∃ S,A.val - B.val=S:=⟨_,rfl⟩
 obtain ⟨DB,hDB⟩:∃ S,dsR A.val B.val=S:=⟨_,rfl⟩
 have zB:sz 100000000 SB:=by rw [←hSB];exact (sz_subY sA sB).mono (by omega)
 have zDB:sz 100000000 DB:=by rw [←hDB];exact (sz_ds sA sB).mono (by omega)
 have GSB:=hide' (fun w' k1 k2=>vsubQ A B SB w' k1 k2 (by omega) hSB zB)
 have GAB:=hide' (fun w' p q (k1:(nR SB p q).ok w')=>vabsQ (nR SB p q) DB w' k1 (by rw [nR_val,←hSB,absR_dsR2];exact hDB) zDB ⟨zB.1,zB.2⟩)
 obtain ⟨SC,hSC⟩:∃ S,A.val - C.val=S:=⟨_,rfl⟩
 obtain ⟨DC,hDC⟩:∃ S,dsR A.val C.val=S:=⟨_,rfl⟩
 have zC:sz 100000000 SC:=by rw [←hSC];exact (sz_subY sA sC).mono (by omega)
 have zDC:sz 100000000 DC:=by rw [←hDC];exact (sz_ds sA sC).mono (by omega)
 have GSC:=hide' (fun w' k1 k2=>vsubQ A C SC w' k1 k2 (by omega) hSC zC)
 have GAC:=hide' (fun w' p q (k1:(nR SC p q).ok w')=>vabsQ (nR SC p q) DC w' k1 (by rw [nR_val,←hSC,absR_dsR2];exact hDC) zDC ⟨zC.1,zC.2⟩)
 rw [hDB,hDC] at h1
 have G1:=hide' (fun w' p q p1 q1 (k1:(nR DB p q).ok w') (k2:(nR DC p1 q1).ok w')=>vcmpQ (nR DB p q) (nR DC p1 q1) w' k1 k2 ⟨zDB.1,zDB.2,zDC.1,zDC.2⟩ 0 (by rw [nR_val,nR_val];exact h1))
 have GNB:=hide' (fun w' k1=>vnormQ B B.val w' k1 rfl (sB.mono (by omega)))
 have GNC:=hide' (fun w' k1=>vnormQ C C.val w' k1 rfl (sC.mono (by omega)))
 have G2:=hide' (fun w' q q1 (k1:Seg w' q B.val.den (ln B.val.den)) (k2:Seg w' q1 C.val.den (ln C.val.den))=>(rCmp_any q q1 (ln B.val.den) (ln B.val.den) B.val.den (ln C.val.den) (ln C.val.den) C.val.den w' (Nat.le_trans sB.2 (by omega)) k1 (Nat.le_trans sC.2 (by omega)) k2).mono (fun e w2 h=>(show e=.returned (.int .i64 (cmpI B.val.den C.val.den))∧Below w'.heap.size w' w2 from ⟨h.1,h.2 ▸ Below.refl _ _⟩)))
 rw [h2] at G2
 have G3:=hide' (fun w' k1 k2=>vcmpQ B C w' k1 k2 (by omega) 0 h3)
 clear h1 hDB hDC hSB hSC h2 h3
 have hf:=run_fieldR
 have bel:Below w.heap.size w w:=Below.refl _ _
 have bb:=below_alloc (w:=w) (.cells #[.bool A.s,.slice A.a A.n A.c,.slice A.b A.m A.e] 27)
 replace hA:=hA.on bb
 replace hB:=hB.on bb
 replace hC:=hC.on bb
 replace bel:=bel.trans (bb.mono bel.size)
 clear bb
 have qa:=Blk.new w #[.bool A.s,.slice A.a A.n A.c,.slice A.b A.m A.e] 27
 have bb:=below_alloc (w:=(w.alloc (.cells #[.bool A.s,.slice A.a A.n A.c,.slice A.b A.m A.e] 27))) (.cells #[.bool B.s,.slice B.a B.n B.c,.slice B.b B.m B.e] 27)
 replace qa:=qa.later bb
 replace hA:=hA.on bb
 replace hB:=hB.on bb
 replace hC:=hC.on bb
 replace bel:=bel.trans (bb.mono bel.size)
 clear bb
 have qb:=Blk.new (w.alloc (.cells #[.bool A.s,.slice A.a A.n A.c,.slice A.b A.m A.e] 27)) #[.bool B.s,.slice B.a B.n B.c,.slice B.b B.m B.e] 27
 simp only [World.size_alloc] at qb
 have bb:=below_alloc (w:=((w.alloc (.cells #[.bool A.s,.slice A.a A.n A.c,.slice A.b A.m A.e] 27)).alloc (.cells #[.bool B.s,.slice B.a B.n B.c,.slice B.b B.m B.e] 27))) (.cells #[.bool C.s,.slice C.a C.n C.c,.slice C.b C.m C.e] 27)
 replace qa:=qa.later bb
 replace qb:=qb.later bb
 replace hA:=hA.on bb
 replace hB:=hB.on bb
 replace hC:=hC.on bb
 replace bel:=bel.trans (bb.mono bel.size)
 clear bb
 have qc:=Blk.new ((w.alloc (.cells #[.bool A.s,.slice A.a A.n A.c,.slice A.b A.m A.e] 27)).alloc (.cells #[.bool B.s,.slice B.a B.n B.c,.slice B.b B.m B.e] 27)) #[.bool C.s,.slice C.a C.n C.c,.slice C.b C.m C.e] 27
 simp only [World.size_alloc] at qc
 go_enter Tryz.func21,Tryz.ntmps21
 go_wp2_with fail
 obtain ⟨W0,hW⟩:∃ W,(((w.alloc (.cells #[.bool A.s,.slice A.a A.n A.c,.slice A.b A.m A.e] 27)).alloc (.cells #[.bool B.s,.slice B.a B.n B.c,.slice B.b B.m B.e] 27)).alloc (.cells #[.bool C.s,.slice C.a C.n C.c,.slice C.b C.m C.e] 27))=W:=⟨_,rfl⟩
 rw [hW] at bel qa qb qc hA hB hC ⊢
 clear hW
 have qa_0:=qa.cell 0
 have qa_1:=qa.cell 1
 have qa_2:=qa.cell 2
 have qb_0:=qb.cell 0
 have qb_1:=qb.cell 1
 have qb_2:=qb.cell 2
 have qc_0:=qc.cell 0
 have qc_1:=qc.cell 1
 have qc_2:=qc.cell 2
 simp only [List.getElem?_toArray,List.getElem?_cons_zero,List.getElem?_cons_succ] at qa_0 qa_1 qa_2 qb_0 qb_1 qb_2 qc_0 qc_1 qc_2
 have bD:Below W0.heap.size W0 W0.drew:=(Below.refl _ _).drew
 have kqa_0:=below_cell bD qa_0
 have kqa_1:=below_cell bD qa_1
 have kqa_2:=below_cell bD qa_2
 have kqb_0:=below_cell bD qb_0
 have kqb_1:=below_cell bD qb_1
 have kqb_2:=below_cell bD qb_2
 have kqc_0:=below_cell bD qc_0
 have kqc_1:=below_cell bD qc_1
 have kqc_2:=below_cell bD qc_2
 replace hA:=hA.on bD
 replace hB:=hB.on bD
 replace hC:=hC.on bD
 replace bel:=bel.trans (bD.mono bel.size)
 replace qa:=qa.later bD
 replace qb:=qb.later bD
 replace qc:=qc.later bD
 refine wp_region_held_drew (S:=fun w'=>w'.cell? ⟨w.heap.size,0,none⟩=some (.bool A.s)∧w'.cell? ⟨w.heap.size,1,none⟩=some (.slice A.a A.n A.c)∧w'.cell? ⟨w.heap.size,2,none⟩=some (.slice A.b A.m A.e)∧w'.cell? ⟨w.heap.size+1,0,none⟩=some (.bool B.s)∧w'.cell? ⟨w.heap.size+1,1,none⟩=some (.slice B.a B.n B.c)∧w'.cell? ⟨w.heap.size+1,2,none⟩=some (.slice B.b B.m B.e)∧w'.cell? ⟨w.heap.size+1+1,0,none⟩=some (.bool C.s)∧w'.cell? ⟨w.heap.size+1+1,1,none⟩=some (.slice C.a C.n C.c)∧w'.cell? ⟨w.heap.size+1+1,2,none⟩=some (.slice C.b C.m C.e)) (by kernel_rfl) ⟨kqa_0,kqa_1,kqa_2,kqb_0,kqb_1,kqb_2,kqc_0,kqc_1,kqc_2⟩ (fun hHeld=>?_)
 clear kqa_0 kqa_1 kqa_2 kqb_0 kqb_1 kqb_2 kqc_0 kqc_1 kqc_2
 generalize W0.drew=w0F at bD hA hB hC qa qb qc bel hHeld ⊢
 clear bD qa_0 qa_1 qa_2 qb_0 qb_1 qb_2 qc_0 qc_1 qc_2
 refine tk 0 (v:=?_) rfl (Or.inl ⟨by rfl,?_⟩) ?_
 rotate_left
 ·intro w9 hSw
  go_simp
  first | done | with_reducible rfl
 simp only [pP,pN,pS,pZ,pC]
 refine tk 1 (v:=?_) rfl (Or.inl ⟨by rfl,?_⟩) ?_
 rotate_left
 ·intro w9 hSw
  go_simp
  first | done | with_reducible rfl
 simp only [pP,pN,pS,pZ,pC]
 refine tk 4 (v:=?_) rfl (Or.inl ⟨by rfl,?_⟩) ?_
 rotate_left
 ·intro w9 hSw
  go_simp
  first | done | with_reducible rfl
 simp only [pP,pN,pS,pZ,pC]
 refine tk 5 (v:=?_) rfl (Or.inl ⟨by rfl,?_⟩) ?_
 rotate_left
 ·intro w9 hSw
  go_simp
  first | done | with_reducible rfl
 simp only [pP,pN,pS,pZ,pC]
 refine wpAnyH_ready (rs:=[2]) (by kernel_rfl) (by simp) ?_
 refine cons' rfl (fun KK hKK=>?_)
 go_simp
 refine (GSB.out _ hA hB).mono ?_
 rintro e w1 ⟨p1,q1,rfl,b1,o1⟩
 have bC:=b1
 replace hA:=hA.on bC
 replace hB:=hB.on bC
 replace hC:=hC.on bC
 replace bel:=bel.trans (bC.mono bel.size)
 replace qa:=qa.later bC
 replace qb:=qb.later bC
 replace qc:=qc.later bC
 replace hHeld:=(⟨below_cell bC hHeld.1,below_cell bC hHeld.2.1,below_cell bC hHeld.2.2.1,below_cell bC hHeld.2.2.2.1,below_cell bC hHeld.2.2.2.2.1,below_cell bC hHeld.2.2.2.2.2.1,below_cell bC hHeld.2.2.2.2.2.2.1,below_cell bC hHeld.2.2.2.2.2.2.2.1,below_cell bC hHeld.2.2.2.2.2.2.2.2⟩:_∧_∧_∧_∧_∧_∧_∧_∧_)
 clear bC
 go_wp2_with fail
 clear b1
 refine hKK.out _ _ hHeld ?_
 clear hHeld
 intro hHeld
 clear hKK KK
 try simp only [pP,pN,pS,pZ,pC]
 refine wpAnyH_ready (rs:=[3]) (by kernel_rfl) (by simp) ?_
 refine cons' rfl (fun KK hKK=>?_)
 go_simp
 refine (GAB.out _ p1 q1 o1).mono ?_
 rintro e w2 ⟨p2,q2,rfl,b1,o2⟩
 have bC:=b1
 replace hA:=hA.on bC
 replace hB:=hB.on bC
 replace hC:=hC.on bC
 replace o1:=o1.on bC
 replace bel:=bel.trans (bC.mono bel.size)
 replace qa:=qa.later bC
 replace qb:=qb.later bC
 replace qc:=qc.later bC
 replace hHeld:=(⟨below_cell bC hHeld.1,below_cell bC hHeld.2.1,below_cell bC hHeld.2.2.1,below_cell bC hHeld.2.2.2.1,below_cell bC hHeld.2.2.2.2.1,below_cell bC hHeld.2.2.2.2.2.1,below_cell bC hHeld.2.2.2.2.2.2.1,below_cell bC hHeld.2.2.2.2.2.2.2.1,below_cell bC hHeld.2.2.2.2.2.2.2.2⟩:_∧_∧_∧_∧_∧_∧_∧_∧_)
 clear bC
 go_wp2_with fail
 clear b1
 refine hKK.out _ _ hHeld ?_
 clear hHeld
 intro hHeld
 clear hKK KK
 try simp only [pP,pN,pS,pZ,pC]
 refine wpAnyH_ready (rs:=[6]) (by kernel_rfl) (by simp) ?_
 refine cons' rfl (fun KK hKK=>?_)
 go_simp
 refine (GSC.out _ hA hC).mono ?_
 rintro e w3 ⟨p3,q3,rfl,b1,o3⟩
 have bC:=b1
 replace hA:=hA.on bC
 replace hB:=hB.on bC
 replace hC:=hC.on bC
 replace o1:=o1.on bC
 replace o2:=o2.on bC
 replace bel:=bel.trans (bC.mono bel.size)
 replace qa:=qa.later bC
 replace qb:=qb.later bC
 replace qc:=qc.later bC
 replace hHeld:=(⟨below_cell bC hHeld.1,below_cell bC hHeld.2.1,below_cell bC hHeld.2.2.1,below_cell bC hHeld.2.2.2.1,below_cell bC hHeld.2.2.2.2.1,below_cell bC hHeld.2.2.2.2.2.1,below_cell bC hHeld.2.2.2.2.2.2.1,below_cell bC hHeld.2.2.2.2.2.2.2.1,below_cell bC hHeld.2.2.2.2.2.2.2.2⟩:_∧_∧_∧_∧_∧_∧_∧_∧_)
 clear bC
 go_wp2_with fail
 clear b1
 refine hKK.out _ _ hHeld ?_
 clear hHeld
 intro hHeld
 clear hKK KK
 try simp only [pP,pN,pS,pZ,pC]
 refine wpAnyH_ready (rs:=[7]) (by kernel_rfl) (by simp) ?_
 refine cons' rfl (fun KK hKK=>?_)
 go_simp
 refine (GAC.out _ p3 q3 o3).mono ?_
 rintro e w4 ⟨p4,q4,rfl,b1,o4⟩
 have bC:=b1
 replace hA:=hA.on bC
 replace hB:=hB.on bC
 replace hC:=hC.on bC
 replace o1:=o1.on bC
 replace o2:=o2.on bC
 replace o3:=o3.on bC
 replace bel:=bel.trans (bC.mono bel.size)
 replace qa:=qa.later bC
 replace qb:=qb.later bC
 replace qc:=qc.later bC
 replace hHeld:=(⟨below_cell bC hHeld.1,below_cell bC hHeld.2.1,below_cell bC hHeld.2.2.1,below_cell bC hHeld.2.2.2.1,below_cell bC hHeld.2.2.2.2.1,below_cell bC hHeld.2.2.2.2.2.1,below_cell bC hHeld.2.2.2.2.2.2.1,below_cell bC hHeld.2.2.2.2.2.2.2.1,below_cell bC hHeld.2.2.2.2.2.2.2.2⟩:_∧_∧_∧_∧_∧_∧_∧_∧_)
 clear bC
 go_wp2_with fail
 clear b1
 refine hKK.out _ _ hHeld ?_
 clear hHeld
 intro hHeld
 clear hKK KK
 try simp only [pP,pN,pS,pZ,pC]
 refine wpAnyH_ready (rs:=[8]) (by kernel_rfl) (by simp) ?_
 refine cons' rfl (fun KK hKK=>?_)
 go_simp
 refine (G1.out _ p2 q2 p4 q4 o2 o4).mono ?_
 rintro e w5 ⟨rfl,b1⟩
 have bC:=b1
 replace hA:=hA.on bC
 replace hB:=hB.on bC
 replace hC:=hC.on bC
 replace o1:=o1.on bC
 replace o2:=o2.on bC
 replace o3:=o3.on bC
 replace o4:=o4.on bC
 replace bel:=bel.trans (bC.mono bel.size)
 replace qa:=qa.later bC
 replace qb:=qb.later bC
 replace qc:=qc.later bC
 replace hHeld:=(⟨below_cell bC hHeld.1,below_cell bC hHeld.2.1,below_cell bC hHeld.2.2.1,below_cell bC hHeld.2.2.2.1,below_cell bC hHeld.2.2.2.2.1,below_cell bC hHeld.2.2.2.2.2.1,below_cell bC hHeld.2.2.2.2.2.2.1,below_cell bC hHeld.2.2.2.2.2.2.2.1,below_cell bC hHeld.2.2.2.2.2.2.2.2⟩:_∧_∧_∧_∧_∧_∧_∧_∧_)
 clear bC
 go_wp2_with fail
 clear b1
 refine hKK.out _ _ hHeld ?_
 clear hHeld
 intro hHeld
 clear hKK KK
 try simp only [pP,pN,pS,pZ,pC]
 refine tk 9 (v:=?_) rfl (Or.inl ⟨by rfl,?_⟩) ?_
 rotate_left
 ·intro w9 hSw
  go_simp
  first | done | with_reducible rfl
 simp only [pP,pN,pS,pZ,pC]
 refine wpAnyH_done (by kernel_rfl) ?_ _
 skip
 clear o1 o2 o3 o4
 clear GSB GAB GSC GAC G1
 go_upto_region 4 with fail
 have qb_0:=qb.cell 0
 have qb_1:=qb.cell 1
 have qb_2:=qb.cell 2
 have qc_0:=qc.cell 0
 have qc_1:=qc.cell 1
 have qc_2:=qc.cell 2
 simp only [List.getElem?_toArray,List.getElem?_cons_zero,List.getElem?_cons_succ] at qb_0 qb_1 qb_2 qc_0 qc_1 qc_2
 have bD:Below w5.heap.size w5 w5.drew:=(Below.refl _ _).drew
 have kqb_0:=below_cell bD qb_0
 have kqb_1:=below_cell bD qb_1
 have kqb_2:=below_cell bD qb_2
 have kqc_0:=below_cell bD qc_0
 have kqc_1:=below_cell bD qc_1
 have kqc_2:=below_cell bD qc_2
 replace hA:=hA.on bD
 replace hB:=hB.on bD
 replace hC:=hC.on bD
 replace bel:=bel.trans (bD.mono bel.size)
 replace qa:=qa.later bD
 replace qb:=qb.later bD
 replace qc:=qc.later bD
 refine wp_region_held_drew (S:=fun w'=>w'.cell? ⟨w.heap.size+1,0,none⟩=some (.bool B.s)∧w'.cell? ⟨w.heap.size+1,1,none⟩=some (.slice B.a B.n B.c)∧w'.cell? ⟨w.heap.size+1,2,none⟩=some (.slice B.b B.m B.e)∧w'.cell? ⟨w.heap.size+1+1,0,none⟩=some (.bool C.s)∧w'.cell? ⟨w.heap.size+1+1,1,none⟩=some (.slice C.a C.n C.c)∧w'.cell? ⟨w.heap.size+1+1,2,none⟩=some (.slice C.b C.m C.e)) (by kernel_rfl) ⟨kqb_0,kqb_1,kqb_2,kqc_0,kqc_1,kqc_2⟩ (fun hHeld=>?_)
 clear kqb_0 kqb_1 kqb_2 kqc_0 kqc_1 kqc_2
 generalize w5.drew=w0G at bD hA hB hC qa qb qc bel hHeld ⊢
 clear bD qb_0 qb_1 qb_2 qc_0 qc_1 qc_2
 refine tk 0 (v:=?_) rfl (Or.inl ⟨by rfl,?_⟩) ?_
 rotate_left
 ·intro w9 hSw
  go_simp
  first | done | with_reducible rfl
 simp only [pP,pN,pS,pZ,pC]
 refine tk 3 (v:=?_) rfl (Or.inl ⟨by rfl,?_⟩) ?_
 rotate_left
 ·intro w9 hSw
  go_simp
  first | done | with_reducible rfl
 simp only [pP,pN,pS,pZ,pC]
 refine wpAnyH_ready (rs:=[1]) (by kernel_rfl) (by simp) ?_
 refine cons' rfl (fun KK hKK=>?_)
 go_simp
 refine (GNB.out _ hB).mono ?_
 rintro e w6 ⟨p5,q5,rfl,b1,o5⟩
 have bC:=b1
 replace hA:=hA.on bC
 replace hB:=hB.on bC
 replace hC:=hC.on bC
 replace bel:=bel.trans (bC.mono bel.size)
 replace qa:=qa.later bC
 replace qb:=qb.later bC
 replace qc:=qc.later bC
 replace hHeld:=(⟨below_cell bC hHeld.1,below_cell bC hHeld.2.1,below_cell bC hHeld.2.2.1,below_cell bC hHeld.2.2.2.1,below_cell bC hHeld.2.2.2.2.1,below_cell bC hHeld.2.2.2.2.2⟩:_∧_∧_∧_∧_∧_)
 clear bC
 go_wp2_with fail
 clear b1
 refine hKK.out _ _ hHeld ?_
 clear hHeld
 intro hHeld
 clear hKK KK
 try simp only [pP,pN,pS,pZ,pC]
 refine tk 2 (v:=?_) rfl (Or.inl ⟨by rfl,?_⟩) ?_
 rotate_left
 ·intro w9 hSw
  go_simp
  first | done | with_reducible rfl
 simp only [pP,pN,pS,pZ,pC]
 refine wpAnyH_ready (rs:=[4]) (by kernel_rfl) (by simp) ?_
 refine cons' rfl (fun KK hKK=>?_)
 go_simp
 refine (GNC.out _ hC).mono ?_
 rintro e w7 ⟨p6,q6,rfl,b1,o6⟩
 have bC:=b1
 replace hA:=hA.on bC
 replace hB:=hB.on bC
 replace hC:=hC.on bC
 replace o5:=o5.on bC
 replace bel:=bel.trans (bC.mono bel.size)
 replace qa:=qa.later bC
 replace qb:=qb.later bC
 replace qc:=qc.later bC
 replace hHeld:=(⟨below_cell bC hHeld.1,below_cell bC hHeld.2.1,below_cell bC hHeld.2.2.1,below_cell bC hHeld.2.2.2.1,below_cell bC hHeld.2.2.2.2.1,below_cell bC hHeld.2.2.2.2.2⟩:_∧_∧_∧_∧_∧_)
 clear bC
 go_wp2_with fail
 clear b1
 refine hKK.out _ _ hHeld ?_
 clear hHeld
 intro hHeld
 clear hKK KK
 try simp only [pP,pN,pS,pZ,pC]
 refine tk 5 (v:=?_) rfl (Or.inl ⟨by rfl,?_⟩) ?_
 rotate_left
 ·intro w9 hSw
  go_simp
  first | done | with_reducible rfl
 simp only [pP,pN,pS,pZ,pC]
 refine wpAnyH_ready (rs:=[6]) (by kernel_rfl) (by simp) ?_
 refine cons' rfl (fun KK hKK=>?_)
 go_simp
 refine (G2.out _ q5 q6 o5.2.2.2.1 o6.2.2.2.1).mono ?_
 rintro e w8 ⟨rfl,b1⟩
 have bC:=b1
 replace hA:=hA.on bC
 replace hB:=hB.on bC
 replace hC:=hC.on bC
 replace o5:=o5.on bC
 replace o6:=o6.on bC
 replace bel:=bel.trans (bC.mono bel.size)
 replace qa:=qa.later bC
 replace qb:=qb.later bC
 replace qc:=qc.later bC
 replace hHeld:=(⟨below_cell bC hHeld.1,below_cell bC hHeld.2.1,below_cell bC hHeld.2.2.1,below_cell bC hHeld.2.2.2.1,below_cell bC hHeld.2.2.2.2.1,below_cell bC hHeld.2.2.2.2.2⟩:_∧_∧_∧_∧_∧_)
 clear bC
 go_wp2_with fail
 clear b1
 refine hKK.out _ _ hHeld ?_
 clear hHeld
 intro hHeld
 clear hKK KK
 try simp only [pP,pN,pS,pZ,pC]
 refine tk 7 (v:=?_) rfl (Or.inl ⟨by rfl,?_⟩) ?_
 rotate_left
 ·intro w9 hSw
  go_simp
  first | done | with_reducible rfl
 simp only [pP,pN,pS,pZ,pC]
 refine wpAnyH_done (by kernel_rfl) ?_ _
 skip
 clear o5 o6
 clear GNB GNC G2
 go_upto_region 7 with fail
 have qb_0:=qb.cell 0
 have qb_1:=qb.cell 1
 have qb_2:=qb.cell 2
 have qc_0:=qc.cell 0
 have qc_1:=qc.cell 1
 have qc_2:=qc.cell 2
 simp only [List.getElem?_toArray,List.getElem?_cons_zero,List.getElem?_cons_succ] at qb_0 qb_1 qb_2 qc_0 qc_1 qc_2
 go_wp2_with fail
 clear qb_0 qb_1 qb_2 qc_0 qc_1 qc_2
 refine (G3.out _ hB hC).mono ?_
 rintro e w9 ⟨rfl,b1⟩
 have bb:=b1
 replace qa:=qa.later bb
 replace qb:=qb.later bb
 replace qc:=qc.later bb
 replace hA:=hA.on bb
 replace hB:=hB.on bb
 replace hC:=hC.on bb
 replace bel:=bel.trans (bb.mono bel.size)
 clear bb
 clear b1
 go_wp2
 go_ret
 exact ⟨rfl,bel⟩
set_option maxHeartbeats 4000000 in
set_option maxRecDepth 100000 in
theorem vnear_g (A B C:RatV) (w:World) (hA:A.ok w) (hB:B.ok w) (hC:C.ok w) (hn:A.n≤2000000∧A.m≤2000000∧B.n≤2000000∧B.m≤2000000∧C.n≤2000000∧C.m≤2000000) (sA:sz 2000001 A.val) (sB:sz 2000001 B.val) (sC:sz 2000001 C.val) (h1:sR (dsR A.val B.val - dsR A.val C.val)=0) (h2:cmpI B.val.den C.val.den=0) (h3:sR (B.val - C.val)=1) :
  Calls Tryz.prog 21 #[.agg #[.bool A.s,.slice A.a A.n A.c,.slice A.b A.m A.e],.agg #[.bool B.s,.slice B.a B.n B.c,.slice B.b B.m B.e],.agg #[.bool C.s,.slice C.a C.n C.c,.slice C.b C.m C.e]] w fun e w'=>e=.returned (.bool false)∧Below w.heap.size w w':=by
 obtain ⟨SB,hSB⟩:∃ S,A.val - B.val=S:=⟨_,rfl⟩
 obtain ⟨DB,hDB⟩:∃ S,dsR A.val B.val=S:=⟨_,rfl⟩
 have zB:sz 100000000 SB:=by rw [←hSB];exact (sz_subY sA sB).mono (by omega)
 have zDB:sz 100000000 DB:=by rw [←hDB];exact (sz_ds sA sB).mono (by omega)
 have GSB:=hide' (fun w' k1 k2=>vsubQ A B SB w' k1 k2 (by omega) hSB zB)
 have GAB:=hide' (fun w' p q (k1:(nR SB p q).ok w')=>vabsQ (nR SB p q) DB w' k1 (by rw [nR_val,←hSB,absR_dsR2];exact hDB) zDB ⟨zB.1,zB.2⟩)
 obtain ⟨SC,hSC⟩:∃ S,A.val - C.val=S:=⟨_,rfl⟩
 obtain ⟨DC,hDC⟩:∃ S,dsR A.val C.val=S:=⟨_,rfl⟩
 have zC:sz 100000000 SC:=by rw [←hSC];exact (sz_subY sA sC).mono (by omega)
 have zDC:sz 100000000 DC:=by rw [←hDC];exact (sz_ds sA sC).mono (by omega)
 have GSC:=hide' (fun w' k1 k2=>vsubQ A C SC w' k1 k2 (by omega) hSC zC)
 have GAC:=hide' (fun w' p q (k1:(nR SC p q).ok w')=>vabsQ (nR SC p q) DC w' k1 (by rw [nR_val,←hSC,absR_dsR2];exact hDC) zDC ⟨zC.1,zC.2⟩)
 rw [hDB,hDC] at h1
 have G1:=hide' (fun w' p q p1 q1 (k1:(nR DB p q).ok w') (k2:(nR DC p1 q1).ok w')=>vcmpQ (nR DB p q) (nR DC p1 q1) w' k1 k2 ⟨zDB.1,zDB.2,zDC.1,zDC.2⟩ 0 (by rw [nR_val,nR_val];exact h1))
 have GNB:=hide' (fun w' k1=>vnormQ B B.val w' k1 rfl (sB.mono (by omega)))
 have GNC:=hide' (fun w' k1=>vnormQ C C.val w' k1 rfl (sC.mono (by omega)))
 have G2:=hide' (fun w' q q1 (k1:Seg w' q B.val.den (ln B.val.den)) (k2:Seg w' q1 C.val.den (ln C.val.den))=>(rCmp_any q q1 (ln B.val.den) (ln B.val.den) B.val.den (ln C.val.den) (ln C.val.den) C.val.den w' (Nat.le_trans sB.2 (by omega)) k1 (Nat.le_trans sC.2 (by omega)) k2).mono (fun e w2 h=>(show e=.returned (.int .i64 (cmpI B.val.den C.val.den))∧Below w'.heap.size w' w2 from ⟨h.1,h.2 ▸ Below.refl _ _⟩)))
 rw [h2] at G2
 have G3:=hide' (fun w' k1 k2=>vcmpQ B C w' k1 k2 (by omega) 1 h3)
 clear h1 hDB hDC hSB hSC h2 h3
 have hf:=run_fieldR
 have bel:Below w.heap.size w w:=Below.refl _ _
 have bb:=below_alloc (w:=w) (.cells #[.bool A.s,.slice A.a A.n A.c,.slice A.b A.m A.e] 27)
 replace hA:=hA.on bb
 replace hB:=hB.on bb
 replace hC:=hC.on bb
 replace bel:=bel.trans (bb.mono bel.size)
 clear bb
 have qa:=Blk.new w #[.bool A.s,.slice A.a A.n A.c,.slice A.b A.m A.e] 27
 have bb:=below_alloc (w:=(w.alloc (.cells #[.bool A.s,.slice A.a A.n A.c,.slice A.b A.m A.e] 27))) (.cells #[.bool B.s,.slice B.a B.n B.c,.slice B.b B.m B.e] 27)
 replace qa:=qa.later bb
 replace hA:=hA.on bb
 replace hB:=hB.on bb
 replace hC:=hC.on bb
 replace bel:=bel.trans (bb.mono bel.size)
 clear bb
 have qb:=Blk.new (w.alloc (.cells #[.bool A.s,.slice A.a A.n A.c,.slice A.b A.m A.e] 27)) #[.bool B.s,.slice B.a B.n B.c,.slice B.b B.m B.e] 27
 simp only [World.size_alloc] at qb
 have bb:=below_alloc (w:=((w.alloc (.cells #[.bool A.s,.slice A.a A.n A.c,.slice A.b A.m A.e] 27)).alloc (.cells #[.bool B.s,.slice B.a B.n B.c,.slice B.b B.m B.e] 27))) (.cells #[.bool C.s,.slice C.a C.n C.c,.slice C.b C.m C.e] 27)
 replace qa:=qa.later bb
 replace qb:=qb.later bb
 replace hA:=hA.on bb
 replace hB:=hB.on bb
 replace hC:=hC.on bb
 replace bel:=bel.trans (bb.mono bel.size)
 clear bb
 have qc:=Blk.new ((w.alloc (.cells #[.bool A.s,.slice A.a A.n A.c,.slice A.b A.m A.e] 27)).alloc (.cells #[.bool B.s,.slice B.a B.n B.c,.slice B.b B.m B.e] 27)) #[.bool C.s,.slice C.a C.n C.c,.slice C.b C.m C.e] 27
 simp only [World.size_alloc] at qc
 go_enter Tryz.func21,Tryz.ntmps21
 go_wp2_with fail
 obtain ⟨W0,hW⟩:∃ W,(((w.alloc (.cells #[.bool A.s,.slice A.a A.n A.c,.slice A.b A.m A.e] 27)).alloc (.cells #[.bool B.s,.slice B.a B.n B.c,.slice B.b B.m B.e] 27)).alloc (.cells #[.bool C.s,.slice C.a C.n C.c,.slice C.b C.m C.e] 27))=W:=⟨_,rfl⟩
 rw [hW] at bel qa qb qc hA hB hC ⊢
 clear hW
 have qa_0:=qa.cell 0
 have qa_1:=qa.cell 1
 have qa_2:=qa.cell 2
 have qb_0:=qb.cell 0
 have qb_1:=qb.cell 1
 have qb_2:=qb.cell 2
 have qc_0:=qc.cell 0
 have qc_1:=qc.cell 1
 have qc_2:=qc.cell 2
 simp only [List.getElem?_toArray,List.getElem?_cons_zero,List.getElem?_cons_succ] at qa_0 qa_1 qa_2 qb_0 qb_1 qb_2 qc_0 qc_1 qc_2
 have bD:Below W0.heap.size W0 W0.drew:=(Below.refl _ _).drew
 have kqa_0:=below_cell bD qa_0
 have kqa_1:=below_cell bD qa_1
 have kqa_2:=below_cell bD qa_2
 have kqb_0:=below_cell bD qb_0
 have kqb_1:=below_cell bD qb_1
 have kqb_2:=below_cell bD qb_2
 have kqc_0:=below_cell bD qc_0
 have kqc_1:=below_cell bD qc_1
 have kqc_2:=below_cell bD qc_2
 replace hA:=hA.on bD
 replace hB:=hB.on bD
 replace hC:=hC.on bD
 replace bel:=bel.trans (bD.mono bel.size)
 replace qa:=qa.later bD
 replace qb:=qb.later bD
 replace qc:=qc.later bD
 refine wp_region_held_drew (S:=fun w'=>w'.cell? ⟨w.heap.size,0,none⟩=some (.bool A.s)∧w'.cell? ⟨w.heap.size,1,none⟩=some (.slice A.a A.n A.c)∧w'.cell? ⟨w.heap.size,2,none⟩=some (.slice A.b A.m A.e)∧w'.cell? ⟨w.heap.size+1,0,none⟩=some (.bool B.s)∧w'.cell? ⟨w.heap.size+1,1,none⟩=some (.slice B.a B.n B.c)∧w'.cell? ⟨w.heap.size+1,2,none⟩=some (.slice B.b B.m B.e)∧w'.cell? ⟨w.heap.size+1+1,0,none⟩=some (.bool C.s)∧w'.cell? ⟨w.heap.size+1+1,1,none⟩=some (.slice C.a C.n C.c)∧w'.cell? ⟨w.heap.size+1+1,2,none⟩=some (.slice C.b C.m C.e)) (by kernel_rfl) ⟨kqa_0,kqa_1,kqa_2,kqb_0,kqb_1,kqb_2,kqc_0,kqc_1,kqc_2⟩ (fun hHeld=>?_)
 clear kqa_0 kqa_1 kqa_2 kqb_0 kqb_1 kqb_2 kqc_0 kqc_1 kqc_2
 generalize W0.drew=w0F at bD hA hB hC qa qb qc bel hHeld ⊢
 clear bD qa_0 qa_1 qa_2 qb_0 qb_1 qb_2 qc_0 qc_1 qc_2
 refine tk 0 (v:=?_) rfl (Or.inl ⟨by rfl,?_⟩) ?_
 rotate_left
 ·intro w9 hSw
  go_simp
  first | done | with_reducible rfl
 simp only [pP,pN,pS,pZ,pC]
 refine tk 1 (v:=?_) rfl (Or.inl ⟨by rfl,?_⟩) ?_
 rotate_left
 ·intro w9 hSw
  go_simp
  first | done | with_reducible rfl
 simp only [pP,pN,pS,pZ,pC]
 refine tk 4 (v:=?_) rfl (Or.inl ⟨by rfl,?_⟩) ?_
 rotate_left
 ·intro w9 hSw
  go_simp
  first | done | with_reducible rfl
 simp only [pP,pN,pS,pZ,pC]
 refine tk 5 (v:=?_) rfl (Or.inl ⟨by rfl,?_⟩) ?_
 rotate_left
 ·intro w9 hSw
  go_simp
  first | done | with_reducible rfl
 simp only [pP,pN,pS,pZ,pC]
 refine wpAnyH_ready (rs:=[2]) (by kernel_rfl) (by simp) ?_
 refine cons' rfl (fun KK hKK=>?_)
 go_simp
 refine (GSB.out _ hA hB).mono ?_
 rintro e w1 ⟨p1,q1,rfl,b1,o1⟩
 have bC:=b1
 replace hA:=hA.on bC
 replace hB:=hB.on bC
 replace hC:=hC.on bC
 replace bel:=bel.trans (bC.mono bel.size)
 replace qa:=qa.later bC
 replace qb:=qb.later bC
 replace qc:=qc.later bC
 replace hHeld:=(⟨below_cell bC hHeld.1,below_cell bC hHeld.2.1,below_cell bC hHeld.2.2.1,below_cell bC hHeld.2.2.2.1,below_cell bC hHeld.2.2.2.2.1,below_cell bC hHeld.2.2.2.2.2.1,below_cell bC hHeld.2.2.2.2.2.2.1,below_cell bC hHeld.2.2.2.2.2.2.2.1,below_cell bC hHeld.2.2.2.2.2.2.2.2⟩:_∧_∧_∧_∧_∧_∧_∧_∧_)
 clear bC
 go_wp2_with fail
 clear b1
 refine hKK.out _ _ hHeld ?_
 clear hHeld
 intro hHeld
 clear hKK KK
 try simp only [pP,pN,pS,pZ,pC]
 refine wpAnyH_ready (rs:=[3]) (by kernel_rfl) (by simp) ?_
 refine cons' rfl (fun KK hKK=>?_)
 go_simp
 refine (GAB.out _ p1 q1 o1).mono ?_
 rintro e w2 ⟨p2,q2,rfl,b1,o2⟩
 have bC:=b1
 replace hA:=hA.on bC
 replace hB:=hB.on bC
 replace hC:=hC.on bC
 replace o1:=o1.on bC
 replace bel:=bel.trans (bC.mono bel.size)
 replace qa:=qa.later bC
 replace qb:=qb.later bC
 replace qc:=qc.later bC
 replace hHeld:=(⟨below_cell bC hHeld.1,below_cell bC hHeld.2.1,below_cell bC hHeld.2.2.1,below_cell bC hHeld.2.2.2.1,below_cell bC hHeld.2.2.2.2.1,below_cell bC hHeld.2.2.2.2.2.1,below_cell bC hHeld.2.2.2.2.2.2.1,below_cell bC hHeld.2.2.2.2.2.2.2.1,below_cell bC hHeld.2.2.2.2.2.2.2.2⟩:_∧_∧_∧_∧_∧_∧_∧_∧_)
 clear bC
 go_wp2_with fail
 clear b1
 refine hKK.out _ _ hHeld ?_
 clear hHeld
 intro hHeld
 clear hKK KK
 try simp only [pP,pN,pS,pZ,pC]
 refine wpAnyH_ready (rs:=[6]) (by kernel_rfl) (by simp) ?_
 refine cons' rfl (fun KK hKK=>?_)
 go_simp
 refine (GSC.out _ hA hC).mono ?_
 rintro e w3 ⟨p3,q3,rfl,b1,o3⟩
 have bC:=b1
 replace hA:=hA.on bC
 replace hB:=hB.on bC
 replace hC:=hC.on bC
 replace o1:=o1.on bC
 replace o2:=o2.on bC
 replace bel:=bel.trans (bC.mono bel.size)
 replace qa:=qa.later bC
 replace qb:=qb.later bC
 replace qc:=qc.later bC
 replace hHeld:=(⟨below_cell bC hHeld.1,below_cell bC hHeld.2.1,below_cell bC hHeld.2.2.1,below_cell bC hHeld.2.2.2.1,below_cell bC hHeld.2.2.2.2.1,below_cell bC hHeld.2.2.2.2.2.1,below_cell bC hHeld.2.2.2.2.2.2.1,below_cell bC hHeld.2.2.2.2.2.2.2.1,below_cell bC hHeld.2.2.2.2.2.2.2.2⟩:_∧_∧_∧_∧_∧_∧_∧_∧_)
 clear bC
 go_wp2_with fail
 clear b1
 refine hKK.out _ _ hHeld ?_
 clear hHeld
 intro hHeld
 clear hKK KK
 try simp only [pP,pN,pS,pZ,pC]
 refine wpAnyH_ready (rs:=[7]) (by kernel_rfl) (by simp) ?_
 refine cons' rfl (fun KK hKK=>?_)
 go_simp
 refine (GAC.out _ p3 q3 o3).mono ?_
 rintro e w4 ⟨p4,q4,rfl,b1,o4⟩
 have bC:=b1
 replace hA:=hA.on bC
 replace hB:=hB.on bC
 replace hC:=hC.on bC
 replace o1:=o1.on bC
 replace o2:=o2.on bC
 replace o3:=o3.on bC
 replace bel:=bel.trans (bC.mono bel.size)
 replace qa:=qa.later bC
 replace qb:=qb.later bC
 replace qc:=qc.later bC
 replace hHeld:=(⟨below_cell bC hHeld.1,below_cell bC hHeld.2.1,below_cell bC hHeld.2.2.1,below_cell bC hHeld.2.2.2.1,below_cell bC hHeld.2.2.2.2.1,below_cell bC hHeld.2.2.2.2.2.1,below_cell bC hHeld.2.2.2.2.2.2.1,below_cell bC hHeld.2.2.2.2.2.2.2.1,below_cell bC hHeld.2.2.2.2.2.2.2.2⟩:_∧_∧_∧_∧_∧_∧_∧_∧_)
 clear bC
 go_wp2_with fail
 clear b1
 refine hKK.out _ _ hHeld ?_
 clear hHeld
 intro hHeld
 clear hKK KK
 try simp only [pP,pN,pS,pZ,pC]
 refine wpAnyH_ready (rs:=[8]) (by kernel_rfl) (by simp) ?_
 refine cons' rfl (fun KK hKK=>?_)
 go_simp
 refine (G1.out _ p2 q2 p4 q4 o2 o4).mono ?_
 rintro e w5 ⟨rfl,b1⟩
 have bC:=b1
 replace hA:=hA.on bC
 replace hB:=hB.on bC
 replace hC:=hC.on bC
 replace o1:=o1.on bC
 replace o2:=o2.on bC
 replace o3:=o3.on bC
 replace o4:=o4.on bC
 replace bel:=bel.trans (bC.mono bel.size)
 replace qa:=qa.later bC
 replace qb:=qb.later bC
 replace qc:=qc.later bC
 replace hHeld:=(⟨below_cell bC hHeld.1,below_cell bC hHeld.2.1,below_cell bC hHeld.2.2.1,below_cell bC hHeld.2.2.2.1,below_cell bC hHeld.2.2.2.2.1,below_cell bC hHeld.2.2.2.2.2.1,below_cell bC hHeld.2.2.2.2.2.2.1,below_cell bC hHeld.2.2.2.2.2.2.2.1,below_cell bC hHeld.2.2.2.2.2.2.2.2⟩:_∧_∧_∧_∧_∧_∧_∧_∧_)
 clear bC
 go_wp2_with fail
 clear b1
 refine hKK.out _ _ hHeld ?_
 clear hHeld
 intro hHeld
 clear hKK KK
 try simp only [pP,pN,pS,pZ,pC]
 refine tk 9 (v:=?_) rfl (Or.inl ⟨by rfl,?_⟩) ?_
 rotate_left
 ·intro w9 hSw
  go_simp
  first | done | with_reducible rfl
 simp only [pP,pN,pS,pZ,pC]
 refine wpAnyH_done (by kernel_rfl) ?_ _
 skip
 clear o1 o2 o3 o4
 clear GSB GAB GSC GAC G1
 go_upto_region 4 with fail
 have qb_0:=qb.cell 0
 have qb_1:=qb.cell 1
 have qb_2:=qb.cell 2
 have qc_0:=qc.cell 0
 have qc_1:=qc.cell 1
 have qc_2:=qc.cell 2
 simp only [List.getElem?_toArray,List.getElem?_cons_zero,List.getElem?_cons_succ] at qb_0 qb_1 qb_2 qc_0 qc_1 qc_2
 have bD:Below w5.heap.size w5 w5.drew:=(Below.refl _ _).drew
 have kqb_0:=below_cell bD qb_0
 have kqb_1:=below_cell bD qb_1
 have kqb_2:=below_cell bD qb_2
 have kqc_0:=below_cell bD qc_0
 have kqc_1:=below_cell bD qc_1
 have kqc_2:=below_cell bD qc_2
 replace hA:=hA.on bD
 replace hB:=hB.on bD
 replace hC:=hC.on bD
 replace bel:=bel.trans (bD.mono bel.size)
 replace qa:=qa.later bD
 replace qb:=qb.later bD
 replace qc:=qc.later bD
 refine wp_region_held_drew (S:=fun w'=>w'.cell? ⟨w.heap.size+1,0,none⟩=some (.bool B.s)∧w'.cell? ⟨w.heap.size+1,1,none⟩=some (.slice B.a B.n B.c)∧w'.cell? ⟨w.heap.size+1,2,none⟩=some (.slice B.b B.m B.e)∧w'.cell? ⟨w.heap.size+1+1,0,none⟩=some (.bool C.s)∧w'.cell? ⟨w.heap.size+1+1,1,none⟩=some (.slice C.a C.n C.c)∧w'.cell? ⟨w.heap.size+1+1,2,none⟩=some (.slice C.b C.m C.e)) (by kernel_rfl) ⟨kqb_0,kqb_1,kqb_2,kqc_0,kqc_1,kqc_2⟩ (fun hHeld=>?_)
 clear kqb_0 kqb_1 kqb_2 kqc_0 kqc_1 kqc_2
 generalize w5.drew=w0G at bD hA hB hC qa qb qc bel hHeld ⊢
 clear bD qb_0 qb_1 qb_2 qc_0 qc_1 qc_2
 refine tk 0 (v:=?_) rfl (Or.inl ⟨by rfl,?_⟩) ?_
 rotate_left
 ·intro w9 hSw
  go_simp
  first | done | with_reducible rfl
 simp only [pP,pN,pS,pZ,pC]
 refine tk 3 (v:=?_) rfl (Or.inl ⟨by rfl,?_⟩) ?_
 rotate_left
 ·intro w9 hSw
  go_simp
  first | done | with_reducible rfl
 simp only [pP,pN,pS,pZ,pC]
 refine wpAnyH_ready (rs:=[1]) (by kernel_rfl) (by simp) ?_
 refine cons' rfl (fun KK hKK=>?_)
 go_simp
 refine (GNB.out _ hB).mono ?_
 rintro e w6 ⟨p5,q5,rfl,b1,o5⟩
 have bC:=b1
 replace hA:=hA.on bC
 replace hB:=hB.on bC
 replace hC:=hC.on bC
 replace bel:=bel.trans (bC.mono bel.size)
 replace qa:=qa.later bC
 replace qb:=qb.later bC
 replace qc:=qc.later bC
 replace hHeld:=(⟨below_cell bC hHeld.1,below_cell bC hHeld.2.1,below_cell bC hHeld.2.2.1,below_cell bC hHeld.2.2.2.1,below_cell bC hHeld.2.2.2.2.1,below_cell bC hHeld.2.2.2.2.2⟩:_∧_∧_∧_∧_∧_)
 clear bC
 go_wp2_with fail
 clear b1
 refine hKK.out _ _ hHeld ?_
 clear hHeld
 intro hHeld
 clear hKK KK
 try simp only [pP,pN,pS,pZ,pC]
 refine tk 2 (v:=?_) rfl (Or.inl ⟨by rfl,?_⟩) ?_
 rotate_left
 ·intro w9 hSw
  go_simp
  first | done | with_reducible rfl
 simp only [pP,pN,pS,pZ,pC]
 refine wpAnyH_ready (rs:=[4]) (by kernel_rfl) (by simp) ?_
 refine cons' rfl (fun KK hKK=>?_)
 go_simp
 refine (GNC.out _ hC).mono ?_
 rintro e w7 ⟨p6,q6,rfl,b1,o6⟩
 have bC:=b1
 replace hA:=hA.on bC
 replace hB:=hB.on bC
 replace hC:=hC.on bC
 replace o5:=o5.on bC
 replace bel:=bel.trans (bC.mono bel.size)
 replace qa:=qa.later bC
 replace qb:=qb.later bC
 replace qc:=qc.later bC
 replace hHeld:=(⟨below_cell bC hHeld.1,below_cell bC hHeld.2.1,below_cell bC hHeld.2.2.1,below_cell bC hHeld.2.2.2.1,below_cell bC hHeld.2.2.2.2.1,below_cell bC hHeld.2.2.2.2.2⟩:_∧_∧_∧_∧_∧_)
 clear bC
 go_wp2_with fail
 clear b1
 refine hKK.out _ _ hHeld ?_
 clear hHeld
 intro hHeld
 clear hKK KK
 try simp only [pP,pN,pS,pZ,pC]
 refine tk 5 (v:=?_) rfl (Or.inl ⟨by rfl,?_⟩) ?_
 rotate_left
 ·intro w9 hSw
  go_simp
  first | done | with_reducible rfl
 simp only [pP,pN,pS,pZ,pC]
 refine wpAnyH_ready (rs:=[6]) (by kernel_rfl) (by simp) ?_
 refine cons' rfl (fun KK hKK=>?_)
 go_simp
 refine (G2.out _ q5 q6 o5.2.2.2.1 o6.2.2.2.1).mono ?_
 rintro e w8 ⟨rfl,b1⟩
 have bC:=b1
 replace hA:=hA.on bC
 replace hB:=hB.on bC
 replace hC:=hC.on bC
 replace o5:=o5.on bC
 replace o6:=o6.on bC
 replace bel:=bel.trans (bC.mono bel.size)
 replace qa:=qa.later bC
 replace qb:=qb.later bC
 replace qc:=qc.later bC
 replace hHeld:=(⟨below_cell bC hHeld.1,below_cell bC hHeld.2.1,below_cell bC hHeld.2.2.1,below_cell bC hHeld.2.2.2.1,below_cell bC hHeld.2.2.2.2.1,below_cell bC hHeld.2.2.2.2.2⟩:_∧_∧_∧_∧_∧_)
 clear bC
 go_wp2_with fail
 clear b1
 refine hKK.out _ _ hHeld ?_
 clear hHeld
 intro hHeld
 clear hKK KK
 try simp only [pP,pN,pS,pZ,pC]
 refine tk 7 (v:=?_) rfl (Or.inl ⟨by rfl,?_⟩) ?_
 rotate_left
 ·intro w9 hSw
  go_simp
  first | done | with_reducible rfl
 simp only [pP,pN,pS,pZ,pC]
 refine wpAnyH_done (by kernel_rfl) ?_ _
 skip
 clear o5 o6
 clear GNB GNC G2
 go_upto_region 7 with fail
 have qb_0:=qb.cell 0
 have qb_1:=qb.cell 1
 have qb_2:=qb.cell 2
 have qc_0:=qc.cell 0
 have qc_1:=qc.cell 1
 have qc_2:=qc.cell 2
 simp only [List.getElem?_toArray,List.getElem?_cons_zero,List.getElem?_cons_succ] at qb_0 qb_1 qb_2 qc_0 qc_1 qc_2
 go_wp2_with fail
 clear qb_0 qb_1 qb_2 qc_0 qc_1 qc_2
 refine (G3.out _ hB hC).mono ?_
 rintro e w9 ⟨rfl,b1⟩
 have bb:=b1
 replace qa:=qa.later bb
 replace qb:=qb.later bb
 replace qc:=qc.later bb
 replace hA:=hA.on bb
 replace hB:=hB.on bb
 replace hC:=hC.on bb
 replace bel:=bel.trans (bb.mono bel.size)
 clear bb
 clear b1
 go_wp2
 go_ret
 exact ⟨rfl,bel⟩
theorem vnearer_is (A B C:RatV) (w:World) (hA:A.ok w) (hB:B.ok w) (hC:C.ok w) (hn:A.n≤2000000∧A.m≤2000000∧B.n≤2000000∧B.m≤2000000∧C.n≤2000000∧C.m≤2000000) (sA:sz 2000001 A.val) (sB:sz 2000001 B.val) (sC:sz 2000001 C.val) (t:Bool) (ht:t=true↔ahd A.val B.val C.val) :
  Calls Tryz.prog 21 #[.agg #[.bool A.s,.slice A.a A.n A.c,.slice A.b A.m A.e],.agg #[.bool B.s,.slice B.a B.n B.c,.slice B.b B.m B.e],.agg #[.bool C.s,.slice C.a C.n C.c,.slice C.b C.m C.e]] w fun e w'=>e=.returned (.bool t)∧Below w.heap.size w w':=by
 rw [←orI_ahd] at ht
 rcases sR_tri (dsR A.val B.val) (dsR A.val C.val) with ⟨_,h1⟩ | ⟨_,h1⟩ | ⟨_,h1⟩
 ·have hv:orI (-1) (cmpI B.val.den C.val.den) (sR (B.val - C.val)) = -1:=rfl
  rw [h1,hv] at ht
  obtain rfl:t=true:=ht.2 (by decide)
  exact vnear_a A B C w hA hB hC hn sA sB sC h1
 ·rcases cmpI_tri B.val.den C.val.den with ⟨_,h2⟩ | ⟨_,h2⟩ | ⟨_,h2⟩
  ·have hv:orI 0 (-1) (sR (B.val - C.val)) = -1:=rfl
   rw [h1,h2,hv] at ht
   obtain rfl:t=true:=ht.2 (by decide)
   exact vnear_c A B C w hA hB hC hn sA sB sC h1 h2
  ·rcases sR_tri B.val C.val with ⟨_,h3⟩ | ⟨_,h3⟩ | ⟨_,h3⟩
   ·have hv:orI 0 0 (-1) = -1:=rfl
    rw [h1,h2,h3,hv] at ht
    obtain rfl:t=true:=ht.2 (by decide)
    exact vnear_e A B C w hA hB hC hn sA sB sC h1 h2 h3
   ·have hv:orI 0 0 0=0:=rfl
    rw [h1,h2,h3,hv] at ht
    obtain rfl:t=false:=by cases t with | false=>rfl | true=>exact absurd (ht.1 rfl) (by decide)
    exact vnear_f A B C w hA hB hC hn sA sB sC h1 h2 h3
   ·have hv:orI 0 0 1=1:=rfl
    rw [h1,h2,h3,hv] at ht
    obtain rfl:t=false:=by cases t with | false=>rfl | true=>exact absurd (ht.1 rfl) (by decide)
    exact vnear_g A B C w hA hB hC hn sA sB sC h1 h2 h3
  ·have hv:orI 0 1 (sR (B.val - C.val))=1:=rfl
   rw [h1,h2,hv] at ht
   obtain rfl:t=false:=by cases t with | false=>rfl | true=>exact absurd (ht.1 rfl) (by decide)
   exact vnear_d A B C w hA hB hC hn sA sB sC h1 h2
 ·have hv:orI 1 (cmpI B.val.den C.val.den) (sR (B.val - C.val))=1:=rfl
  rw [h1,hv] at ht
  obtain rfl:t=false:=by cases t with | false=>rfl | true=>exact absurd (ht.1 rfl) (by decide)
  exact vnear_b A B C w hA hB hC hn sA sB sC h1
end Go.Proofs.YtejlnodillnoaaaGreatDoor
