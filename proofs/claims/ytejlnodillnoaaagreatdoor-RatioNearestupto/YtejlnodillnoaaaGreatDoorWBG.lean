import Derived.Test.YtejlnodillnoaaaGreatDoorWBC
import Derived.Test.YtejlnodillnoaaaGreatDoorWJ4
import Derived.Test.YtejlnodillnoaaaGreatDoorWQE
import Derived.Test.YtejlnodillnoaaaGreatDoorWQG
import Derived.Test.YtejlnodillnoaaaGreatDoorWQD
import Derived.Test.YtejlnodillnoaaaGreatDoorThr3
import Derived.Test.YtejlnodillnoaaaGreatDoorWQI
import Derived.Deep.CutRange
import Derived.Test.YtejlnodillnoaaaGreatDoorWQF
import Derived.Test.YtejlnodillnoaaaGreatDoorWQ5
import Derived.Test.YtejlnodillnoaaaGreatDoorWBE
import Derived.Test.YtejlnodillnoaaaGreatDoorWQ0
set_option linter.unusedSimpArgs false
namespace Go.Proofs.YtejlnodillnoaaaGreatDoor
open Go.RowKit
set_option linter.unusedVariables false
theorem run_fieldR (v0 v1 v2:Value) (w:World):(Instr.field 27 (.agg #[v0,v1,v2]) 1).run Tryz.prog w=.ok v2 w:=by kernel_rfl
set_option maxHeartbeats 4000000 in
set_option maxRecDepth 100000 in
theorem vnear_a (A B C:RatV) (w:World) (hA:A.ok w) (hB:B.ok w) (hC:C.ok w) (hn:A.n≤2000000∧A.m≤2000000∧B.n≤2000000∧B.m≤2000000∧C.n≤2000000∧C.m≤2000000) (sA:sz 2000001 A.val) (sB:sz 2000001 B.val) (sC:sz 2000001 C.val) (h1:sR (dsR A.val B.val - dsR A.val C.val)=(-1)) :
  Calls Tryz.prog 21 #[.agg #[.bool A.s,.slice A.a A.n A.c,.slice A.b A.m A.e],.agg #[.bool B.s,.slice B.a B.n B.c,.slice B.b B.m B.e],.agg #[.bool C.s,.slice C.a C.n C.c,.slice C.b C.m C.e]] w fun e w'=>e=.returned (.bool true)∧Below w.heap.size w w':=by
 obtain ⟨SB,hSB⟩:∃ S,A.val - B.val=S:=⟨_,rfl⟩
 obtain ⟨DB,hDB⟩:∃ S,dsR A.val B.val=S:=⟨_,rfl⟩
 have zB:sz 100000000 SB:=by rw [←hSB];exact (sz_subY sA sB).mono (by omega)
 have zDB:sz 100000000 DB:=by rw [←hDB];exact (sz_ds sA sB).mono (by omega)
 have GSB:=hide' (fun w' k1 k2=>vsubQ A B SB w' k1 k2 (by omega) hSB zB)
 have GAB:=hide' (fun w' p q (k1:(nR SB p q).ok w')=>vabsQ (nR SB p q) DB w' k1 (by rw [nR_val,←hSB,absR_dsR2];exact hDB) zDB ⟨zB.1,zB.2⟩)
 obtain ⟨SC,hSC⟩:∃ S,A.val - C.val=S:=⟨_,rfl⟩
 obtain ⟨DC,hDC⟩:∃ S,dsR A.val C.val=S:=⟨_,rfl⟩
 have zC:sz 100000000 SC:=by rw [←hSC];exact (sz_subY sA sC).mono (by omega)
 have zDC:sz 100000000 DC:=by rw [←hDC];exact (sz_ds sA sC).mono (by omega)
 have GSC:=hide' (fun w' k1 k2=>vsubQ A C SC w' k1 k2 (by omega) hSC zC)
 have GAC:=hide' (fun w' p q (k1:(nR SC p q).ok w')=>vabsQ (nR SC p q) DC w' k1 (by rw [nR_val,←hSC,absR_dsR2];exact hDC) zDC ⟨zC.1,zC.2⟩)
 rw [hDB,hDC] at h1
 have G1:=hide' (fun w' p q p1 q1 (k1:(nR DB p q).ok w') (k2:(nR DC p1 q1).ok w')=>vcmpQ (nR DB p q) (nR DC p1 q1) w' k1 k2 ⟨zDB.1,zDB.2,zDC.1,zDC.2⟩ (-1) (by rw [nR_val,nR_val];exact h1))
 clear h1 hDB hDC hSB hSC
 have hf:=run_fieldR
 have bel:Below w.heap.size w w:=Below.refl _ _
 have bb:=below_alloc (w:=w) (.cells #[.bool A.s,.slice A.a A.n A.c,.slice A.b A.m A.e] 27)
 replace hA:=hA.on bb
 replace hB:=hB.on bb
 replace hC:=hC.on bb
 replace bel:=bel.trans (bb.mono bel.size)
 clear bb
 have qa:=Blk.new w #[.bool A.s,.slice A.a A.n A.c,.slice A.b A.m A.e] 27
 have bb:=below_alloc (w:=(w.alloc (.cells #[.bool A.s,.slice A.a A.n A.c,.slice A.b A.m A.e] 27))) (.cells #[.bool B.s,.slice B.a B.n B.c,.slice B.b B.m B.e] 27)
 replace qa:=qa.later bb
 replace hA:=hA.on bb
 replace hB:=hB.on bb
 replace hC:=hC.on bb
 replace bel:=bel.trans (bb.mono bel.size)
 clear bb
 have qb:=Blk.new (w.alloc (.cells #[.bool A.s,.slice A.a A.n A.c,.slice A.b A.m A.e] 27)) #[.bool B.s,.slice B.a B.n B.c,.slice B.b B.m B.e] 27
 simp only [World.size_alloc] at qb
 have bb:=below_alloc (w:=((w.alloc (.cells #[.bool A.s,.slice A.a A.n A.c,.slice A.b A.m A.e] 27)).alloc (.cells #[.bool B.s,.slice B.a B.n B.c,.slice B.b B.m B.e] 27))) (.cells #[.bool C.s,.slice C.a C.n C.c,.slice C.b C.m C.e] 27)
 replace qa:=qa.later bb
 replace qb:=qb.later bb
 replace hA:=hA.on bb
 replace hB:=hB.on bb
 replace hC:=hC.on bb
 replace bel:=bel.trans (bb.mono bel.size)
 clear bb
 have qc:=Blk.new ((w.alloc (.cells #[.bool A.s,.slice A.a A.n A.c,.slice A.b A.m A.e] 27)).alloc (.cells #[.bool B.s,.slice B.a B.n B.c,.slice B.b B.m B.e] 27)) #[.bool C.s,.slice C.a C.n C.c,.slice C.b C.m C.e] 27
 simp only [World.size_alloc] at qc
 go_enter Tryz.func21,Tryz.ntmps21
 go_wp2_with fail
 obtain ⟨W0,hW⟩:∃ W,(((w.alloc (.cells #[.bool A.s,.slice A.a A.n A.c,.slice A.b A.m A.e] 27)).alloc (.cells #[.bool B.s,.slice B.a B.n B.c,.slice B.b B.m B.e] 27)).alloc (.cells #[.bool C.s,.slice C.a C.n C.c,.slice C.b C.m C.e] 27))=W:=⟨_,rfl⟩
 rw [hW] at bel qa qb qc hA hB hC ⊢
 clear hW
 have qa_0:=qa.cell 0
 have qa_1:=qa.cell 1
 have qa_2:=qa.cell 2
 have qb_0:=qb.cell 0
 have qb_1:=qb.cell 1
 have qb_2:=qb.cell 2
 have qc_0:=qc.cell 0
 have qc_1:=qc.cell 1
 have qc_2:=qc.cell 2
 simp only [List.getElem?_toArray,List.getElem?_cons_zero,List.getElem?_cons_succ] at qa_0 qa_1 qa_2 qb_0 qb_1 qb_2 qc_0 qc_1 qc_2
 have bD:Below W0.heap.size W0 W0.drew:=(Below.refl _ _).drew
 have kqa_0:=below_cell bD qa_0
 have kqa_1:=below_cell bD qa_1
 have kqa_2:=below_cell bD qa_2
 have kqb_0:=below_cell bD qb_0
 have kqb_1:=below_cell bD qb_1
 have kqb_2:=below_cell bD qb_2
 have kqc_0:=below_cell bD qc_0
 have kqc_1:=below_cell bD qc_1
 have kqc_2:=below_cell bD qc_2
 replace hA:=hA.on bD
 replace hB:=hB.on bD
 replace hC:=hC.on bD
 replace bel:=bel.trans (bD.mono bel.size)
 replace qa:=qa.later bD
 replace qb:=qb.later bD
 replace qc:=qc.later bD
 refine wp_region_held_drew (S:=fun w'=>w'.cell? ⟨w.heap.size,0,none⟩=some (.bool A.s)∧w'.cell? ⟨w.heap.size,1,none⟩=some (.slice A.a A.n A.c)∧w'.cell? ⟨w.heap.size,2,none⟩=some (.slice A.b A.m A.e)∧w'.cell? ⟨w.heap.size+1,0,none⟩=some (.bool B.s)∧w'.cell? ⟨w.heap.size+1,1,none⟩=some (.slice B.a B.n B.c)∧w'.cell? ⟨w.heap.size+1,2,none⟩=some (.slice B.b B.m B.e)∧w'.cell? ⟨w.heap.size+1+1,0,none⟩=some (.bool C.s)∧w'.cell? ⟨w.heap.size+1+1,1,none⟩=some (.slice C.a C.n C.c)∧w'.cell? ⟨w.heap.size+1+1,2,none⟩=some (.slice C.b C.m C.e)) (by kernel_rfl) ⟨kqa_0,kqa_1,kqa_2,kqb_0,kqb_1,kqb_2,kqc_0,kqc_1,kqc_2⟩ (fun hHeld=>?_)
 clear kqa_0 kqa_1 kqa_2 kqb_0 kqb_1 kqb_2 kqc_0 kqc_1 kqc_2
 generalize W0.drew=w0F at bD hA hB hC qa qb qc bel hHeld ⊢
 clear bD qa_0 qa_1 qa_2 qb_0 qb_1 qb_2 qc_0 qc_1 qc_2
 refine tk 0 (v:=?_) rfl (Or.inl ⟨by rfl,?_⟩) ?_
 rotate_left
 ·intro w9 hSw
  go_simp
  first | done | with_reducible rfl
 simp only [pP,pN,pS,pZ,pC]
 refine tk 1 (v:=?_) rfl (Or.inl ⟨by rfl,?_⟩) ?_
 rotate_left
 ·intro w9 hSw
  go_simp
  first | done | with_reducible rfl
 simp only [pP,pN,pS,pZ,pC]
 refine tk 4 (v:=?_) rfl (Or.inl ⟨by rfl,?_⟩) ?_
 rotate_left
 ·intro w9 hSw
  go_simp
  first | done | with_reducible rfl
 simp only [pP,pN,pS,pZ,pC]
 refine tk 5 (v:=?_) rfl (Or.inl ⟨by rfl,?_⟩) ?_
 rotate_left
 ·intro w9 hSw
  go_simp
  first | done | with_reducible rfl
 simp only [pP,pN,pS,pZ,pC]
 refine wpAnyH_ready (rs:=[2]) (by kernel_rfl) (by simp) ?_
 refine cons' rfl (fun KK hKK=>?_)
 go_simp
 refine (GSB.out _ hA hB).mono ?_
 rintro e w1 ⟨p1,q1,rfl,b1,o1⟩
 have bC:=b1
 replace hA:=hA.on bC
 replace hB:=hB.on bC
 replace hC:=hC.on bC
 replace bel:=bel.trans (bC.mono bel.size)
 replace qa:=qa.later bC
 replace qb:=qb.later bC
 replace qc:=qc.later bC
 replace hHeld:=(⟨below_cell bC hHeld.1,below_cell bC hHeld.2.1,below_cell bC hHeld.2.2.1,below_cell bC hHeld.2.2.2.1,below_cell bC hHeld.2.2.2.2.1,below_cell bC hHeld.2.2.2.2.2.1,below_cell bC hHeld.2.2.2.2.2.2.1,below_cell bC hHeld.2.2.2.2.2.2.2.1,below_cell bC hHeld.2.2.2.2.2.2.2.2⟩:_∧_∧_∧_∧_∧_∧_∧_∧_)
 clear bC
 go_wp2_with fail
 clear b1
 refine hKK.out _ _ hHeld ?_
 clear hHeld
 intro hHeld
 clear hKK KK
 try simp only [pP,pN,pS,pZ,pC]
 refine wpAnyH_ready (rs:=[3]) (by kernel_rfl) (by simp) ?_
 refine cons' rfl (fun KK hKK=>?_)
 go_simp
 refine (GAB.out _ p1 q1 o1).mono ?_
 rintro e w2 ⟨p2,q2,rfl,b1,o2⟩
 have bC:=b1
 replace hA:=hA.on bC
 replace hB:=hB.on bC
 replace hC:=hC.on bC
 replace o1:=o1.on bC
 replace bel:=bel.trans (bC.mono bel.size)
 replace qa:=qa.later bC
 replace qb:=qb.later bC
 replace qc:=qc.later bC
 replace hHeld:=(⟨below_cell bC hHeld.1,below_cell bC hHeld.2.1,below_cell bC hHeld.2.2.1,below_cell bC hHeld.2.2.2.1,below_cell bC hHeld.2.2.2.2.1,below_cell bC hHeld.2.2.2.2.2.1,below_cell bC hHeld.2.2.2.2.2.2.1,below_cell bC hHeld.2.2.2.2.2.2.2.1,below_cell bC hHeld.2.2.2.2.2.2.2.2⟩:_∧_∧_∧_∧_∧_∧_∧_∧_)
 clear bC
 go_wp2_with fail
 clear b1
 refine hKK.out _ _ hHeld ?_
 clear hHeld
 intro hHeld
 clear hKK KK
 try simp only [pP,pN,pS,pZ,pC]
 refine wpAnyH_ready (rs:=[6]) (by kernel_rfl) (by simp) ?_
 refine cons' rfl (fun KK hKK=>?_)
 go_simp
 refine (GSC.out _ hA hC).mono ?_
 rintro e w3 ⟨p3,q3,rfl,b1,o3⟩
 have bC:=b1
 replace hA:=hA.on bC
 replace hB:=hB.on bC
 replace hC:=hC.on bC
 replace o1:=o1.on bC
 replace o2:=o2.on bC
 replace bel:=bel.trans (bC.mono bel.size)
 replace qa:=qa.later bC
 replace qb:=qb.later bC
 replace qc:=qc.later bC
 replace hHeld:=(⟨below_cell bC hHeld.1,below_cell bC hHeld.2.1,below_cell bC hHeld.2.2.1,below_cell bC hHeld.2.2.2.1,below_cell bC hHeld.2.2.2.2.1,below_cell bC hHeld.2.2.2.2.2.1,below_cell bC hHeld.2.2.2.2.2.2.1,below_cell bC hHeld.2.2.2.2.2.2.2.1,below_cell bC hHeld.2.2.2.2.2.2.2.2⟩:_∧_∧_∧_∧_∧_∧_∧_∧_)
 clear bC
 go_wp2_with fail
 clear b1
 refine hKK.out _ _ hHeld ?_
 clear hHeld
 intro hHeld
 clear hKK KK
 try simp only [pP,pN,pS,pZ,pC]
 refine wpAnyH_ready (rs:=[7]) (by kernel_rfl) (by simp) ?_
 refine cons' rfl (fun KK hKK=>?_)
 go_simp
 refine (GAC.out _ p3 q3 o3).mono ?_
 rintro e w4 ⟨p4,q4,rfl,b1,o4⟩
 have bC:=b1
 replace hA:=hA.on bC
 replace hB:=hB.on bC
 replace hC:=hC.on bC
 replace o1:=o1.on bC
 replace o2:=o2.on bC
 replace o3:=o3.on bC
 replace bel:=bel.trans (bC.mono bel.size)
 replace qa:=qa.later bC
 replace qb:=qb.later bC
 replace qc:=qc.later bC
 replace hHeld:=(⟨below_cell bC hHeld.1,below_cell bC hHeld.2.1,below_cell bC hHeld.2.2.1,below_cell bC hHeld.2.2.2.1,below_cell bC hHeld.2.2.2.2.1,below_cell bC hHeld.2.2.2.2.2.1,below_cell bC hHeld.2.2.2.2.2.2.1,below_cell bC hHeld.2.2.2.2.2.2.2.1,below_cell bC hHeld.2.2.2.2.2.2.2.2⟩:_∧_∧_∧_∧_∧_∧_∧_∧_)
 clear bC
 go_wp2_with fail
 clear b1
 refine hKK.out _ _ hHeld ?_
 clear hHeld
 intro hHeld
 clear hKK KK
 try simp only [pP,pN,pS,pZ,pC]
 refine wpAnyH_ready (rs:=[8]) (by kernel_rfl) (by simp) ?_
 refine cons' rfl (fun KK hKK=>?_)
 go_simp
 refine (G1.out _ p2 q2 p4 q4 o2 o4).mono ?_
 rintro e w5 ⟨rfl,b1⟩
 have bC:=b1
 replace hA:=hA.on bC
 replace hB:=hB.on bC
 replace hC:=hC.on bC
 replace o1:=o1.on bC
 replace o2:=o2.on bC
 replace o3:=o3.on bC
 replace o4:=o4.on bC
 replace bel:=bel.trans (bC.mono bel.size)
 replace qa:=qa.later bC
 replace qb:=qb.later bC
 replace qc:=qc.later bC
 replace hHeld:=(⟨below_cell bC hHeld.1,below_cell bC hHeld.2.1,below_cell bC hHeld.2.2.1,below_cell bC hHeld.2.2.2.1,below_cell bC hHeld.2.2.2.2.1,below_cell bC hHeld.2.2.2.2.2.1,below_cell bC hHeld.2.2.2.2.2.2.1,below_cell bC hHeld.2.2.2.2.2.2.2.1,below_cell bC hHeld.2.2.2.2.2.2.2.2⟩:_∧_∧_∧_∧_∧_∧_∧_∧_)
 clear bC
 go_wp2_with fail
 clear b1
 refine hKK.out _ _ hHeld ?_
 clear hHeld
 intro hHeld
 clear hKK KK
 try simp only [pP,pN,pS,pZ,pC]
 refine tk 9 (v:=?_) rfl (Or.inl ⟨by rfl,?_⟩) ?_
 rotate_left
 ·intro w9 hSw
  go_simp
  first | done | with_reducible rfl
 simp only [pP,pN,pS,pZ,pC]
 refine wpAnyH_done (by kernel_rfl) ?_ _
 skip
 clear o1 o2 o3 o4
 clear GSB GAB GSC GAC G1
 go_wp2
 go_ret
 exact ⟨rfl,bel⟩
set_option maxHeartbeats 4000000 in
set_option maxRecDepth 100000 in
theorem vnear_b (A B C:RatV) (w:World) (hA:A.ok w) (hB:B.ok w) (hC:C.ok w) (hn:A.n≤2000000∧A.m≤2000000∧B.n≤2000000∧B.m≤2000000∧C.n≤2000000∧C.m≤2000000) (sA:sz 2000001 A.val) (sB:sz 2000001 B.val) (sC:sz 2000001 C.val) (h1:sR (dsR A.val B.val - dsR A.val C.val)=1) :
  Calls Tryz.prog 21 #[.agg #[.bool A.s,.slice A.a A.n A.c,.slice A.b A.m A.e],.agg #[.bool B.s,.slice B.a B.n B.c,.slice B.b B.m B.e],.agg #[.bool C.s,.slice C.a C.n C.c,.slice C.b C.m C.e]] w fun e w'=>e=.returned (.bool false)∧Below w.heap.size w w':=by
 obtain ⟨SB,hSB⟩:∃ S,A.val - B.val=S:=⟨_,rfl⟩
 obtain ⟨DB,hDB⟩:∃ S,dsR A.val B.val=S:=⟨_,rfl⟩
 have zB:sz 100000000 SB:=by rw [←hSB];exact (sz_subY sA sB).mono (by omega)
 have zDB:sz 100000000 DB:=by rw [←hDB];exact (sz_ds sA sB).mono (by omega)
 have GSB:=hide' (fun w' k1 k2=>vsubQ A B SB w' k1 k2 (by omega) hSB zB)
 have GAB:=hide' (fun w' p q (k1:(nR SB p q).ok w')=>vabsQ (nR SB p q) DB w' k1 (by rw [nR_val,←hSB,absR_dsR2];exact hDB) zDB ⟨zB.1,zB.2⟩)
 obtain ⟨SC,hSC⟩:∃ S,A.val - C.val=S:=⟨_,rfl⟩
 obtain ⟨DC,hDC⟩:∃ S,dsR A.val C.val=S:=⟨_,rfl⟩
 have zC:sz 100000000 SC:=by rw [←hSC];exact (sz_subY sA sC).mono (by omega)
 have zDC:sz 100000000 DC:=by rw [←hDC];exact (sz_ds sA sC).mono (by omega)
 have GSC:=hide' (fun w' k1 k2=>vsubQ A C SC w' k1 k2 (by omega) hSC zC)
 have GAC:=hide' (fun w' p q (k1:(nR SC p q).ok w')=>vabsQ (nR SC p q) DC w' k1 (by rw [nR_val,←hSC,absR_dsR2];exact hDC) zDC ⟨zC.1,zC.2⟩)
 rw [hDB,hDC] at h1
 have G1:=hide' (fun w' p q p1 q1 (k1:(nR DB p q).ok w') (k2:(nR DC p1 q1).ok w')=>vcmpQ (nR DB p q) (nR DC p1 q1) w' k1 k2 ⟨zDB.1,zDB.2,zDC.1,zDC.2⟩ 1 (by rw [nR_val,nR_val];exact h1))
 clear h1 hDB hDC hSB hSC
 have hf:=run_fieldR
 have bel:Below w.heap.size w w:=Below.refl _ _
 have bb:=below_alloc (w:=w) (.cells #[.bool A.s,.slice A.a A.n A.c,.slice A.b A.m A.e] 27)
 replace hA:=hA.on bb
 replace hB:=hB.on bb
 replace hC:=hC.on bb
 replace bel:=bel.trans (bb.mono bel.size)
 clear bb
 have qa:=Blk.new w #[.bool A.s,.slice A.a A.n A.c,.slice A.b A.m A.e] 27
 have bb:=below_alloc (w:=(w.alloc (.cells #[.bool A.s,.slice A.a A.n A.c,.slice A.b A.m A.e] 27))) (.cells #[.bool B.s,.slice B.a B.n B.c,.slice B.b B.m B.e] 27)
 replace qa:=qa.later bb
 replace hA:=hA.on bb
 replace hB:=hB.on bb
 replace hC:=hC.on bb
 replace bel:=bel.trans (bb.mono bel.size)
 clear bb
 have qb:=Blk.new (w.alloc (.cells #[.bool A.s,.slice A.a A.n A.c,.slice A.b A.m A.e] 27)) #[.bool B.s,.slice B.a B.n B.c,.slice B.b B.m B.e] 27
 simp only [World.size_alloc] at qb
 have bb:=below_alloc (w:=((w.alloc (.cells #[.bool A.s,.slice A.a A.n A.c,.slice A.b A.m A.e] 27)).alloc (.cells #[.bool B.s,.slice B.a B.n B.c,.slice B.b B.m B.e] 27))) (.cells #[.bool C.s,.slice C.a C.n C.c,.slice C.b C.m C.e] 27)
 replace qa:=qa.later bb
 replace qb:=qb.later bb
 replace hA:=hA.on bb
 replace hB:=hB.on bb
 replace hC:=hC.on bb
 replace bel:=bel.trans (bb.mono bel.size)
 clear bb
 have qc:=Blk.new ((w.alloc (.cells #[.bool A.s,.slice A.a A.n A.c,.slice A.b A.m A.e] 27)).alloc (.cells #[.bool B.s,.slice B.a B.n B.c,.slice B.b B.m B.e] 27)) #[.bool C.s,.slice C.a C.n C.c,.slice C.b C.m C.e] 27
 simp only [World.size_alloc] at qc
 go_enter Tryz.func21,Tryz.ntmps21
 go_wp2_with fail
 obtain ⟨W0,hW⟩:∃ W,(((w.alloc (.cells #[.bool A.s,.slice A.a A.n A.c,.slice A.b A.m A.e] 27)).alloc (.cells #[.bool B.s,.slice B.a B.n B.c,.slice B.b B.m B.e] 27)).alloc (.cells #[.bool C.s,.slice C.a C.n C.c,.slice C.b C.m C.e] 27))=W:=⟨_,rfl⟩
 rw [hW] at bel qa qb qc hA hB hC ⊢
 clear hW
 have qa_0:=qa.cell 0
 have qa_1:=qa.cell 1
 have qa_2:=qa.cell 2
 have qb_0:=qb.cell 0
 have qb_1:=qb.cell 1
 have qb_2:=qb.cell 2
 have qc_0:=qc.cell 0
 have qc_1:=qc.cell 1
 have qc_2:=qc.cell 2
 simp only [List.getElem?_toArray,List.getElem?_cons_zero,List.getElem?_cons_succ] at qa_0 qa_1 qa_2 qb_0 qb_1 qb_2 qc_0 qc_1 qc_2
 have bD:Below W0.heap.size W0 W0.drew:=(Below.refl _ _).drew
 have kqa_0:=below_cell bD qa_0
 have kqa_1:=below_cell bD qa_1
 have kqa_2:=below_cell bD qa_2
 have kqb_0:=below_cell bD qb_0
 have kqb_1:=below_cell bD qb_1
 have kqb_2:=below_cell bD qb_2
 have kqc_0:=below_cell bD qc_0
 have kqc_1:=below_cell bD qc_1
 have kqc_2:=below_cell bD qc_2
 replace hA:=hA.on bD
 replace hB:=hB.on bD
 replace hC:=hC.on bD
 replace bel:=bel.trans (bD.mono bel.size)
 replace qa:=qa.later bD
 replace qb:=qb.later bD
 replace qc:=qc.later bD
 refine wp_region_held_drew (S:=fun w'=>w'.cell? ⟨w.heap.size,0,none⟩=some (.bool A.s)∧w'.cell? ⟨w.heap.size,1,none⟩=some (.slice A.a A.n A.c)∧w'.cell? ⟨w.heap.size,2,none⟩=some (.slice A.b A.m A.e)∧w'.cell? ⟨w.heap.size+1,0,none⟩=some (.bool B.s)∧w'.cell? ⟨w.heap.size+1,1,none⟩=some (.slice B.a B.n B.c)∧w'.cell? ⟨w.heap.size+1,2,none⟩=some (.slice B.b B.m B.e)∧w'.cell? ⟨w.heap.size+1+1,0,none⟩=some (.bool C.s)∧w'.cell? ⟨w.heap.size+1+1,1,none⟩=some (.slice C.a C.n C.c)∧w'.cell? ⟨w.heap.size+1+1,2,none⟩=some (.slice C.b C.m C.e)) (by kernel_rfl) ⟨kqa_0,kqa_1,kqa_2,kqb_0,kqb_1,kqb_2,kqc_0,kqc_1,kqc_2⟩ (fun hHeld=>?_)
 clear kqa_0 kqa_1 kqa_2 kqb_0 kqb_1 kqb_2 kqc_0 kqc_1 kqc_2
 generalize W0.drew=w0F at bD hA hB hC qa qb qc bel hHeld ⊢
 clear bD qa_0 qa_1 qa_2 qb_0 qb_1 qb_2 qc_0 qc_1 qc_2
 refine tk 0 (v:=?_) rfl (Or.inl ⟨by rfl,?_⟩) ?_
 rotate_left
 ·intro w9 hSw
  go_simp
  first | done | with_reducible rfl
 simp only [pP,pN,pS,pZ,pC]
 refine tk 1 (v:=?_) rfl (Or.inl ⟨by rfl,?_⟩) ?_
 rotate_left
 ·intro w9 hSw
  go_simp
  first | done | with_reducible rfl
 simp only [pP,pN,pS,pZ,pC]
 refine tk 4 (v:=?_) rfl (Or.inl ⟨by rfl,?_⟩) ?_
 rotate_left
 ·intro w9 hSw
  go_simp
  first | done | with_reducible rfl
 simp only [pP,pN,pS,pZ,pC]
 refine tk 5 (v:=?_) rfl (Or.inl ⟨by rfl,?_⟩) ?_
 rotate_left
 ·intro w9 hSw
  go_simp
  first | done | with_reducible rfl
 simp only [pP,pN,pS,pZ,pC]
 refine wpAnyH_ready (rs:=[2]) (by kernel_rfl) (by simp) ?_
 refine cons' rfl (fun KK hKK=>?_)
 go_simp
 refine (GSB.out _ hA hB).mono ?_
 rintro e w1 ⟨p1,q1,rfl,b1,o1⟩
 have bC:=b1
 replace hA:=hA.on bC
 replace hB:=hB.on bC
 replace hC:=hC.on bC
 replace bel:=bel.trans (bC.mono bel.size)
 replace qa:=qa.later bC
 replace qb:=qb.later bC
 replace qc:=qc.later bC
 replace hHeld:=(⟨below_cell bC hHeld.1,below_cell bC hHeld.2.1,below_cell bC hHeld.2.2.1,below_cell bC hHeld.2.2.2.1,below_cell bC hHeld.2.2.2.2.1,below_cell bC hHeld.2.2.2.2.2.1,below_cell bC hHeld.2.2.2.2.2.2.1,below_cell bC hHeld.2.2.2.2.2.2.2.1,below_cell bC hHeld.2.2.2.2.2.2.2.2⟩:_∧_∧_∧_∧_∧_∧_∧_∧_)
 clear bC
 go_wp2_with fail
 clear b1
 refine hKK.out _ _ hHeld ?_
 clear hHeld
 intro hHeld
 clear hKK KK
 try simp only [pP,pN,pS,pZ,pC]
 refine wpAnyH_ready (rs:=[3]) (by kernel_rfl) (by simp) ?_
 refine cons' rfl (fun KK hKK=>?_)
 go_simp
 refine (GAB.out _ p1 q1 o1).mono ?_
 rintro e w2 ⟨p2,q2,rfl,b1,o2⟩
 have bC:=b1
 replace hA:=hA.on bC
 replace hB:=hB.on bC
 replace hC:=hC.on bC
 replace o1:=o1.on bC
 replace bel:=bel.trans (bC.mono bel.size)
 replace qa:=qa.later bC
 replace qb:=qb.later bC
 replace qc:=qc.later bC
 replace hHeld:=(⟨below_cell bC hHeld.1,below_cell bC hHeld.2.1,below_cell bC hHeld.2.2.1,below_cell bC hHeld.2.2.2.1,below_cell bC hHeld.2.2.2.2.1,below_cell bC hHeld.2.2.2.2.2.1,below_cell bC hHeld.2.2.2.2.2.2.1,below_cell bC hHeld.2.2.2.2.2.2.2.1,below_cell bC hHeld.2.2.2.2.2.2.2.2⟩:_∧_∧_∧_∧_∧_∧_∧_∧_)
 clear bC
 go_wp2_with fail
 clear b1
 refine hKK.out _ _ hHeld ?_
 clear hHeld
 intro hHeld
 clear hKK KK
 try simp only [pP,pN,pS,pZ,pC]
 refine wpAnyH_ready (rs:=[6]) (by kernel_rfl) (by simp) ?_
 refine cons' rfl (fun KK hKK=>?_)
 go_simp
 refine (GSC.out _ hA hC).mono ?_
 rintro e w3 ⟨p3,q3,rfl,b1,o3⟩
 have bC:=b1
 replace hA:=hA.on bC
 replace hB:=hB.on bC
 replace hC:=hC.on bC
 replace o1:=o1.on bC
 replace o2:=o2.on bC
 replace bel:=bel.trans (bC.mono bel.size)
 replace qa:=qa.later bC
 replace qb:=qb.later bC
 replace qc:=qc.later bC
 replace hHeld:=(⟨below_cell bC hHeld.1,below_cell bC hHeld.2.1,below_cell bC hHeld.2.2.1,below_cell bC hHeld.2.2.2.1,below_cell bC hHeld.2.2.2.2.1,below_cell bC hHeld.2.2.2.2.2.1,below_cell bC hHeld.2.2.2.2.2.2.1,below_cell bC hHeld.2.2.2.2.2.2.2.1,below_cell bC hHeld.2.2.2.2.2.2.2.2⟩:_∧_∧_∧_∧_∧_∧_∧_∧_)
 clear bC
 go_wp2_with fail
 clear b1
 refine hKK.out _ _ hHeld ?_
 clear hHeld
 intro hHeld
 clear hKK KK
 try simp only [pP,pN,pS,pZ,pC]
 refine wpAnyH_ready (rs:=[7]) (by kernel_rfl) (by simp) ?_
 refine cons' rfl (fun KK hKK=>?_)
 go_simp
 refine (GAC.out _ p3 q3 o3).mono ?_
 rintro e w4 ⟨p4,q4,rfl,b1,o4⟩
 have bC:=b1
 replace hA:=hA.on bC
 replace hB:=hB.on bC
 replace hC:=hC.on bC
 replace o1:=o1.on bC
 replace o2:=o2.on bC
 replace o3:=o3.on bC
 replace bel:=bel.trans (bC.mono bel.size)
 replace qa:=qa.later bC
 replace qb:=qb.later bC
 replace qc:=qc.later bC
 replace hHeld:=(⟨below_cell bC hHeld.1,below_cell bC hHeld.2.1,below_cell bC hHeld.2.2.1,below_cell bC hHeld.2.2.2.1,below_cell bC hHeld.2.2.2.2.1,below_cell bC hHeld.2.2.2.2.2.1,below_cell bC hHeld.2.2.2.2.2.2.1,below_cell bC hHeld.2.2.2.2.2.2.2.1,below_cell bC hHeld.2.2.2.2.2.2.2.2⟩:_∧_∧_∧_∧_∧_∧_∧_∧_)
 clear bC
 go_wp2_with fail
 clear b1
 refine hKK.out _ _ hHeld ?_
 clear hHeld
 intro hHeld
 clear hKK KK
 try simp only [pP,pN,pS,pZ,pC]
 refine wpAnyH_ready (rs:=[8]) (by kernel_rfl) (by simp) ?_
 refine cons' rfl (fun KK hKK=>?_)
 go_simp
 refine (G1.out _ p2 q2 p4 q4 o2 o4).mono ?_
 rintro e w5 ⟨rfl,b1⟩
 have bC:=b1
 replace hA:=hA.on bC
 replace hB:=hB.on bC
 replace hC:=hC.on bC
 replace o1:=o1.on bC
 replace o2:=o2.on bC
 replace o3:=o3.on bC
 replace o4:=o4.on bC
 replace bel:=bel.trans (bC.mono bel.size)
 replace qa:=qa.later bC
 replace qb:=qb.later bC
 replace qc:=qc.later bC
 replace hHeld:=(⟨below_cell bC hHeld.1,below_cell bC hHeld.2.1,below_cell bC hHeld.2.2.1,below_cell bC hHeld.2.2.2.1,below_cell bC hHeld.2.2.2.2.1,below_cell bC hHeld.2.2.2.2.2.1,below_cell bC hHeld.2.2.2.2.2.2.1,below_cell bC hHeld.2.2.2.2.2.2.2.1,below_cell bC hHeld.2.2.2.2.2.2.2.2⟩:_∧_∧_∧_∧_∧_∧_∧_∧_)
 clear bC
 go_wp2_with fail
 clear b1
 refine hKK.out _ _ hHeld ?_
 clear hHeld
 intro hHeld
 clear hKK KK
 try simp only [pP,pN,pS,pZ,pC]
 refine tk 9 (v:=?_) rfl (Or.inl ⟨by rfl,?_⟩) ?_
 rotate_left
 ·intro w9 hSw
  go_simp
  first | done | with_reducible rfl
 simp only [pP,pN,pS,pZ,pC]
 refine wpAnyH_done (by kernel_rfl) ?_ _
 skip
 clear o1 o2 o3 o4
 clear GSB GAB GSC GAC G1
 go_wp2
 go_ret
 exact ⟨rfl,bel⟩
set_option maxHeartbeats 4000000 in
set_option maxRecDepth 100000 in
theorem vnear_c (A B C:RatV) (w:World) (hA:A.ok w) (hB:B.ok w) (hC:C.ok w) (hn:A.n≤2000000∧A.m≤2000000∧B.n≤2000000∧B.m≤2000000∧C.n≤2000000∧C.m≤2000000) (sA:sz 2000001 A.val) (sB:sz 2000001 B.val) (sC:sz 2000001 C.val) (h1:sR (dsR A.val B.val - dsR A.val C.val)=0) (h2:cmpI B.val.den C.val.den=(-1)) :
  Calls Tryz.prog 21 #[.agg #[.bool A.s,.slice A.a A.n A.c,.slice A.b A.m A.e],.agg #[.bool B.s,.slice B.a B.n B.c,.slice B.b B.m B.e],.agg #[.bool C.s,.slice C.a C.n C.c,.slice C.b C.m C.e]] w fun e w'=>e=.returned (.bool true)∧Below w.heap.size w w':=by
 obtain ⟨SB,hSB⟩:∃ S,A.val - B.val=S:=⟨_,rfl⟩
 obtain ⟨DB,hDB⟩:∃ S,dsR A.val B.val=S:=⟨_,rfl⟩
 have zB:sz 100000000 SB:=by rw [←hSB];exact (sz_subY sA sB).mono (by omega)
 have zDB:sz 100000000 DB:=by rw [←hDB];exact (sz_ds sA sB).mono (by omega)
 have GSB:=hide' (fun w' k1 k2=>vsubQ A B SB w' k1 k2 (by omega) hSB zB)
 have GAB:=hide' (fun w' p q (k1:(nR SB p q).ok w')=>vabsQ (nR SB p q) DB w' k1 (by rw [nR_val,←hSB,absR_dsR2];exact hDB) zDB ⟨zB.1,zB.2⟩)
 obtain ⟨SC,hSC⟩:∃ S,A.val - C.val=S:=⟨_,rfl⟩
 obtain ⟨DC,hDC⟩:∃ S,dsR A.val C.val=S:=⟨_,rfl⟩
 have zC:sz 100000000 SC:=by rw [←hSC];exact (sz_subY sA sC).mono (by omega)
 have zDC:sz 100000000 DC:=by rw [←hDC];exact (sz_ds sA sC).mono (by omega)
 have GSC:=hide' (fun w' k1 k2=>vsubQ A C SC w' k1 k2 (by omega) hSC zC)
 have GAC:=hide' (fun w' p q (k1:(nR SC p q).ok w')=>vabsQ (nR SC p q) DC w' k1 (by rw [nR_val,←hSC,absR_dsR2];exact hDC) zDC ⟨zC.1,zC.2⟩)
 rw [hDB,hDC] at h1
 have G1:=hide' (fun w' p q p1 q1 (k1:(nR DB p q).ok w') (k2:(nR DC p1 q1).ok w')=>vcmpQ (nR DB p q) (nR DC p1 q1) w' k1 k2 ⟨zDB.1,zDB.2,zDC.1,zDC.2⟩ 0 (by rw [nR_val,nR_val];exact h1))
 have GNB:=hide' (fun w' k1=>vnormQ B B.val w' k1 rfl (sB.mono (by omega)))
 have GNC:=hide' (fun w' k1=>vnormQ C C.val w' k1 rfl (sC.mono (by omega)))
 have G2:=hide' (fun w' q q1 (k1:Seg w' q B.val.den (ln B.val.den)) (k2:Seg w' q1 C.val.den (ln C.val.den))=>(rCmp_any q q1 (ln B.val.den) (ln B.val.den) B.val.den (ln C.val.den) (ln C.val.den) C.val.den w' (Nat.le_trans sB.2 (by omega)) k1 (Nat.le_trans sC.2 (by omega)) k2).mono (fun e w2 h=>(show e=.returned (.int .i64 (cmpI B.val.den C.val.den))∧Below w'.heap.size w' w2 from ⟨h.1,h.2 ▸ Below.refl _ _⟩)))
 rw [h2] at G2
 clear h1 hDB hDC hSB hSC h2
 have hf:=run_fieldR
 have bel:Below w.heap.size w w:=Below.refl _ _
 have bb:=below_alloc (w:=w) (.cells #[.bool A.s,.slice A.a A.n A.c,.slice A.b A.m A.e] 27)
 replace hA:=hA.on bb
 replace hB:=hB.on bb
 replace hC:=hC.on bb
 replace bel:=bel.trans (bb.mono bel.size)
 clear bb
 have qa:=Blk.new w #[.bool A.s,.slice A.a A.n A.c,.slice A.b A.m A.e] 27
 have bb:=below_alloc (w:=(w.alloc (.cells #[.bool A.s,.slice A.a A.n A.c,.slice A.b A.m A.e] 27))) (.cells #[.bool B.s,.slice B.a B.n B.c,.slice B.b B.m B.e] 27)
 replace qa:=qa.later bb
 replace hA:=hA.on bb
 replace hB:=hB.on bb
 replace hC:=hC.on bb
 replace bel:=bel.trans (bb.mono bel.size)
 clear bb
 have qb:=Blk.new (w.alloc (.cells #[.bool A.s,.slice A.a A.n A.c,.slice A.b A.m A.e] 27)) #[.bool B.s,.slice B.a B.n B.c,.slice B.b B.m B.e] 27
 simp only [World.size_alloc] at qb
 have bb:=below_alloc (w:=((w.alloc (.cells #[.bool A.s,.slice A.a A.n A.c,.slice A.b A.m A.e] 27)).alloc (.cells #[.bool B.s,.slice B.a B.n B.c,.slice B.b B.m B.e] 27))) (.cells #[.bool C.s,.slice C.a C.n C.c,.slice C.b C.m C.e] 27)
 replace qa:=qa.later bb
 replace qb:=qb.later bb
 replace hA:=hA.on bb
 replace hB:=hB.on bb
 replace hC:=hC.on bb
 replace bel:=bel.trans (bb.mono bel.size)
 clear bb
 have qc:=Blk.new ((w.alloc (.cells #[.bool A.s,.slice A.a A.n A.c,.slice A.b A.m A.e] 27)).alloc (.cells #[.bool B.s,.slice B.a B.n B.c,.slice B.b B.m B.e] 27)) #[.bool C.s,.slice C.a C.n C.c,.slice C.b C.m C.e] 27
 simp only [World.size_alloc] at qc
 go_enter Tryz.func21,Tryz.ntmps21
 go_wp2_with fail
 obtain ⟨W0,hW⟩:∃ W,(((w.alloc (.cells #[.bool A.s,.slice A.a A.n A.c,.slice A.b A.m A.e] 27)).alloc (.cells #[.bool B.s,.slice B.a B.n B.c,.slice B.b B.m B.e] 27)).alloc (.cells #[.bool C.s,.slice C.a C.n C.c,.slice C.b C.m C.e] 27))=W:=⟨_,rfl⟩
 rw [hW] at bel qa qb qc hA hB hC ⊢
 clear hW
 have qa_0:=qa.cell 0
 have qa_1:=qa.cell 1
 have qa_2:=qa.cell 2
 have qb_0:=qb.cell 0
 have qb_1:=qb.cell 1
 have qb_2:=qb.cell 2
 have qc_0:=qc.cell 0
 have qc_1:=qc.cell 1
 have qc_2:=qc.cell 2
 simp only [List.getElem?_toArray,List.getElem?_cons_zero,List.getElem?_cons_succ] at qa_0 qa_1 qa_2 qb_0 qb_1 qb_2 qc_0 qc_1 qc_2
 have bD:Below W0.heap.size W0 W0.drew:=(Below.refl _ _).drew
 have kqa_0:=below_cell bD qa_0
 have kqa_1:=below_cell bD qa_1
 have kqa_2:=below_cell bD qa_2
 have kqb_0:=below_cell bD qb_0
 have kqb_1:=below_cell bD qb_1
 have kqb_2:=below_cell bD qb_2
 have kqc_0:=below_cell bD qc_0
 have kqc_1:=below_cell bD qc_1
 have kqc_2:=below_cell bD qc_2
 replace hA:=hA.on bD
 replace hB:=hB.on bD
 replace hC:=hC.on bD
 replace bel:=bel.trans (bD.mono bel.size)
 replace qa:=qa.later bD
 replace qb:=qb.later bD
 replace qc:=qc.later bD
 refine wp_region_held_drew (S:=fun w'=>w'.cell? ⟨w.heap.size,0,none⟩=some (.bool A.s)∧w'.cell? ⟨w.heap.size,1,none⟩=some (.slice A.a A.n A.c)∧w'.cell? ⟨w.heap.size,2,none⟩=some (.slice A.b A.m A.e)∧w'.cell? ⟨w.heap.size+1,0,none⟩=some (.bool B.s)∧w'.cell? ⟨w.heap.size+1,1,none⟩=some (.slice B.a B.n B.c)∧w'.cell? ⟨w.heap.size+1,2,none⟩=some (.slice B.b B.m B.e)∧w'.cell? ⟨w.heap.size+1+1,0,none⟩=some (.bool C.s)∧w'.cell? ⟨w.heap.size+1+1,1,none⟩=some (.slice C.a C.n C.c)∧w'.cell? ⟨w.heap.size+1+1,2,none⟩=some (.slice C.b C.m C.e)) (by kernel_rfl) ⟨kqa_0,kqa_1,kqa_2,kqb_0,kqb_1,kqb_2,kqc_0,kqc_1,kqc_2⟩ (fun hHeld=>?_)
 clear kqa_0 kqa_1 kqa_2 kqb_0 kqb_1 kqb_2 kqc_0 kqc_1 kqc_2
 generalize W0.drew=w0F at bD hA hB hC qa qb qc bel hHeld ⊢
 clear bD qa_0 qa_1 qa_2 qb_0 qb_1 qb_2 qc_0 qc_1 qc_2
 refine tk 0 (v:=?_) rfl (Or.inl ⟨by rfl,?_⟩) ?_
 rotate_left
 ·intro w9 hSw
  go_simp
  first | done | with_reducible rfl
 simp only [pP,pN,pS,pZ,pC]
 refine tk 1 (v:=?_) rfl (Or.inl ⟨by rfl,?_⟩) ?_
 rotate_left
 ·intro w9 hSw
  go_simp
  first | done | with_reducible rfl
 simp only [pP,pN,pS,pZ,pC]
 refine tk 4 (v:=?_) rfl (Or.inl ⟨by rfl,?_⟩) ?_
 rotate_left
 ·intro w9 hSw
  go_simp
  first | done | with_reducible rfl
 simp only [pP,pN,pS,pZ,pC]
 refine tk 5 (v:=?_) rfl (Or.inl ⟨by rfl,?_⟩) ?_
 rotate_left
 ·intro w9 hSw
  go_simp
  first | done | with_reducible rfl
 simp only [pP,pN,pS,pZ,pC]
 refine wpAnyH_ready (rs:=[2]) (by kernel_rfl) (by simp) ?_
 refine cons' rfl (fun KK hKK=>?_)
 go_simp
 refine (GSB.out _ hA hB).mono ?_
 rintro e w1 ⟨p1,q1,rfl,b1,o1⟩
 have bC:=b1
 replace hA:=hA.on bC
 replace hB:=hB.on bC
 replace hC:=hC.on bC
 replace bel:=bel.trans (bC.mono bel.size)
 replace qa:=qa.later bC
 replace qb:=qb.later bC
 replace qc:=qc.later bC
 replace hHeld:=(⟨below_cell bC hHeld.1,below_cell bC hHeld.2.1,below_cell bC hHeld.2.2.1,below_cell bC hHeld.2.2.2.1,below_cell bC hHeld.2.2.2.2.1,below_cell bC hHeld.2.2.2.2.2.1,below_cell bC hHeld.2.2.2.2.2.2.1,below_cell bC hHeld.2.2.2.2.2.2.2.1,below_cell bC hHeld.2.2.2.2.2.2.2.2⟩:_∧_∧_∧_∧_∧_∧_∧_∧_)
 clear bC
 go_wp2_with fail
 clear b1
 refine hKK.out _ _ hHeld ?_
 clear hHeld
 intro hHeld
 clear hKK KK
 try simp only [pP,pN,pS,pZ,pC]
 refine wpAnyH_ready (rs:=[3]) (by kernel_rfl) (by simp) ?_
 refine cons' rfl (fun KK hKK=>?_)
 go_simp
 refine (GAB.out _ p1 q1 o1).mono ?_
 rintro e w2 ⟨p2,q2,rfl,b1,o2⟩
 have bC:=b1
 replace hA:=hA.on bC
 replace hB:=hB.on bC
 replace hC:=hC.on bC
 replace o1:=o1.on bC
 replace bel:=bel.trans (bC.mono bel.size)
 replace qa:=qa.later bC
 replace qb:=qb.later bC
 replace qc:=qc.later bC
 replace hHeld:=(⟨below_cell bC hHeld.1,below_cell bC hHeld.2.1,below_cell bC hHeld.2.2.1,below_cell bC hHeld.2.2.2.1,below_cell bC hHeld.2.2.2.2.1,below_cell bC hHeld.2.2.2.2.2.1,below_cell bC hHeld.2.2.2.2.2.2.1,below_cell bC hHeld.2.2.2.2.2.2.2.1,below_cell bC hHeld.2.2.2.2.2.2.2.2⟩:_∧_∧_∧_∧_∧_∧_∧_∧_)
 clear bC
 go_wp2_with fail
 clear b1
 refine hKK.out _ _ hHeld ?_
 clear hHeld
 intro hHeld
 clear hKK KK
 try simp only [pP,pN,pS,pZ,pC]
 refine wpAnyH_ready (rs:=[6]) (by kernel_rfl) (by simp) ?_
 refine cons' rfl (fun KK hKK=>?_)
 go_simp
 refine (GSC.out _ hA hC).mono ?_
 rintro e w3 ⟨p3,q3,rfl,b1,o3⟩
 have bC:=b1
 replace hA:=hA.on bC
 replace hB:=hB.on bC
 replace hC:=hC.on bC
 replace o1:=o1.on bC
 replace o2:=o2.on bC
 replace bel:=bel.trans (bC.mono bel.size)
 replace qa:=qa.later bC
 replace qb:=qb.later bC
 replace qc:=qc.later bC
 replace hHeld:=(⟨below_cell bC hHeld.1,below_cell bC hHeld.2.1,below_cell bC hHeld.2.2.1,below_cell bC hHeld.2.2.2.1,below_cell bC hHeld.2.2.2.2.1,below_cell bC hHeld.2.2.2.2.2.1,below_cell bC hHeld.2.2.2.2.2.2.1,below_cell bC hHeld.2.2.2.2.2.2.2.1,below_cell bC hHeld.2.2.2.2.2.2.2.2⟩:_∧_∧_∧_∧_∧_∧_∧_∧_)
 clear bC
 go_wp2_with fail
 clear b1
 refine hKK.out _ _ hHeld ?_
 clear hHeld
 intro hHeld
 clear hKK KK
 try simp only [pP,pN,pS,pZ,pC]
 refine wpAnyH_ready (rs:=[7]) (by kernel_rfl) (by simp) ?_
 refine cons' rfl (fun KK hKK=>?_)
 go_simp
 refine (GAC.out _ p3 q3 o3).mono ?_
 rintro e w4 ⟨p4,q4,rfl,b1,o4⟩
 have bC:=b1
 replace hA:=hA.on bC
 replace hB:=hB.on bC
 replace hC:=hC.on bC
 replace o1:=o1.on bC
 replace o2:=o2.on bC
 replace o3:=o3.on bC
 replace bel:=bel.trans (bC.mono bel.size)
 replace qa:=qa.later bC
 replace qb:=qb.later bC
 replace qc:=qc.later bC
 replace hHeld:=(⟨below_cell bC hHeld.1,below_cell bC hHeld.2.1,below_cell bC hHeld.2.2.1,below_cell bC hHeld.2.2.2.1,below_cell bC hHeld.2.2.2.2.1,below_cell bC hHeld.2.2.2.2.2.1,below_cell bC hHeld.2.2.2.2.2.2.1,below_cell bC hHeld.2.2.2.2.2.2.2.1,below_cell bC hHeld.2.2.2.2.2.2.2.2⟩:_∧_∧_∧_∧_∧_∧_∧_∧_)
 clear bC
 go_wp2_with fail
 clear b1
 refine hKK.out _ _ hHeld ?_
 clear hHeld
 intro hHeld
 clear hKK KK
 try simp only [pP,pN,pS,pZ,pC]
 refine wpAnyH_ready (rs:=[8]) (by kernel_rfl) (by simp) ?_
 refine cons' rfl (fun KK hKK=>?_)
 go_simp
 refine (G1.out _ p2 q2 p4 q4 o2 o4).mono ?_
 rintro e w5 ⟨rfl,b1⟩
 have bC:=b1
 replace hA:=hA.on bC
 replace hB:=hB.on bC
 replace hC:=hC.on bC
 replace o1:=o1.on bC
 replace o2:=o2.on bC
 replace o3:=o3.on bC
 replace o4:=o4.on bC
 replace bel:=bel.trans (bC.mono bel.size)
 replace qa:=qa.later bC
 replace qb:=qb.later bC
 replace qc:=qc.later bC
 replace hHeld:=(⟨below_cell bC hHeld.1,below_cell bC hHeld.2.1,below_cell bC hHeld.2.2.1,below_cell bC hHeld.2.2.2.1,below_cell bC hHeld.2.2.2.2.1,below_cell bC hHeld.2.2.2.2.2.1,below_cell bC hHeld.2.2.2.2.2.2.1,below_cell bC hHeld.2.2.2.2.2.2.2.1,below_cell bC hHeld.2.2.2.2.2.2.2.2⟩:_∧_∧_∧_∧_∧_∧_∧_∧_)
 clear bC
 go_wp2_with fail
 clear b1
 refine hKK.out _ _ hHeld ?_
 clear hHeld
 intro hHeld
 clear hKK KK
 try simp only [pP,pN,pS,pZ,pC]
 refine tk 9 (v:=?_) rfl (Or.inl ⟨by rfl,?_⟩) ?_
 rotate_left
 ·intro w9 hSw
  go_simp
  first | done | with_reducible rfl
 simp only [pP,pN,pS,pZ,pC]
 refine wpAnyH_done (by kernel_rfl) ?_ _
 skip
 clear o1 o2 o3 o4
 clear GSB GAB GSC GAC G1
 go_upto_region 4 with fail
 have qb_0:=qb.cell 0
 have qb_1:=qb.cell 1
 have qb_2:=qb.cell 2
 have qc_0:=qc.cell 0
 have qc_1:=qc.cell 1
 have qc_2:=qc.cell 2
 simp only [List.getElem?_toArray,List.getElem?_cons_zero,List.getElem?_cons_succ] at qb_0 qb_1 qb_2 qc_0 qc_1 qc_2
 have bD:Below w5.heap.size w5 w5.drew:=(Below.refl _ _).drew
 have kqb_0:=below_cell bD qb_0
 have kqb_1:=below_cell bD qb_1
 have kqb_2:=below_cell bD qb_2
 have kqc_0:=below_cell bD qc_0
 have kqc_1:=below_cell bD qc_1
 have kqc_2:=below_cell bD qc_2
 replace hA:=hA.on bD
 replace hB:=hB.on bD
 replace hC:=hC.on bD
 replace bel:=bel.trans (bD.mono bel.size)
 replace qa:=qa.later bD
 replace qb:=qb.later bD
 replace qc:=qc.later bD
 refine wp_region_held_drew (S:=fun w'=>w'.cell? ⟨w.heap.size+1,0,none⟩=some (.bool B.s)∧w'.cell? ⟨w.heap.size+1,1,none⟩=some (.slice B.a B.n B.c)∧w'.cell? ⟨w.heap.size+1,2,none⟩=some (.slice B.b B.m B.e)∧w'.cell? ⟨w.heap.size+1+1,0,none⟩=some (.bool C.s)∧w'.cell? ⟨w.heap.size+1+1,1,none⟩=some (.slice C.a C.n C.c)∧w'.cell? ⟨w.heap.size+1+1,2,none⟩=some (.slice C.b C.m C.e)) (by kernel_rfl) ⟨kqb_0,kqb_1,kqb_2,kqc_0,kqc_1,kqc_2⟩ (fun hHeld=>?_)
 clear kqb_0 kqb_1 kqb_2 kqc_0 kqc_1 kqc_2
 generalize w5.drew=w0G at bD hA hB hC qa qb qc bel hHeld ⊢
 clear bD qb_0 qb_1 qb_2 qc_0 qc_1 qc_2
 refine tk 0 (v:=?_) rfl (Or.inl ⟨by rfl,?_⟩) ?_
 rotate_left
 ·intro w9 hSw
  go_simp
  first | done | with_reducible rfl
 simp only [pP,pN,pS,pZ,pC]
 refine tk 3 (v:=?_) rfl (Or.inl ⟨by rfl,?_⟩) ?_
 rotate_left
 ·intro w9 hSw
  go_simp
  first | done | with_reducible rfl
 simp only [pP,pN,pS,pZ,pC]
 refine wpAnyH_ready (rs:=[1]) (by kernel_rfl) (by simp) ?_
 refine cons' rfl (fun KK hKK=>?_)
 go_simp
 refine (GNB.out _ hB).mono ?_
 rintro e w6 ⟨p5,q5,rfl,b1,o5⟩
 have bC:=b1
 replace hA:=hA.on bC
 replace hB:=hB.on bC
 replace hC:=hC.on bC
 replace bel:=bel.trans (bC.mono bel.size)
 replace qa:=qa.later bC
 replace qb:=qb.later bC
 replace qc:=qc.later bC
 replace hHeld:=(⟨below_cell bC hHeld.1,below_cell bC hHeld.2.1,below_cell bC hHeld.2.2.1,below_cell bC hHeld.2.2.2.1,below_cell bC hHeld.2.2.2.2.1,below_cell bC hHeld.2.2.2.2.2⟩:_∧_∧_∧_∧_∧_)
 clear bC
 go_wp2_with fail
 clear b1
 refine hKK.out _ _ hHeld ?_
 clear hHeld
 intro hHeld
 clear hKK KK
 try simp only [pP,pN,pS,pZ,pC]
 refine tk 2 (v:=?_) rfl (Or.inl ⟨by rfl,?_⟩) ?_
 rotate_left
 ·intro w9 hSw
  go_simp
  first | done | with_reducible rfl
 simp only [pP,pN,pS,pZ,pC]
 refine wpAnyH_ready (rs:=[4]) (by kernel_rfl) (by simp) ?_
 refine cons' rfl (fun KK hKK=>?_)
 go_simp
 refine (GNC.out _ hC).mono ?_
 rintro e w7 ⟨p6,q6,rfl,b1,o6⟩
 have bC:=b1
 replace hA:=hA.on bC
 replace hB:=hB.on bC
 replace hC:=hC.on bC
 replace o5:=o5.on bC
 replace bel:=bel.trans (bC.mono bel.size)
 replace qa:=qa.later bC
 replace qb:=qb.later bC
 replace qc:=qc.later bC
 replace hHeld:=(⟨below_cell bC hHeld.1,below_cell bC hHeld.2.1,below_cell bC hHeld.2.2.1,below_cell bC hHeld.2.2.2.1,below_cell bC hHeld.2.2.2.2.1,below_cell bC hHeld.2.2.2.2.2⟩:_∧_∧_∧_∧_∧_)
 clear bC
 go_wp2_with fail
 clear b1
 refine hKK.out _ _ hHeld ?_
 clear hHeld
 intro hHeld
 clear hKK KK
 try simp only [pP,pN,pS,pZ,pC]
 refine tk 5 (v:=?_) rfl (Or.inl ⟨by rfl,?_⟩) ?_
 rotate_left
 ·intro w9 hSw
  go_simp
  first | done | with_reducible rfl
 simp only [pP,pN,pS,pZ,pC]
 refine wpAnyH_ready (rs:=[6]) (by kernel_rfl) (by simp) ?_
 refine cons' rfl (fun KK hKK=>?_)
 go_simp
 refine (G2.out _ q5 q6 o5.2.2.2.1 o6.2.2.2.1).mono ?_
 rintro e w8 ⟨rfl,b1⟩
 have bC:=b1
 replace hA:=hA.on bC
 replace hB:=hB.on bC
 replace hC:=hC.on bC
 replace o5:=o5.on bC
 replace o6:=o6.on bC
 replace bel:=bel.trans (bC.mono bel.size)
 replace qa:=qa.later bC
 replace qb:=qb.later bC
 replace qc:=qc.later bC
 replace hHeld:=(⟨below_cell bC hHeld.1,below_cell bC hHeld.2.1,below_cell bC hHeld.2.2.1,below_cell bC hHeld.2.2.2.1,below_cell bC hHeld.2.2.2.2.1,below_cell bC hHeld.2.2.2.2.2⟩:_∧_∧_∧_∧_∧_)
 clear bC
 go_wp2_with fail
 clear b1
 refine hKK.out _ _ hHeld ?_
 clear hHeld
 intro hHeld
 clear hKK KK
 try simp only [pP,pN,pS,pZ,pC]
 refine tk 7 (v:=?_) rfl (Or.inl ⟨by rfl,?_⟩) ?_
 rotate_left
 ·intro w9 hSw
  go_simp
  first | done | with_reducible rfl
 simp only [pP,pN,pS,pZ,pC]
 refine wpAnyH_done (by kernel_rfl) ?_ _
 skip
 clear o5 o6
 clear GNB GNC G2
 go_wp2
 go_ret
 exact ⟨rfl,bel⟩
set_option maxHeartbeats 4000000 in
set_option maxRecDepth 100000 in
theorem vnear_d (A B C:RatV) (w:World) (hA:A.ok w) (hB:B.ok w) (hC:C.ok w) (hn:A.n≤2000000∧A.m≤2000000∧B.n≤2000000∧B.m≤2000000∧C.n≤2000000∧C.m≤2000000) (sA:sz 2000001 A.val) (sB:sz 2000001 B.val) (sC:sz 2000001 C.val) (h1:sR (dsR A.val B.val - dsR A.val C.val)=0) (h2:cmpI B.val.den C.val.den=1) :
  Calls Tryz.prog 21 #[.agg #[.bool A.s,.slice A.a A.n A.c,.slice A.b A.m A.e],.agg #[.bool B.s,.slice B.a B.n B.c,.slice B.b B.m B.e],.agg #[.bool C.s,.slice C.a C.n C.c,.slice C.b C.m C.e]] w fun e w'=>e=.returned (.bool false)∧Below w.heap.size w w':=by
 obtain ⟨SB,hSB⟩:∃ S,A.val - B.val=S:=⟨_,rfl⟩
 obtain ⟨DB,hDB⟩:∃ S,dsR A.val B.val=S:=⟨_,rfl⟩
 have zB:sz 100000000 SB:=by rw [←hSB];exact (sz_subY sA sB).mono (by omega)
 have zDB:sz 100000000 DB:=by rw [←hDB];exact (sz_ds sA sB).mono (by omega)
 have GSB:=hide' (fun w' k1 k2=>vsubQ A B SB w' k1 k2 (by omega) hSB zB)
 have GAB:=hide' (fun w' p q (k1:(nR SB p q).ok w')=>vabsQ (nR SB p q) DB w' k1 (by rw [nR_val,←hSB,absR_dsR2];exact hDB) zDB ⟨zB.1,zB.2⟩)
 obtain ⟨SC,hSC⟩:∃ S,A.val - C.val=S:=⟨_,rfl⟩
 obtain ⟨DC,hDC⟩:∃ S,dsR A.val C.val=S:=⟨_,rfl⟩
 have zC:sz 100000000 SC:=by rw [←hSC];exact (sz_subY sA sC).mono (by omega)
 have zDC:sz 100000000 DC:=by rw [←hDC];exact (sz_ds sA sC).mono (by omega)
 have GSC:=hide' (fun w' k1 k2=>vsubQ A C SC w' k1 k2 (by omega) hSC zC)
 have GAC:=hide' (fun w' p q (k1:(nR SC p q).ok w')=>vabsQ (nR SC p q) DC w' k1 (by rw [nR_val,←hSC,absR_dsR2];exact hDC) zDC ⟨zC.1,zC.2⟩)
 rw [hDB,hDC] at h1
 have G1:=hide' (fun w' p q p1 q1 (k1:(nR DB p q).ok w') (k2:(nR DC p1 q1).ok w')=>vcmpQ (nR DB p q) (nR DC p1 q1) w' k1 k2 ⟨zDB.1,zDB.2,zDC.1,zDC.2⟩ 0 (by rw [nR_val,nR_val];exact h1))
 have GNB:=hide' (fun w' k1=>vnormQ B B.val w' k1 rfl (sB.mono (by omega)))
 have GNC:=hide' (fun w' k1=>vnormQ C C.val w' k1 rfl (sC.mono (by omega)))
 have G2:=hide' (fun w' q q1 (k1:Seg w' q B.val.den (ln B.val.den)) (k2:Seg w' q1 C.val.den (ln C.val.den))=>(rCmp_any q q1 (ln B.val.den) (ln B.val.den) B.val.den (ln C.val.den) (ln C.val.den) C.val.den w' (Nat.le_trans sB.2 (by omega)) k1 (Nat.le_trans sC.2 (by omega)) k2).mono (fun e w2 h=>(show e=.returned (.int .i64 (cmpI B.val.den C.val.den))∧Below w'.heap.size w' w2 from ⟨h.1,h.2 ▸ Below.refl _ _⟩)))
 rw [h2] at G2
 clear h1 hDB hDC hSB hSC h2
 have hf:=run_fieldR
 have bel:Below w.heap.size w w:=Below.refl _ _
 have bb:=below_alloc (w:=w) (.cells #[.bool A.s,.slice A.a A.n A.c,.slice A.b A.m A.e] 27)
 replace hA:=hA.on bb
 replace hB:=hB.on bb
 replace hC:=hC.on bb
 replace bel:=bel.trans (bb.mono bel.size)
 clear bb
 have qa:=Blk.new w #[.bool A.s,.slice A.a A.n A.c,.slice A.b A.m A.e] 27
 have bb:=below_alloc (w:=(w.alloc (.cells #[.bool A.s,.slice A.a A.n A.c,.slice A.b A.m A.e] 27))) (.cells #[.bool B.s,.slice B.a B.n B.c,.slice B.b B.m B.e] 27)
 replace qa:=qa.later bb
 replace hA:=hA.on bb
 replace hB:=hB.on bb
 replace hC:=hC.on bb
 replace bel:=bel.trans (bb.mono bel.size)
 clear bb
 have qb:=Blk.new (w.alloc (.cells #[.bool A.s,.slice A.a A.n A.c,.slice A.b A.m A.e] 27)) #[.bool B.s,.slice B.a B.n B.c,.slice B.b B.m B.e] 27
 simp only [World.size_alloc] at qb
 have bb:=below_alloc (w:=((w.alloc (.cells #[.bool A.s,.slice A.a A.n A.c,.slice A.b A.m A.e] 27)).alloc (.cells #[.bool B.s,.slice B.a B.n B.c,.slice B.b B.m B.e] 27))) (.cells #[.bool C.s,.slice C.a C.n C.c,.slice C.b C.m C.e] 27)
 replace qa:=qa.later bb
 replace qb:=qb.later bb
 replace hA:=hA.on bb
 replace hB:=hB.on bb
 replace hC:=hC.on bb
 replace bel:=bel.trans (bb.mono bel.size)
 clear bb
 have qc:=Blk.new ((w.alloc (.cells #[.bool A.s,.slice A.a A.n A.c,.slice A.b A.m A.e] 27)).alloc (.cells #[.bool B.s,.slice B.a B.n B.c,.slice B.b B.m B.e] 27)) #[.bool C.s,.slice C.a C.n C.c,.slice C.b C.m C.e] 27
 simp only [World.size_alloc] at qc
 go_enter Tryz.func21,Tryz.ntmps21
 go_wp2_with fail
 obtain ⟨W0,hW⟩:∃ W,(((w.alloc (.cells #[.bool A.s,.slice A.a A.n A.c,.slice A.b A.m A.e] 27)).alloc (.cells #[.bool B.s,.slice B.a B.n B.c,.slice B.b B.m B.e] 27)).alloc (.cells #[.bool C.s,.slice C.a C.n C.c,.slice C.b C.m C.e] 27))=W:=⟨_,rfl⟩
 rw [hW] at bel qa qb qc hA hB hC ⊢
 clear hW
 have qa_0:=qa.cell 0
 have qa_1:=qa.cell 1
 have qa_2:=qa.cell 2
 have qb_0:=qb.cell 0
 have qb_1:=qb.cell 1
 have qb_2:=qb.cell 2
 have qc_0:=qc.cell 0
 have qc_1:=qc.cell 1
 have qc_2:=qc.cell 2
 simp only [List.getElem?_toArray,List.getElem?_cons_zero,List.getElem?_cons_succ] at qa_0 qa_1 qa_2 qb_0 qb_1 qb_2 qc_0 qc_1 qc_2
 have bD:Below W0.heap.size W0 W0.drew:=(Below.refl _ _).drew
 have kqa_0:=below_cell bD qa_0
 have kqa_1:=below_cell bD qa_1
 have kqa_2:=below_cell bD qa_2
 have kqb_0:=below_cell bD qb_0
 have kqb_1:=below_cell bD qb_1
 have kqb_2:=below_cell bD qb_2
 have kqc_0:=below_cell bD qc_0
 have kqc_1:=below_cell bD qc_1
 have kqc_2:=below_cell bD qc_2
 replace hA:=hA.on bD
 replace hB:=hB.on bD
 replace hC:=hC.on bD
 replace bel:=bel.trans (bD.mono bel.size)
 replace qa:=qa.later bD
 replace qb:=qb.later bD
 replace qc:=qc.later bD
 refine wp_region_held_drew (S:=fun w'=>w'.cell? ⟨w.heap.size,0,none⟩=some (.bool A.s)∧w'.cell? ⟨w.heap.size,1,none⟩=some (.slice A.a A.n A.c)∧w'.cell? ⟨w.heap.size,2,none⟩=some (.slice A.b A.m A.e)∧w'.cell? ⟨w.heap.size+1,0,none⟩=some (.bool B.s)∧w'.cell? ⟨w.heap.size+1,1,none⟩=some (.slice B.a B.n B.c)∧w'.cell? ⟨w.heap.size+1,2,none⟩=some (.slice B.b B.m B.e)∧w'.cell? ⟨w.heap.size+1+1,0,none⟩=some (.bool C.s)∧w'.cell? ⟨w.heap.size+1+1,1,none⟩=some (.slice C.a C.n C.c)∧w'.cell? ⟨w.heap.size+1+1,2,none⟩=some (.slice C.b C.m C.e)) (by kernel_rfl) ⟨kqa_0,kqa_1,kqa_2,kqb_0,kqb_1,kqb_2,kqc_0,kqc_1,kqc_2⟩ (fun hHeld=>?_)
 clear kqa_0 kqa_1 kqa_2 kqb_0 kqb_1 kqb_2 kqc_0 kqc_1 kqc_2
 generalize W0.drew=w0F at bD hA hB hC qa qb qc bel hHeld ⊢
 clear bD qa_0 qa_1 qa_2 qb_0 qb_1 qb_2 qc_0 qc_1 qc_2
 refine tk 0 (v:=?_) rfl (Or.inl ⟨by rfl,?_⟩) ?_
 rotate_left
 ·intro w9 hSw
  go_simp
  first | done | with_reducible rfl
 simp only [pP,pN,pS,pZ,pC]
 refine tk 1 (v:=?_) rfl (Or.inl ⟨by rfl,?_⟩) ?_
 rotate_left
 ·intro w9 hSw
  go_simp
  first | done | with_reducible rfl
 simp only [pP,pN,pS,pZ,pC]
 refine tk 4 (v:=?_) rfl (Or.inl ⟨by rfl,?_⟩) ?_
 rotate_left
 ·intro w9 hSw
  go_simp
  first | done | with_reducible rfl
 simp only [pP,pN,pS,pZ,pC]
 refine tk 5 (v:=?_) rfl (Or.inl ⟨by rfl,?_⟩) ?_
 rotate_left
 ·intro w9 hSw
  go_simp
  first | done | with_reducible rfl
 simp only [pP,pN,pS,pZ,pC]
 refine wpAnyH_ready (rs:=[2]) (by kernel_rfl) (by simp) ?_
 refine cons' rfl (fun KK hKK=>?_)
 go_simp
 refine (GSB.out _ hA hB).mono ?_
 rintro e w1 ⟨p1,q1,rfl,b1,o1⟩
 have bC:=b1
 replace hA:=hA.on bC
 replace hB:=hB.on bC
 replace hC:=hC.on bC
 replace bel:=bel.trans (bC.mono bel.size)
 replace qa:=qa.later bC
 replace qb:=qb.later bC
 replace qc:=qc.later bC
 replace hHeld:=(⟨below_cell bC hHeld.1,below_cell bC hHeld.2.1,below_cell bC hHeld.2.2.1,below_cell bC hHeld.2.2.2.1,below_cell bC hHeld.2.2.2.2.1,below_cell bC hHeld.2.2.2.2.2.1,below_cell bC hHeld.2.2.2.2.2.2.1,below_cell bC hHeld.2.2.2.2.2.2.2.1,below_cell bC hHeld.2.2.2.2.2.2.2.2⟩:_∧_∧_∧_∧_∧_∧_∧_∧_)
 clear bC
 go_wp2_with fail
 clear b1
 refine hKK.out _ _ hHeld ?_
 clear hHeld
 intro hHeld
 clear hKK KK
 try simp only [pP,pN,pS,pZ,pC]
 refine wpAnyH_ready (rs:=[3]) (by kernel_rfl) (by simp) ?_
 refine cons' rfl (fun KK hKK=>?_)
 go_simp
 refine (GAB.out _ p1 q1 o1).mono ?_
 rintro e w2 ⟨p2,q2,rfl,b1,o2⟩
 have bC:=b1
 replace hA:=hA.on bC
 replace hB:=hB.on bC
 replace hC:=hC.on bC
 replace o1:=o1.on bC
 replace bel:=bel.trans (bC.mono bel.size)
 replace qa:=qa.later bC
 replace qb:=qb.later bC
 replace qc:=qc.later bC
 replace hHeld:=(⟨below_cell bC hHeld.1,below_cell bC hHeld.2.1,below_cell bC hHeld.2.2.1,below_cell bC hHeld.2.2.2.1,below_cell bC hHeld.2.2.2.2.1,below_cell bC hHeld.2.2.2.2.2.1,below_cell bC hHeld.2.2.2.2.2.2.1,below_cell bC hHeld.2.2.2.2.2.2.2.1,below_cell bC hHeld.2.2.2.2.2.2.2.2⟩:_∧_∧_∧_∧_∧_∧_∧_∧_)
 clear bC
 go_wp2_with fail
 clear b1
 refine hKK.out _ _ hHeld ?_
 clear hHeld
 intro hHeld
 clear hKK KK
 try simp only [pP,pN,pS,pZ,pC]
 refine wpAnyH_ready (rs:=[6]) (by kernel_rfl) (by simp) ?_
 refine cons' rfl (fun KK hKK=>?_)
 go_simp
 refine (GSC.out _ hA hC).mono ?_
 rintro e w3 ⟨p3,q3,rfl,b1,o3⟩
 have bC:=b1
 replace hA:=hA.on bC
 replace hB:=hB.on bC
 replace hC:=hC.on bC
 replace o1:=o1.on bC
 replace o2:=o2.on bC
 replace bel:=bel.trans (bC.mono bel.size)
 replace qa:=qa.later bC
 replace qb:=qb.later bC
 replace qc:=qc.later bC
 replace hHeld:=(⟨below_cell bC hHeld.1,below_cell bC hHeld.2.1,below_cell bC hHeld.2.2.1,below_cell bC hHeld.2.2.2.1,below_cell bC hHeld.2.2.2.2.1,below_cell bC hHeld.2.2.2.2.2.1,below_cell bC hHeld.2.2.2.2.2.2.1,below_cell bC hHeld.2.2.2.2.2.2.2.1,below_cell bC hHeld.2.2.2.2.2.2.2.2⟩:_∧_∧_∧_∧_∧_∧_∧_∧_)
 clear bC
 go_wp2_with fail
 clear b1
 refine hKK.out _ _ hHeld ?_
 clear hHeld
 intro hHeld
 clear hKK KK
 try simp only [pP,pN,pS,pZ,pC]
 refine wpAnyH_ready (rs:=[7]) (by kernel_rfl) (by simp) ?_
 refine cons' rfl (fun KK hKK=>?_)
 go_simp
 refine (GAC.out _ p3 q3 o3).mono ?_
 rintro e w4 ⟨p4,q4,rfl,b1,o4⟩
 have bC:=b1
 replace hA:=hA.on bC
 replace hB:=hB.on bC
 replace hC:=hC.on bC
 replace o1:=o1.on bC
 replace o2:=o2.on bC
 replace o3:=o3.on bC
 replace bel:=bel.trans (bC.mono bel.size)
 replace qa:=qa.later bC
 replace qb:=qb.later bC
 replace qc:=qc.later bC
 replace hHeld:=(⟨below_cell bC hHeld.1,below_cell bC hHeld.2.1,below_cell bC hHeld.2.2.1,below_cell bC hHeld.2.2.2.1,below_cell bC hHeld.2.2.2.2.1,below_cell bC hHeld.2.2.2.2.2.1,below_cell bC hHeld.2.2.2.2.2.2.1,below_cell bC hHeld.2.2.2.2.2.2.2.1,below_cell bC hHeld.2.2.2.2.2.2.2.2⟩:_∧_∧_∧_∧_∧_∧_∧_∧_)
 clear bC
 go_wp2_with fail
 clear b1
 refine hKK.out _ _ hHeld ?_
 clear hHeld
 intro hHeld
 clear hKK KK
 try simp only [pP,pN,pS,pZ,pC]
 refine wpAnyH_ready (rs:=[8]) (by kernel_rfl) (by simp) ?_
 refine cons' rfl (fun KK hKK=>?_)
 go_simp
 refine (G1.out _ p2 q2 p4 q4 o2 o4).mono ?_
 rintro e w5 ⟨rfl,b1⟩
 have bC:=b1
 replace hA:=hA.on bC
 replace hB:=hB.on bC
 replace hC:=hC.on bC
 replace o1:=o1.on bC
 replace o2:=o2.on bC
 replace o3:=o3.on bC
 replace o4:=o4.on bC
 replace bel:=bel.trans (bC.mono bel.size)
 replace qa:=qa.later bC
 replace qb:=qb.later bC
 replace qc:=qc.later bC
 replace hHeld:=(⟨below_cell bC hHeld.1,below_cell bC hHeld.2.1,below_cell bC hHeld.2.2.1,below_cell bC hHeld.2.2.2.1,below_cell bC hHeld.2.2.2.2.1,below_cell bC hHeld.2.2.2.2.2.1,below_cell bC hHeld.2.2.2.2.2.2.1,below_cell bC hHeld.2.2.2.2.2.2.2.1,below_cell bC hHeld.2.2.2.2.2.2.2.2⟩:_∧_∧_∧_∧_∧_∧_∧_∧_)
 clear bC
 go_wp2_with fail
 clear b1
 refine hKK.out _ _ hHeld ?_
 clear hHeld
 intro hHeld
 clear hKK KK
 try simp only [pP,pN,pS,pZ,pC]
 refine tk 9 (v:=?_) rfl (Or.inl ⟨by rfl,?_⟩) ?_
 rotate_left
 ·intro w9 hSw
  go_simp
  first | done | with_reducible rfl
 simp only [pP,pN,pS,pZ,pC]
 refine wpAnyH_done (by kernel_rfl) ?_ _
 skip
 clear o1 o2 o3 o4
 clear GSB GAB GSC GAC G1
 go_upto_region 4 with fail
 have qb_0:=qb.cell 0
 have qb_1:=qb.cell 1
 have qb_2:=qb.cell 2
 have qc_0:=qc.cell 0
 have qc_1:=qc.cell 1
 have qc_2:=qc.cell 2
 simp only [List.getElem?_toArray,List.getElem?_cons_zero,List.getElem?_cons_succ] at qb_0 qb_1 qb_2 qc_0 qc_1 qc_2
 have bD:Below w5.heap.size w5 w5.drew:=(Below.refl _ _).drew
 have kqb_0:=below_cell bD qb_0
 have kqb_1:=below_cell bD qb_1
 have kqb_2:=below_cell bD qb_2
 have kqc_0:=below_cell bD qc_0
 have kqc_1:=below_cell bD qc_1
 have kqc_2:=below_cell bD qc_2
 replace hA:=hA.on bD
 replace hB:=hB.on bD
 replace hC:=hC.on bD
 replace bel:=bel.trans (bD.mono bel.size)
 replace qa:=qa.later bD
 replace qb:=qb.later bD
 replace qc:=qc.later bD
 refine wp_region_held_drew (S:=fun w'=>w'.cell? ⟨w.heap.size+1,0,none⟩=some (.bool B.s)∧w'.cell? ⟨w.heap.size+1,1,none⟩=some (.slice B.a B.n B.c)∧w'.cell? ⟨w.heap.size+1,2,none⟩=some (.slice B.b B.m B.e)∧w'.cell? ⟨w.heap.size+1+1,0,none⟩=some (.bool C.s)∧w'.cell? ⟨w.heap.size+1+1,1,none⟩=some (.slice C.a C.n C.c)∧w'.cell? ⟨w.heap.size+1+1,2,none⟩=some (.slice C.b C.m C.e)) (by kernel_rfl) ⟨kqb_0,kqb_1,kqb_2,kqc_0,kqc_1,kqc_2⟩ (fun hHeld=>?_)
 clear kqb_0 kqb_1 kqb_2 kqc_0 kqc_1 kqc_2
 generalize w5.drew=w0G at bD hA hB hC qa qb qc bel hHeld ⊢
 clear bD qb_0 qb_1 qb_2 qc_0 qc_1 qc_2
 refine tk 0 (v:=?_) rfl (Or.inl ⟨by rfl,?_⟩) ?_
 rotate_left
 ·intro w9 hSw
  go_simp
  first | done | with_reducible rfl
 simp only [pP,pN,pS,pZ,pC]
 refine tk 3 (v:=?_) rfl (Or.inl ⟨by rfl,?_⟩) ?_
 rotate_left
 ·intro w9 hSw
  go_simp
  first | done | with_reducible rfl
 simp only [pP,pN,pS,pZ,pC]
 refine wpAnyH_ready (rs:=[1]) (by kernel_rfl) (by simp) ?_
 refine cons' rfl (fun KK hKK=>?_)
 go_simp
 refine (GNB.out _ hB).mono ?_
 rintro e w6 ⟨p5,q5,rfl,b1,o5⟩
 have bC:=b1
 replace hA:=hA.on bC
 replace hB:=hB.on bC
 replace hC:=hC.on bC
 replace bel:=bel.trans (bC.mono bel.size)
 replace qa:=qa.later bC
 replace qb:=qb.later bC
 replace qc:=qc.later bC
 replace hHeld:=(⟨below_cell bC hHeld.1,below_cell bC hHeld.2.1,below_cell bC hHeld.2.2.1,below_cell bC hHeld.2.2.2.1,below_cell bC hHeld.2.2.2.2.1,below_cell bC hHeld.2.2.2.2.2⟩:_∧_∧_∧_∧_∧_)
 clear bC
 go_wp2_with fail
 clear b1
 refine hKK.out _ _ hHeld ?_
 clear hHeld
 intro hHeld
 clear hKK KK
 try simp only [pP,pN,pS,pZ,pC]
 refine tk 2 (v:=?_) rfl (Or.inl ⟨by rfl,?_⟩) ?_
 rotate_left
 ·intro w9 hSw
  go_simp
  first | done | with_reducible rfl
 simp only [pP,pN,pS,pZ,pC]
 refine wpAnyH_ready (rs:=[4]) (by kernel_rfl) (by simp) ?_
 refine cons' rfl (fun KK hKK=>?_)
 go_simp
 refine (GNC.out _ hC).mono ?_
 rintro e w7 ⟨p6,q6,rfl,b1,o6⟩
 have bC:=b1
 replace hA:=hA.on bC
 replace hB:=hB.on bC
 replace hC:=hC.on bC
 replace o5:=o5.on bC
 replace bel:=bel.trans (bC.mono bel.size)
 replace qa:=qa.later bC
 replace qb:=qb.later bC
 replace qc:=qc.later bC
 replace hHeld:=(⟨below_cell bC hHeld.1,below_cell bC hHeld.2.1,below_cell bC hHeld.2.2.1,below_cell bC hHeld.2.2.2.1,below_cell bC hHeld.2.2.2.2.1,below_cell bC hHeld.2.2.2.2.2⟩:_∧_∧_∧_∧_∧_)
 clear bC
 go_wp2_with fail
 clear b1
 refine hKK.out _ _ hHeld ?_
 clear hHeld
 intro hHeld
 clear hKK KK
 try simp only [pP,pN,pS,pZ,pC]
 refine tk 5 (v:=?_) rfl (Or.inl ⟨by rfl,?_⟩) ?_
 rotate_left
 ·intro w9 hSw
  go_simp
  first | done | with_reducible rfl
 simp only [pP,pN,pS,pZ,pC]
 refine wpAnyH_ready (rs:=[6]) (by kernel_rfl) (by simp) ?_
 refine cons' rfl (fun KK hKK=>?_)
 go_simp
 refine (G2.out _ q5 q6 o5.2.2.2.1 o6.2.2.2.1).mono ?_
 rintro e w8 ⟨rfl,b1⟩
 have bC:=b1
 replace hA:=hA.on bC
 replace hB:=hB.on bC
 replace hC:=hC.on bC
 replace o5:=o5.on bC
 replace o6:=o6.on bC
 replace bel:=bel.trans (bC.mono bel.size)
 replace qa:=qa.later bC
 replace qb:=qb.later bC
 replace qc:=qc.later bC
 replace hHeld:=(⟨below_cell bC hHeld.1,below_cell bC hHeld.2.1,below_cell bC hHeld.2.2.1,below_cell bC hHeld.2.2.2.1,below_cell bC hHeld.2.2.2.2.1,below_cell bC hHeld.2.2.2.2.2⟩:_∧_∧_∧_∧_∧_)
 clear bC
 go_wp2_with fail
 clear b1
 refine hKK.out _ _ hHeld ?_
 clear hHeld
 intro hHeld
 clear hKK KK
 try simp only [pP,pN,pS,pZ,pC]
 refine tk 7 (v:=?_) rfl (Or.inl ⟨by rfl,?_⟩) ?_
 rotate_left
 ·intro w9 hSw
  go_simp
  first | done | with_reducible rfl
 simp only [pP,pN,pS,pZ,pC]
 refine wpAnyH_done (by kernel_rfl) ?_ _
 skip
 clear o5 o6
 clear GNB GNC G2
 go_wp2
 go_ret
 exact ⟨rfl,bel⟩
set_option maxHeartbeats 4000000 in
set_option maxRecDepth 100000 in
theorem vnear_e (A B C:RatV) (w:World) (hA:A.ok w) (hB:B.ok w) (hC:C.ok w) (hn:A.n≤2000000∧A.m≤2000000∧B.n≤2000000∧B.m≤2000000∧C.n≤2000000∧C.m≤2000000) (sA:sz 2000001 A.val) (sB:sz 2000001 B.val) (sC:sz 2000001 C.val) (h1:sR (dsR A.val B.val - dsR A.val C.val)=0) (h2:cmpI B.val.den C.val.den=0) (h3:sR (B.val - C.val)=(-1)) :
  Calls Tryz.prog 21 #[.agg #[.bool A.s,.slice A.a A.n A.c,.slice A.b A.m A.e],.agg #[.bool B.s,.slice B.a B.n B.c,.slice B.b B.m B.e],.agg #[.bool C.s,.slice C.a C.n C.c,.slice C.b C.m C.e]] w fun e w'=>e=.returned (.bool true)∧Below w.heap.size w w':=by
 obtain ⟨SB,hSB⟩:∃ S,A.val - B.val=S:=⟨_,rfl⟩
 obtain ⟨DB,hDB⟩:∃ S,dsR A.val B.val=S:=⟨_,rfl⟩
 have zB:sz 100000000 SB:=by rw [←hSB];exact (sz_subY sA sB).mono (by omega)
 have zDB:sz 100000000 DB:=by rw [←hDB];exact (sz_ds sA sB).mono (by omega)
 have GSB:=hide' (fun w' k1 k2=>vsubQ A B SB w' k1 k2 (by omega) hSB zB)
 have GAB:=hide' (fun w' p q (k1:(nR SB p q).ok w')=>vabsQ (nR SB p q) DB w' k1 (by rw [nR_val,←hSB,absR_dsR2];exact hDB) zDB ⟨zB.1,zB.2⟩)
 obtain ⟨SC,hSC⟩:∃ S,A.val - C.val=S:=⟨_,rfl⟩
 obtain ⟨DC,hDC⟩:∃ S,dsR A.val C.val=S:=⟨_,rfl⟩
 have zC:sz 100000000 SC:=by rw [←hSC];exact (sz_subY sA sC).mono (by omega)
 have zDC:sz 100000000 DC:=by rw [←hDC];exact (sz_ds sA sC).mono (by omega)
 have GSC:=hide' (fun w' k1 k2=>vsubQ A C SC w' k1 k2 (by omega) hSC zC)
 have GAC:=hide' (fun w' p q (k1:(nR SC p q).ok w')=>vabsQ (nR SC p q) DC w' k1 (by rw [nR_val,←hSC,absR_dsR2];exact hDC) zDC ⟨zC.1,zC.2⟩)
 rw [hDB,hDC] at h1
 have G1:=hide' (fun w' p q p1 q1 (k1:(nR DB p q).ok w') (k2:(nR DC p1 q1).ok w')=>vcmpQ (nR DB p q) (nR DC p1 q1) w' k1 k2 ⟨zDB.1,zDB.2,zDC.1,zDC.2⟩ 0 (by rw [nR_val,nR_val];exact h1))
 have GNB:=hide' (fun w' k1=>vnormQ B B.val w' k1 rfl (sB.mono (by omega)))
 have GNC:=hide' (fun w' k1=>vnormQ C C.val w' k1 rfl (sC.mono (by omega)))
 have G2:=hide' (fun w' q q1 (k1:Seg w' q B.val.den (ln B.val.den)) (k2:Seg w' q1 C.val.den (ln C.val.den))=>(rCmp_any q q1 (ln B.val.den) (ln B.val.den) B.val.den (ln C.val.den) (ln C.val.den) C.val.den w' (Nat.le_trans sB.2 (by omega)) k1 (Nat.le_trans sC.2 (by omega)) k2).mono (fun e w2 h=>(show e=.returned (.int .i64 (cmpI B.val.den C.val.den))∧Below w'.heap.size w' w2 from ⟨h.1,h.2 ▸ Below.refl _ _⟩)))
 rw [h2] at G2
 have G3:=hide' (fun w' k1 k2=>vcmpQ B C w' k1 k2 (by omega) (-1) h3)
 clear h1 hDB hDC hSB hSC h2 h3
 have hf:=run_fieldR
 have bel:Below w.heap.size w w:=Below.refl _ _
 have bb:=below_alloc (w:=w) (.cells #[.bool A.s,.slice A.a A.n A.c,.slice A.b A.m A.e] 27)
 replace hA:=hA.on bb
 replace hB:=hB.on bb
 replace hC:=hC.on bb
 replace bel:=bel.trans (bb.mono bel.size)
 clear bb
 have qa:=Blk.new w #[.bool A.s,.slice A.a A.n A.c,.slice A.b A.m A.e] 27
 have bb:=below_alloc (w:=(w.alloc (.cells #[.bool A.s,.slice A.a A.n A.c,.slice A.b A.m A.e] 27))) (.cells #[.bool B.s,.slice B.a B.n B.c,.slice B.b B.m B.e] 27)
 replace qa:=qa.later bb
 replace hA:=hA.on bb
 replace hB:=hB.on bb
 replace hC:=hC.on bb
 replace bel:=bel.trans (bb.mono bel.size)
 clear bb
 have qb:=Blk.new (w.alloc (.cells #[.bool A.s,.slice A.a A.n A.c,.slice A.b A.m A.e] 27)) #[.bool B.s,.slice B.a B.n B.c,.slice B.b B.m B.e] 27
 simp only [World.size_alloc] at qb
 have bb:=below_alloc (w:=((w.alloc (.cells #[.bool A.s,.slice A.a A.n A.c,.slice A.b A.m A.e] 27)).alloc (.cells #[.bool B.s,.slice B.a B.n B.c,.slice B.b B.m B.e] 27))) (.cells #[.bool C.s,.slice C.a C.n C.c,.slice C.b C.m C.e] 27)
 replace qa:=qa.later bb
 replace qb:=qb.later bb
 replace hA:=hA.on bb
 replace hB:=hB.on bb
 replace hC:=hC.on bb
 replace bel:=bel.trans (bb.mono bel.size)
 clear bb
 have qc:=Blk.new ((w.alloc (.cells #[.bool A.s,.slice A.a A.n A.c,.slice A.b A.m A.e] 27)).alloc (.cells #[.bool B.s,.slice B.a B.n B.c,.slice B.b B.m B.e] 27)) #[.bool C.s,.slice C.a C.n C.c,.slice C.b C.m C.e] 27
 simp only [World.size_alloc] at qc
 go_enter Tryz.func21,Tryz.ntmps21
 go_wp2_with fail
 obtain ⟨W0,hW⟩:∃ W,(((w.alloc (.cells #[.bool A.s,.slice A.a A.n A.c,.slice A.b A.m A.e] 27)).alloc (.cells #[.bool B.s,.slice B.a B.n B.c,.slice B.b B.m B.e] 27)).alloc (.cells #[.bool C.s,.slice C.a C.n C.c,.slice C.b C.m C.e] 27))=W:=⟨_,rfl⟩
 rw [hW] at bel qa qb qc hA hB hC ⊢
 clear hW
 have qa_0:=qa.cell 0
 have qa_1:=qa.cell 1
 have qa_2:=qa.cell 2
 have qb_0:=qb.cell 0
 have qb_1:=qb.cell 1
 have qb_2:=qb.cell 2
 have qc_0:=qc.cell 0
 have qc_1:=qc.cell 1
 have qc_2:=qc.cell 2
 simp only [List.getElem?_toArray,List.getElem?_cons_zero,List.getElem?_cons_succ] at qa_0 qa_1 qa_2 qb_0 qb_1 qb_2 qc_0 qc_1 qc_2
 have bD:Below W0.heap.size W0 W0.drew:=(Below.refl _ _).drew
 have kqa_0:=below_cell bD qa_0
 have kqa_1:=below_cell bD qa_1
 have kqa_2:=below_cell bD qa_2
 have kqb_0:=below_cell bD qb_0
 have kqb_1:=below_cell bD qb_1
 have kqb_2:=below_cell bD qb_2
 have kqc_0:=below_cell bD qc_0
 have kqc_1:=below_cell bD qc_1
 have kqc_2:=below_cell bD qc_2
 replace hA:=hA.on bD
 replace hB:=hB.on bD
 replace hC:=hC.on bD
 replace bel:=bel.trans (bD.mono bel.size)
 replace qa:=qa.later bD
 replace qb:=qb.later bD
 replace qc:=qc.later bD
 refine wp_region_held_drew (S:=fun w'=>w'.cell? ⟨w.heap.size,0,none⟩=some (.bool A.s)∧w'.cell? ⟨w.heap.size,1,none⟩=some (.slice A.a A.n A.c)∧w'.cell? ⟨w.heap.size,2,none⟩=some (.slice A.b A.m A.e)∧w'.cell? ⟨w.heap.size+1,0,none⟩=some (.bool B.s)∧w'.cell? ⟨w.heap.size+1,1,none⟩=some (.slice B.a B.n B.c)∧w'.cell? ⟨w.heap.size+1,2,none⟩=some (.slice B.b B.m B.e)∧w'.cell? ⟨w.heap.size+1+1,0,none⟩=some (.bool C.s)∧w'.cell? ⟨w.heap.size+1+1,1,none⟩=some (.slice C.a C.n C.c)∧w'.cell? ⟨w.heap.size+1+1,2,none⟩=some (.slice C.b C.m C.e)) (by kernel_rfl) ⟨kqa_0,kqa_1,kqa_2,kqb_0,kqb_1,kqb_2,kqc_0,kqc_1,kqc_2⟩ (fun hHeld=>?_)
 clear kqa_0 kqa_1 kqa_2 kqb_0 kqb_1 kqb_2 kqc_0 kqc_1 kqc_2
 generalize W0.drew=w0F at bD hA hB hC qa qb qc bel hHeld ⊢
 clear bD qa_0 qa_1 qa_2 qb_0 qb_1 qb_2 qc_0 qc_1 qc_2
 refine tk 0 (v:=?_) rfl (Or.inl ⟨by rfl,?_⟩) ?_
 rotate_left
 ·intro w9 hSw
  go_simp
  first | done | with_reducible rfl
 simp only [pP,pN,pS,pZ,pC]
 refine tk 1 (v:=?_) rfl (Or.inl ⟨by rfl,?_⟩) ?_
 rotate_left
 ·intro w9 hSw
  go_simp
  first | done | with_reducible rfl
 simp only [pP,pN,pS,pZ,pC]
 refine tk 4 (v:=?_) rfl (Or.inl ⟨by rfl,?_⟩) ?_
 rotate_left
 ·intro w9 hSw
  go_simp
  first | done | with_reducible rfl
 simp only [pP,pN,pS,pZ,pC]
 refine tk 5 (v:=?_) rfl (Or.inl ⟨by rfl,?_⟩) ?_
 rotate_left
 ·intro w9 hSw
  go_simp
  first | done | with_reducible rfl
 simp only [pP,pN,pS,pZ,pC]
 refine wpAnyH_ready (rs:=[2]) (by kernel_rfl) (by simp) ?_
 refine cons' rfl (fun KK hKK=>?_)
 go_simp
 refine (GSB.out _ hA hB).mono ?_
 rintro e w1 ⟨p1,q1,rfl,b1,o1⟩
 have bC:=b1
 replace hA:=hA.on bC
 replace hB:=hB.on bC
 replace hC:=hC.on bC
 replace bel:=bel.trans (bC.mono bel.size)
 replace qa:=qa.later bC
 replace qb:=qb.later bC
 replace qc:=qc.later bC
 replace hHeld:=(⟨below_cell bC hHeld.1,below_cell bC hHeld.2.1,below_cell bC hHeld.2.2.1,below_cell bC hHeld.2.2.2.1,below_cell bC hHeld.2.2.2.2.1,below_cell bC hHeld.2.2.2.2.2.1,below_cell bC hHeld.2.2.2.2.2.2.1,below_cell bC hHeld.2.2.2.2.2.2.2.1,below_cell bC hHeld.2.2.2.2.2.2.2.2⟩:_∧_∧_∧_∧_∧_∧_∧_∧_)
 clear bC
 go_wp2_with fail
 clear b1
 refine hKK.out _ _ hHeld ?_
 clear hHeld
 intro hHeld
 clear hKK KK
 try simp only [pP,pN,pS,pZ,pC]
 refine wpAnyH_ready (rs:=[3]) (by kernel_rfl) (by simp) ?_
 refine cons' rfl (fun KK hKK=>?_)
 go_simp
 refine (GAB.out _ p1 q1 o1).mono ?_
 rintro e w2 ⟨p2,q2,rfl,b1,o2⟩
 have bC:=b1
 replace hA:=hA.on bC
 replace hB:=hB.on bC
 replace hC:=hC.on bC
 replace o1:=o1.on bC
 replace bel:=bel.trans (bC.mono bel.size)
 replace qa:=qa.later bC
 replace qb:=qb.later bC
 replace qc:=qc.later bC
 replace hHeld:=(⟨below_cell bC hHeld.1,below_cell bC hHeld.2.1,below_cell bC hHeld.2.2.1,below_cell bC hHeld.2.2.2.1,below_cell bC hHeld.2.2.2.2.1,below_cell bC hHeld.2.2.2.2.2.1,below_cell bC hHeld.2.2.2.2.2.2.1,below_cell bC hHeld.2.2.2.2.2.2.2.1,below_cell bC hHeld.2.2.2.2.2.2.2.2⟩:_∧_∧_∧_∧_∧_∧_∧_∧_)
 clear bC
 go_wp2_with fail
 clear b1
 refine hKK.out _ _ hHeld ?_
 clear hHeld
 intro hHeld
 clear hKK KK
 try simp only [pP,pN,pS,pZ,pC]
 refine wpAnyH_ready (rs:=[6]) (by kernel_rfl) (by simp) ?_
 refine cons' rfl (fun KK hKK=>?_)
 go_simp
 refine (GSC.out _ hA hC).mono ?_
 rintro e w3 ⟨p3,q3,rfl,b1,o3⟩
 have bC:=b1
 replace hA:=hA.on bC
 replace hB:=hB.on bC
 replace hC:=hC.on bC
 replace o1:=o1.on bC
 replace o2:=o2.on bC
 replace bel:=bel.trans (bC.mono bel.size)
 replace qa:=qa.later bC
 replace qb:=qb.later bC
 replace qc:=qc.later bC
 replace hHeld:=(⟨below_cell bC hHeld.1,below_cell bC hHeld.2.1,below_cell bC hHeld.2.2.1,below_cell bC hHeld.2.2.2.1,below_cell bC hHeld.2.2.2.2.1,below_cell bC hHeld.2.2.2.2.2.1,below_cell bC hHeld.2.2.2.2.2.2.1,below_cell bC hHeld.2.2.2.2.2.2.2.1,below_cell bC hHeld.2.2.2.2.2.2.2.2⟩:_∧_∧_∧_∧_∧_∧_∧_∧_)
 clear bC
 go_wp2_with fail
 clear b1
 refine hKK.out _ _ hHeld ?_
 clear hHeld
 intro hHeld
 clear hKK KK
 try simp only [pP,pN,pS,pZ,pC]
 refine wpAnyH_ready (rs:=[7]) (by kernel_rfl) (by simp) ?_
 refine cons' rfl (fun KK hKK=>?_)
 go_simp
 refine (GAC.out _ p3 q3 o3).mono ?_
 rintro e w4 ⟨p4,q4,rfl,b1,o4⟩
 have bC:=b1
 replace hA:=hA.on bC
 replace hB:=hB.on bC
 replace hC:=hC.on bC
 replace o1:=o1.on bC
 replace o2:=o2.on bC
 replace o3:=o3.on bC
 replace bel:=bel.trans (bC.mono bel.size)
 replace qa:=qa.later bC
 replace qb:=qb.later bC
 replace qc:=qc.later bC
 replace hHeld:=(⟨below_cell bC hHeld.1,below_cell bC hHeld.2.1,below_cell bC hHeld.2.2.1,below_cell bC hHeld.2.2.2.1,below_cell bC hHeld.2.2.2.2.1,below_cell bC hHeld.2.2.2.2.2.1,below_cell bC hHeld.2.2.2.2.2.2.1,below_cell bC hHeld.2.2.2.2.2.2.2.1,below_cell bC hHeld.2.2.2.2.2.2.2.2⟩:_∧_∧_∧_∧_∧_∧_∧_∧_)
 clear bC
 go_wp2_with fail
 clear b1
 refine hKK.out _ _ hHeld ?_
 clear hHeld
 intro hHeld
 clear hKK KK
 try simp only [pP,pN,pS,pZ,pC]
 refine wpAnyH_ready (rs:=[8]) (by kernel_rfl) (by simp) ?_
 refine cons' rfl (fun KK hKK=>?_)
 go_simp
 refine (G1.out _ p2 q2 p4 q4 o2 o4).mono ?_
 rintro e w5 ⟨rfl,b1⟩
 have bC:=b1
 replace hA:=hA.on bC
 replace hB:=hB.on bC
 replace hC:=hC.on bC
 replace o1:=o1.on bC
 replace o2:=o2.on bC
 replace o3:=o3.on bC
 replace o4:=o4.on bC
 replace bel:=bel.trans (bC.mono bel.size)
 replace qa:=qa.later bC
 replace qb:=qb.later bC
 replace qc:=qc.later bC
 replace hHeld:=(⟨below_cell bC hHeld.1,below_cell bC hHeld.2.1,below_cell bC hHeld.2.2.1,below_cell bC hHeld.2.2.2.1,below_cell bC hHeld.2.2.2.2.1,below_cell bC hHeld.2.2.2.2.2.1,below_cell bC hHeld.2.2.2.2.2.2.1,below_cell bC hHeld.2.2.2.2.2.2.2.1,below_cell bC hHeld.2.2.2.2.2.2.2.2⟩:_∧_∧_∧_∧_∧_∧_∧_∧_)
 clear bC
 go_wp2_with fail
 clear b1
 refine hKK.out _ _ hHeld ?_
 clear hHeld
 intro hHeld
 clear hKK KK
 try simp only [pP,pN,pS,pZ,pC]
 refine tk 9 (v:=?_) rfl (Or.inl ⟨by rfl,?_⟩) ?_
 rotate_left
 ·intro w9 hSw
  go_simp
  first | done | with_reducible rfl
 simp only [pP,pN,pS,pZ,pC]
 refine wpAnyH_done (by kernel_rfl) ?_ _
 skip
 clear o1 o2 o3 o4
 clear GSB GAB GSC GAC G1
 go_upto_region 4 with fail
 have qb_0:=qb.cell 0
 have qb_1:=qb.cell 1
 have qb_2:=qb.cell 2
 have qc_0:=qc.cell 0
 have qc_1:=qc.cell 1
 have qc_2:=qc.cell 2
 simp only [List.getElem?_toArray,List.getElem?_cons_zero,List.getElem?_cons_succ] at qb_0 qb_1 qb_2 qc_0 qc_1 qc_2
 have bD:Below w5.heap.size w5 w5.drew:=(Below.refl _ _).drew
 have kqb_0:=below_cell bD qb_0
 have kqb_1:=below_cell bD qb_1
 have kqb_2:=below_cell bD qb_2
 have kqc_0:=below_cell bD qc_0
 have kqc_1:=below_cell bD qc_1
 have kqc_2:=below_cell bD qc_2
 replace hA:=hA.on bD
 replace hB:=hB.on bD
 replace hC:=hC.on bD
 replace bel:=bel.trans (bD.mono bel.size)
 replace qa:=qa.later bD
 replace qb:=qb.later bD
 replace qc:=qc.later bD
 refine wp_region_held_drew (S:=fun w'=>w'.cell? ⟨w.heap.size+1,0,none⟩=some (.bool B.s)∧w'.cell? ⟨w.heap.size+1,1,none⟩=some (.slice B.a B.n B.c)∧w'.cell? ⟨w.heap.size+1,2,none⟩=some (.slice B.b B.m B.e)∧w'.cell? ⟨w.heap.size+1+1,0,none⟩=some (.bool C.s)∧w'.cell? ⟨w.heap.size+1+1,1,none⟩=some (.slice C.a C.n C.c)∧w'.cell? ⟨w.heap.size+1+1,2,none⟩=some (.slice C.b C.m C.e)) (by kernel_rfl) ⟨kqb_0,kqb_1,kqb_2,kqc_0,kqc_1,kqc_2⟩ (fun hHeld=>?_)
 clear kqb_0 kqb_1 kqb_2 kqc_0 kqc_1 kqc_2
 generalize w5.drew=w0G at bD hA hB hC qa qb qc bel hHeld ⊢
 clear bD qb_0 qb_1 qb_2 qc_0 qc_1 qc_2
 refine tk 0 (v:=?_) rfl (Or.inl ⟨by rfl,?_⟩) ?_
 rotate_left
 ·intro w9 hSw
  go_simp
  first | done | with_reducible rfl
 simp only [pP,pN,pS,pZ,pC]
 refine tk 3 (v:=?_) rfl (Or.inl ⟨by rfl,?_⟩) ?_
 rotate_left
 ·intro w9 hSw
  go_simp
  first | done | with_reducible rfl
 simp only [pP,pN,pS,pZ,pC]
 refine wpAnyH_ready (rs:=[1]) (by kernel_rfl) (by simp) ?_
 refine cons' rfl (fun KK hKK=>?_)
 go_simp
 refine (GNB.out _ hB).mono ?_
 rintro e w6 ⟨p5,q5,rfl,b1,o5⟩
 have bC:=b1
 replace hA:=hA.on bC
 replace hB:=hB.on bC
 replace hC:=hC.on bC
 replace bel:=bel.trans (bC.mono bel.size)
 replace qa:=qa.later bC
 replace qb:=qb.later bC
 replace qc:=qc.later bC
 replace hHeld:=(⟨below_cell bC hHeld.1,below_cell bC hHeld.2.1,below_cell bC hHeld.2.2.1,below_cell bC hHeld.2.2.2.1,below_cell bC hHeld.2.2.2.2.1,below_cell bC hHeld.2.2.2.2.2⟩:_∧_∧_∧_∧_∧_)
 clear bC
 go_wp2_with fail
 clear b1
 refine hKK.out _ _ hHeld ?_
 clear hHeld
 intro hHeld
 clear hKK KK
 try simp only [pP,pN,pS,pZ,pC]
 refine tk 2 (v:=?_) rfl (Or.inl ⟨by rfl,?_⟩) ?_
 rotate_left
 ·intro w9 hSw
  go_simp
  first | done | with_reducible rfl
 simp only [pP,pN,pS,pZ,pC]
 refine wpAnyH_ready (rs:=[4]) (by kernel_rfl) (by simp) ?_
 refine cons' rfl (fun KK hKK=>?_)
 go_simp
 refine (GNC.out _ hC).mono ?_
 rintro e w7 ⟨p6,q6,rfl,b1,o6⟩
 have bC:=b1
 replace hA:=hA.on bC
 replace hB:=hB.on bC
 replace hC:=hC.on bC
 replace o5:=o5.on bC
 replace bel:=bel.trans (bC.mono bel.size)
 replace qa:=qa.later bC
 replace qb:=qb.later bC
 replace qc:=qc.later bC
 replace hHeld:=(⟨below_cell bC hHeld.1,below_cell bC hHeld.2.1,below_cell bC hHeld.2.2.1,below_cell bC hHeld.2.2.2.1,below_cell bC hHeld.2.2.2.2.1,below_cell bC hHeld.2.2.2.2.2⟩:_∧_∧_∧_∧_∧_)
 clear bC
 go_wp2_with fail
 clear b1
 refine hKK.out _ _ hHeld ?_
 clear hHeld
 intro hHeld
 clear hKK KK
 try simp only [pP,pN,pS,pZ,pC]
 refine tk 5 (v:=?_) rfl (Or.inl ⟨by rfl,?_⟩) ?_
 rotate_left
 ·intro w9 hSw
  go_simp
  first | done | with_reducible rfl
 simp only [pP,pN,pS,pZ,pC]
 refine wpAnyH_ready (rs:=[6]) (by kernel_rfl) (by simp) ?_
 refine cons' rfl (fun KK hKK=>?_)
 go_simp
 refine (G2.out _ q5 q6 o5.2.2.2.1 o6.2.2.2.1).mono ?_
 rintro e w8 ⟨rfl,b1⟩
 have bC:=b1
 replace hA:=hA.on bC
 replace hB:=hB.on bC
 replace hC:=hC.on bC
 replace o5:=o5.on bC
 replace o6:=o6.on bC
 replace bel:=bel.trans (bC.mono bel.size)
 replace qa:=qa.later bC
 replace qb:=qb.later bC
 replace qc:=qc.later bC
 replace hHeld:=(⟨below_cell bC hHeld.1,below_cell bC hHeld.2.1,below_cell bC hHeld.2.2.1,below_cell bC hHeld.2.2.2.1,below_cell bC hHeld.2.2.2.2.1,below_cell bC hHeld.2.2.2.2.2⟩:_∧_∧_∧_∧_∧_)
 clear bC
 go_wp2_with fail
 clear b1
 refine hKK.out _ _ hHeld ?_
 clear hHeld
 intro hHeld
 clear hKK KK
 try simp only [pP,pN,pS,pZ,pC]
 refine tk 7 (v:=?_) rfl (Or.inl ⟨by rfl,?_⟩) ?_
 rotate_left
 ·intro w9 hSw
  go_simp
  first | done | with_reducible rfl
 simp only [pP,pN,pS,pZ,pC]
 refine wpAnyH_done (by kernel_rfl) ?_ _
 skip
 clear o5 o6
 clear GNB GNC G2
 go_upto_region 7 with fail
 have qb_0:=qb.cell 0
 have qb_1:=qb.cell 1
 have qb_2:=qb.cell 2
 have qc_0:=qc.cell 0
 have qc_1:=qc.cell 1
 have qc_2:=qc.cell 2
 simp only [List.getElem?_toArray,List.getElem?_cons_zero,List.getElem?_cons_succ] at qb_0 qb_1 qb_2 qc_0 qc_1 qc_2
 go_wp2_with fail
 clear qb_0 qb_1 qb_2 qc_0 qc_1 qc_2
 refine (G3.out _ hB hC).mono ?_
 rintro e w9 ⟨rfl,b1⟩
 have bb:=b1
 replace qa:=qa.later bb
 replace qb:=qb.later bb
 replace qc:=qc.later bb
 replace hA:=hA.on bb
 replace hB:=hB.on bb
 replace hC:=hC.on bb
 replace bel:=bel.trans (bb.mono bel.size)
 clear bb
 clear b1
 go_wp2
 go_ret
 exact ⟨rfl,bel⟩
set_option maxHeartbeats 4000000 in
set_option maxRecDepth 100000 in
theorem vnear_f (A B C:RatV) (w:World) (hA:A.ok w) (hB:B.ok w) (hC:C.ok w) (hn:A.n≤2000000∧A.m≤2000000∧B.n≤2000000∧B.m≤2000000∧C.n≤2000000∧C.m≤2000000) (sA:sz 2000001 A.val) (sB:sz 2000001 B.val) (sC:sz 2000001 C.val) (h1:sR (dsR A.val B.val - dsR A.val C.val)=0) (h2:cmpI B.val.den C.val.den=0) (h3:sR (B.val - C.val)=0) :
  Calls Tryz.prog 21 #[.agg #[.bool A.s,.slice A.a A.n A.c,.slice A.b A.m A.e],.agg #[.bool B.s,.slice B.a B.n B.c,.slice B.b B.m B.e],.agg #[.bool C.s,.slice C.a C.n C.c,.slice C.b C.m C.e]] w fun e w'=>e=.returned (.bool false)∧Below w.heap.size w w':=by
 obtain ⟨SB,hSB⟩:∃ S,A.val - B.val=S:=⟨_,rfl⟩
 obtain ⟨DB,hDB⟩:∃ S,dsR A.val B.val=S:=⟨_,rfl⟩
 have zB:sz 100000000 SB:=by rw [←hSB];exact (sz_subY sA sB).mono (by omega)
 have zDB:sz 100000000 DB:=by rw [←hDB];exact (sz_ds sA sB).mono (by omega)
 have GSB:=hide' (fun w' k1 k2=>vsubQ A B SB w' k1 k2 (by omega) hSB zB)
 have GAB:=hide' (fun w' p q (k1:(nR SB p q).ok w')=>vabsQ (nR SB p q) DB w' k1 (by rw [nR_val,←hSB,absR_dsR2];exact hDB) zDB ⟨zB.1,zB.2⟩)
 obtain ⟨SC,hSC⟩:∃ S,A.val - C.val=S:=⟨_,rfl⟩
 obtain ⟨DC,hDC⟩:∃ S,dsR A.val C.val=S:=⟨_,rfl⟩
 have zC:sz 100000000 SC:=by rw [←hSC];exact (sz_subY sA sC).mono (by omega)
 have zDC:sz 100000000 DC:=by rw [←hDC];exact (sz_ds sA sC).mono (by omega)
 have GSC:=hide' (fun w' k1 k2=>vsubQ A C SC w' k1 k2 (by omega) hSC zC)
 have GAC:=hide' (fun w' p q (k1:(nR SC p q).ok w')=>vabsQ (nR SC p q) DC w' k1 (by rw [nR_val,←hSC,absR_dsR2];exact hDC) zDC ⟨zC.1,zC.2⟩)
 rw [hDB,hDC] at h1
 have G1:=hide' (fun w' p q p1 q1 (k1:(nR DB p q).ok w') (k2:(nR DC p1 q1).ok w')=>vcmpQ (nR DB p q) (nR DC p1 q1) w' k1 k2 ⟨zDB.1,zDB.2,zDC.1,zDC.2⟩ 0 (by rw [nR_val,nR_val];exact h1))
 have GNB:=hide' (fun w' k1=>vnormQ B B.val w' k1 rfl (sB.mono (by omega)))
 have GNC:=hide' (fun w' k1=>vnormQ C C.val w' k1 rfl (sC.mono (by omega)))
 have G2:=hide' (fun w' q q1 (k1:Seg w' q B.val.den (ln B.val.den)) (k2:Seg w' q1 C.val.den (ln C.val.den))=>(rCmp_any q q1 (ln B.val.den) (ln B.val.den) B.val.den (ln C.val.den) (ln C.val.den) C.val.den w' (Nat.le_trans sB.2 (by omega)) k1 (Nat.le_trans sC.2 (by omega)) k2).mono (fun e w2 h=>(show e=.returned (.int .i64 (cmpI B.val.den C.val.den))∧Below w'.heap.size w' w2 from ⟨h.1,h.2 ▸ Below.refl _ _⟩)))
 rw [h2] at G2
 have G3:=hide' (fun w' k1 k2=>vcmpQ B C w' k1 k2 (by omega) 0 h3)
 clear h1 hDB hDC hSB hSC h2 h3
 have hf:=run_fieldR
 have bel:Below w.heap.size w w:=Below.refl _ _
 have bb:=below_alloc (w:=w) (.cells #[.bool A.s,.slice A.a A.n A.c,.slice A.b A.m A.e] 27)
 replace hA:=hA.on bb
 replace hB:=hB.on bb
 replace hC:=hC.on bb
 replace bel:=bel.trans (bb.mono bel.size)
 clear bb
 have qa:=Blk.new w #[.bool A.s,.slice A.a A.n A.c,.slice A.b A.m A.e] 27
 have bb:=below_alloc (w:=(w.alloc (.cells #[.bool A.s,.slice A.a A.n A.c,.slice A.b A.m A.e] 27))) (.cells #[.bool B.s,.slice B.a B.n B.c,.slice B.b B.m B.e] 27)
 replace qa:=qa.later bb
 replace hA:=hA.on bb
 replace hB:=hB.on bb
 replace hC:=hC.on bb
 replace bel:=bel.trans (bb.mono bel.size)
 clear bb
 have qb:=Blk.new (w.alloc (.cells #[.bool A.s,.slice A.a A.n A.c,.slice A.b A.m A.e] 27)) #[.bool B.s,.slice B.a B.n B.c,.slice B.b B.m B.e] 27
 simp only [World.size_alloc] at qb
 have bb:=below_alloc (w:=((w.alloc (.cells #[.bool A.s,.slice A.a A.n A.c,.slice A.b A.m A.e] 27)).alloc (.cells #[.bool B.s,.slice B.a B.n B.c,.slice B.b B.m B.e] 27))) (.cells #[.bool C.s,.slice C.a C.n C.c,.slice C.b C.m C.e] 27)
 replace qa:=qa.later bb
 replace qb:=qb.later bb
 replace hA:=hA.on bb
 replace hB:=hB.on bb
 replace hC:=hC.on bb
 replace bel:=bel.trans (bb.mono bel.size)
 clear bb
 have qc:=Blk.new ((w.alloc (.cells #[.bool A.s,.slice A.a A.n A.c,.slice A.b A.m A.e] 27)).alloc (.cells #[.bool B.s,.slice B.a B.n B.c,.slice B.b B.m B.e] 27)) #[.bool C.s,.slice C.a C.n C.c,.slice C.b C.m C.e] 27
 simp only [World.size_alloc] at qc
 go_enter Tryz.func21,Tryz.ntmps21
 go_wp2_with fail
 obtain ⟨W0,hW⟩:∃ W,(((w.alloc (.cells #[.bool A.s,.slice A.a A.n A.c,.slice A.b A.m A.e] 27)).alloc (.cells #[.bool B.s,.slice B.a B.n B.c,.slice B.b B.m B.e] 27)).alloc (.cells #[.bool C.s,.slice C.a C.n C.c,.slice C.b C.m C.e] 27))=W:=⟨_,rfl⟩
 rw [hW] at bel qa qb qc hA hB hC ⊢
 clear hW
 have qa_0:=qa.cell 0
 have qa_1:=qa.cell 1
 have qa_2:=qa.cell 2
 have qb_0:=qb.cell 0
 have qb_1:=qb.cell 1
 have qb_2:=qb.cell 2
 have qc_0:=qc.cell 0
 have qc_1:=qc.cell 1
 have qc_2:=qc.cell 2
 simp only [List.getElem?_toArray,List.getElem?_cons_zero,List.getElem?_cons_succ] at qa_0 qa_1 qa_2 qb_0 qb_1 qb_2 qc_0 qc_1 qc_2
 have bD:Below W0.heap.size W0 W0.drew:=(Below.refl _ _).drew
 have kqa_0:=below_cell bD qa_0
 have kqa_1:=below_cell bD qa_1
 have kqa_2:=below_cell bD qa_2
 have kqb_0:=below_cell bD qb_0
 have kqb_1:=below_cell bD qb_1
 have kqb_2:=below_cell bD qb_2
 have kqc_0:=below_cell bD qc_0
 have kqc_1:=below_cell bD qc_1
 have kqc_2:=below_cell bD qc_2
 replace hA:=hA.on bD
 replace hB:=hB.on bD
 replace hC:=hC.on bD
 replace bel:=bel.trans (bD.mono bel.size)
 replace qa:=qa.later bD
 replace qb:=qb.later bD
 replace qc:=qc.later bD
 refine wp_region_held_drew (S:=fun w'=>w'.cell? ⟨w.heap.size,0,none⟩=some (.bool A.s)∧w'.cell? ⟨w.heap.size,1,none⟩=some (.slice A.a A.n A.c)∧w'.cell? ⟨w.heap.size,2,none⟩=some (.slice A.b A.m A.e)∧w'.cell? ⟨w.heap.size+1,0,none⟩=some (.bool B.s)∧w'.cell? ⟨w.heap.size+1,1,none⟩=some (.slice B.a B.n B.c)∧w'.cell? ⟨w.heap.size+1,2,none⟩=some (.slice B.b B.m B.e)∧w'.cell? ⟨w.heap.size+1+1,0,none⟩=some (.bool C.s)∧w'.cell? ⟨w.heap.size+1+1,1,none⟩=some (.slice C.a C.n C.c)∧w'.cell? ⟨w.heap.size+1+1,2,none⟩=some (.slice C.b C.m C.e)) (by kernel_rfl) ⟨kqa_0,kqa_1,kqa_2,kqb_0,kqb_1,kqb_2,kqc_0,kqc_1,kqc_2⟩ (fun hHeld=>?_)
 clear kqa_0 kqa_1 kqa_2 kqb_0 kqb_1 kqb_2 kqc_0 kqc_1 kqc_2
 generalize W0.drew=w0F at bD hA hB hC qa qb qc bel hHeld ⊢
 clear bD qa_0 qa_1 qa_2 qb_0 qb_1 qb_2 qc_0 qc_1 qc_2
 refine tk 0 (v:=?_) rfl (Or.inl ⟨by rfl,?_⟩) ?_
 rotate_left
 ·intro w9 hSw
  go_simp
  first | done | with_reducible rfl
 simp only [pP,pN,pS,pZ,pC]
 refine tk 1 (v:=?_) rfl (Or.inl ⟨by rfl,?_⟩) ?_
 rotate_left
 ·intro w9 hSw
  go_simp
  first | done | with_reducible rfl
 simp only [pP,pN,pS,pZ,pC]
 refine tk 4 (v:=?_) rfl (Or.inl ⟨by rfl,?_⟩) ?_
 rotate_left
 ·intro w9 hSw
  go_simp
  first | done | with_reducible rfl
 simp only [pP,pN,pS,pZ,pC]
 refine tk 5 (v:=?_) rfl (Or.inl ⟨by rfl,?_⟩) ?_
 rotate_left
 ·intro w9 hSw
  go_simp
  first | done | with_reducible rfl
 simp only [pP,pN,pS,pZ,pC]
 refine wpAnyH_ready (rs:=[2]) (by kernel_rfl) (by simp) ?_
 refine cons' rfl (fun KK hKK=>?_)
 go_simp
 refine (GSB.out _ hA hB).mono ?_
 rintro e w1 ⟨p1,q1,rfl,b1,o1⟩
 have bC:=b1
 replace hA:=hA.on bC
 replace hB:=hB.on bC
 replace hC:=hC.on bC
 replace bel:=bel.trans (bC.mono bel.size)
 replace qa:=qa.later bC
 replace qb:=qb.later bC
 replace qc:=qc.later bC
 replace hHeld:=(⟨below_cell bC hHeld.1,below_cell bC hHeld.2.1,below_cell bC hHeld.2.2.1,below_cell bC hHeld.2.2.2.1,below_cell bC hHeld.2.2.2.2.1,below_cell bC hHeld.2.2.2.2.2.1,below_cell bC hHeld.2.2.2.2.2.2.1,below_cell bC hHeld.2.2.2.2.2.2.2.1,below_cell bC hHeld.2.2.2.2.2.2.2.2⟩:_∧_∧_∧_∧_∧_∧_∧_∧_)
 clear bC
 go_wp2_with fail
 clear b1
 refine hKK.out _ _ hHeld ?_
 clear hHeld
 intro hHeld
 clear hKK KK
 try simp only [pP,pN,pS,pZ,pC]
 refine wpAnyH_ready (rs:=[3]) (by kernel_rfl) (by simp) ?_
 refine cons' rfl (fun KK hKK=>?_)
 go_simp
 refine (GAB.out _ p1 q1 o1).mono ?_
 rintro e w2 ⟨p2,q2,rfl,b1,o2⟩
 have bC:=b1
 replace hA:=hA.on bC
 replace hB:=hB.on bC
 replace hC:=hC.on bC
 replace o1:=o1.on bC
 replace bel:=bel.trans (bC.mono bel.size)
 replace qa:=qa.later bC
 replace qb:=qb.later bC
 replace qc:=qc.later bC
 replace hHeld:=(⟨below_cell bC hHeld.1,below_cell bC hHeld.2.1,below_cell bC hHeld.2.2.1,below_cell bC hHeld.2.2.2.1,below_cell bC hHeld.2.2.2.2.1,below_cell bC hHeld.2.2.2.2.2.1,below_cell bC hHeld.2.2.2.2.2.2.1,below_cell bC hHeld.2.2.2.2.2.2.2.1,below_cell bC hHeld.2.2.2.2.2.2.2.2⟩:_∧_∧_∧_∧_∧_∧_∧_∧_)
 clear bC
 go_wp2_with fail
 clear b1
 refine hKK.out _ _ hHeld ?_
 clear hHeld
 intro hHeld
 clear hKK KK
 try simp only [pP,pN,pS,pZ,pC]
 refine wpAnyH_ready (rs:=[6]) (by kernel_rfl) (by simp) ?_
 refine cons' rfl (fun KK hKK=>?_)
 go_simp
 refine (GSC.out _ hA hC).mono ?_
 rintro e w3 ⟨p3,q3,rfl,b1,o3⟩
 have bC:=b1
 replace hA:=hA.on bC
 replace hB:=hB.on bC
 replace hC:=hC.on bC
 replace o1:=o1.on bC
 replace o2:=o2.on bC
 replace bel:=bel.trans (bC.mono bel.size)
 replace qa:=qa.later bC
 replace qb:=qb.later bC
 replace qc:=qc.later bC
 replace hHeld:=(⟨below_cell bC hHeld.1,below_cell bC hHeld.2.1,below_cell bC hHeld.2.2.1,below_cell bC hHeld.2.2.2.1,below_cell bC hHeld.2.2.2.2.1,below_cell bC hHeld.2.2.2.2.2.1,below_cell bC hHeld.2.2.2.2.2.2.1,below_cell bC hHeld.2.2.2.2.2.2.2.1,below_cell bC hHeld.2.2.2.2.2.2.2.2⟩:_∧_∧_∧_∧_∧_∧_∧_∧_)
 clear bC
 go_wp2_with fail
 clear b1
 refine hKK.out _ _ hHeld ?_
 clear hHeld
 intro hHeld
 clear hKK KK
 try simp only [pP,pN,pS,pZ,pC]
 refine wpAnyH_ready (rs:=[7]) (by kernel_rfl) (by simp) ?_
 refine cons' rfl (fun KK hKK=>?_)
 go_simp
 refine (GAC.out _ p3 q3 o3).mono ?_
 rintro e w4 ⟨p4,q4,rfl,b1,o4⟩
 have bC:=b1
 replace hA:=hA.on bC
 replace hB:=hB.on bC
 replace hC:=hC.on bC
 replace o1:=o1.on bC
 replace o2:=o2.on bC
 replace o3:=o3.on bC
 replace bel:=bel.trans (bC.mono bel.size)
 replace qa:=qa.later bC
 replace qb:=qb.later bC
 replace qc:=qc.later bC
 replace hHeld:=(⟨below_cell bC hHeld.1,below_cell bC hHeld.2.1,below_cell bC hHeld.2.2.1,below_cell bC hHeld.2.2.2.1,below_cell bC hHeld.2.2.2.2.1,below_cell bC hHeld.2.2.2.2.2.1,below_cell bC hHeld.2.2.2.2.2.2.1,below_cell bC hHeld.2.2.2.2.2.2.2.1,below_cell bC hHeld.2.2.2.2.2.2.2.2⟩:_∧_∧_∧_∧_∧_∧_∧_∧_)
 clear bC
 go_wp2_with fail
 clear b1
 refine hKK.out _ _ hHeld ?_
 clear hHeld
 intro hHeld
 clear hKK KK
 try simp only [pP,pN,pS,pZ,pC]
 refine wpAnyH_ready (rs:=[8]) (by kernel_rfl) (by simp) ?_
 refine cons' rfl (fun KK hKK=>?_)
 go_simp
 refine (G1.out _ p2 q2 p4 q4 o2 o4).mono ?_
 rintro e w5 ⟨rfl,b1⟩
 have bC:=b1
 replace hA:=hA.on bC
 replace hB:=hB.on bC
 replace hC:=hC.on bC
 replace o1:=o1.on bC
 replace o2:=o2.on bC
 replace o3:=o3.on bC
 replace o4:=o4.on bC
 replace bel:=bel.trans (bC.mono bel.size)
 replace qa:=qa.later bC
 replace qb:=qb.later bC
 replace qc:=qc.later bC
 replace hHeld:=(⟨below_cell bC hHeld.1,below_cell bC hHeld.2.1,below_cell bC hHeld.2.2.1,below_cell bC hHeld.2.2.2.1,below_cell bC hHeld.2.2.2.2.1,below_cell bC hHeld.2.2.2.2.2.1,below_cell bC hHeld.2.2.2.2.2.2.1,below_cell bC hHeld.2.2.2.2.2.2.2.1,below_cell bC hHeld.2.2.2.2.2.2.2.2⟩:_∧_∧_∧_∧_∧_∧_∧_∧_)
 clear bC
 go_wp2_with fail
 clear b1
 refine hKK.out _ _ hHeld ?_
 clear hHeld
 intro hHeld
 clear hKK KK
 try simp only [pP,pN,pS,pZ,pC]
 refine tk 9 (v:=?_) rfl (Or.inl ⟨by rfl,?_⟩) ?_
 rotate_left
 ·intro w9 hSw
  go_simp
  first | done | with_reducible rfl
 simp only [pP,pN,pS,pZ,pC]
 refine wpAnyH_done (by kernel_rfl) ?_ _
 skip
 clear o1 o2 o3 o4
 clear GSB GAB GSC GAC G1
 go_upto_region 4 with fail
 have qb_0:=qb.cell 0
 have qb_1:=qb.cell 1
 have qb_2:=qb.cell 2
 have qc_0:=qc.cell 0
 have qc_1:=qc.cell 1
 have qc_2:=qc.cell 2
 simp only [List.getElem?_toArray,List.getElem?_cons_zero,List.getElem?_cons_succ] at qb_0 qb_1 qb_2 qc_0 qc_1 qc_2
 have bD:Below w5.heap.size w5 w5.drew:=(Below.refl _ _).drew
 have kqb_0:=below_cell bD qb_0
 have kqb_1:=below_cell bD qb_1
 have kqb_2:=below_cell bD qb_2
 have kqc_0:=below_cell bD qc_0
 have kqc_1:=below_cell bD qc_1
 have kqc_2:=below_cell bD qc_2
 replace hA:=hA.on bD
 replace hB:=hB.on bD
 replace hC:=hC.on bD
 replace bel:=bel.trans (bD.mono bel.size)
 replace qa:=qa.later bD
 replace qb:=qb.later bD
 replace qc:=qc.later bD
 refine wp_region_held_drew (S:=fun w'=>w'.cell? ⟨w.heap.size+1,0,none⟩=some (.bool B.s)∧w'.cell? ⟨w.heap.size+1,1,none⟩=some (.slice B.a B.n B.c)∧w'.cell? ⟨w.heap.size+1,2,none⟩=some (.slice B.b B.m B.e)∧w'.cell? ⟨w.heap.size+1+1,0,none⟩=some (.bool C.s)∧w'.cell? ⟨w.heap.size+1+1,1,none⟩=some (.slice C.a C.n C.c)∧w'.cell? ⟨w.heap.size+1+1,2,none⟩=some (.slice C.b C.m C.e)) (by kernel_rfl) ⟨kqb_0,kqb_1,kqb_2,kqc_0,kqc_1,kqc_2⟩ (fun hHeld=>?_)
 clear kqb_0 kqb_1 kqb_2 kqc_0 kqc_1 kqc_2
 generalize w5.drew=w0G at bD hA hB hC qa qb qc bel hHeld ⊢
 clear bD qb_0 qb_1 qb_2 qc_0 qc_1 qc_2
 refine tk 0 (v:=?_) rfl (Or.inl ⟨by rfl,?_⟩) ?_
 rotate_left
 ·intro w9 hSw
  go_simp
  first | done | with_reducible rfl
 simp only [pP,pN,pS,pZ,pC]
 refine tk 3 (v:=?_) rfl (Or.inl ⟨by rfl,?_⟩) ?_
 rotate_left
 ·intro w9 hSw
  go_simp
  first | done | with_reducible rfl
 simp only [pP,pN,pS,pZ,pC]
 refine wpAnyH_ready (rs:=[1]) (by kernel_rfl) (by simp) ?_
 refine cons' rfl (fun KK hKK=>?_)
 go_simp
 refine (GNB.out _ hB).mono ?_
 rintro e w6 ⟨p5,q5,rfl,b1,o5⟩
 have bC:=b1
 replace hA:=hA.on bC
 replace hB:=hB.on bC
 replace hC:=hC.on bC
 replace bel:=bel.trans (bC.mono bel.size)
 replace qa:=qa.later bC
 replace qb:=qb.later bC
 replace qc:=qc.later bC
 replace hHeld:=(⟨below_cell bC hHeld.1,below_cell bC hHeld.2.1,below_cell bC hHeld.2.2.1,below_cell bC hHeld.2.2.2.1,below_cell bC hHeld.2.2.2.2.1,below_cell bC hHeld.2.2.2.2.2⟩:_∧_∧_∧_∧_∧_)
 clear bC
 go_wp2_with fail
 clear b1
 refine hKK.out _ _ hHeld ?_
 clear hHeld
 intro hHeld
 clear hKK KK
 try simp only [pP,pN,pS,pZ,pC]
 refine tk 2 (v:=?_) rfl (Or.inl ⟨by rfl,?_⟩) ?_
 rotate_left
 ·intro w9 hSw
  go_simp
  first | done | with_reducible rfl
 simp only [pP,pN,pS,pZ,pC]
 refine wpAnyH_ready (rs:=[4]) (by kernel_rfl) (by simp) ?_
 refine cons' rfl (fun KK hKK=>?_)
 go_simp
 refine (GNC.out _ hC).mono ?_
 rintro e w7 ⟨p6,q6,rfl,b1,o6⟩
 have bC:=b1
 replace hA:=hA.on bC
 replace hB:=hB.on bC
 replace hC:=hC.on bC
 replace o5:=o5.on bC
 replace bel:=bel.trans (bC.mono bel.size)
 replace qa:=qa.later bC
 replace qb:=qb.later bC
 replace qc:=qc.later bC
 replace hHeld:=(⟨below_cell bC hHeld.1,below_cell bC hHeld.2.1,below_cell bC hHeld.2.2.1,below_cell bC hHeld.2.2.2.1,below_cell bC hHeld.2.2.2.2.1,below_cell bC hHeld.2.2.2.2.2⟩:_∧_∧_∧_∧_∧_)
 clear bC
 go_wp2_with fail
 clear b1
 refine hKK.out _ _ hHeld ?_
 clear hHeld
 intro hHeld
 clear hKK KK
 try simp only [pP,pN,pS,pZ,pC]
 refine tk 5 (v:=?_) rfl (Or.inl ⟨by rfl,?_⟩) ?_
 rotate_left
 ·intro w9 hSw
  go_simp
  first | done | with_reducible rfl
 simp only [pP,pN,pS,pZ,pC]
 refine wpAnyH_ready (rs:=[6]) (by kernel_rfl) (by simp) ?_
 refine cons' rfl (fun KK hKK=>?_)
 go_simp
 refine (G2.out _ q5 q6 o5.2.2.2.1 o6.2.2.2.1).mono ?_
 rintro e w8 ⟨rfl,b1⟩
 have bC:=b1
 replace hA:=hA.on bC
 replace hB:=hB.on bC
 replace hC:=hC.on bC
 replace o5:=o5.on bC
 replace o6:=o6.on bC
 replace bel:=bel.trans (bC.mono bel.size)
 replace qa:=qa.later bC
 replace qb:=qb.later bC
 replace qc:=qc.later bC
 replace hHeld:=(⟨below_cell bC hHeld.1,below_cell bC hHeld.2.1,below_cell bC hHeld.2.2.1,below_cell bC hHeld.2.2.2.1,below_cell bC hHeld.2.2.2.2.1,below_cell bC hHeld.2.2.2.2.2⟩:_∧_∧_∧_∧_∧_)
 clear bC
 go_wp2_with fail
 clear b1
 refine hKK.out _ _ hHeld ?_
 clear hHeld
 intro hHeld
 clear hKK KK
 try simp only [pP,pN,pS,pZ,pC]
 refine tk 7 (v:=?_) rfl (Or.inl ⟨by rfl,?_⟩) ?_
 rotate_left
 ·intro w9 hSw
  go_simp
  first | done | with_reducible rfl
 simp only [pP,pN,pS,pZ,pC]
 refine wpAnyH_done (by kernel_rfl) ?_ _
 skip
 clear o5 o6
 clear GNB GNC G2
 go_upto_region 7 with fail
 have qb_0:=qb.cell 0
 have qb_1:=qb.cell 1
 have qb_2:=qb.cell 2
 have qc_0:=qc.cell 0
 have qc_1:=qc.cell 1
 have qc_2:=qc.cell 2
 simp only [List.getElem?_toArray,List.getElem?_cons_zero,List.getElem?_cons_succ] at qb_0 qb_1 qb_2 qc_0 qc_1 qc_2
 go_wp2_with fail
 clear qb_0 qb_1 qb_2 qc_0 qc_1 qc_2
 refine (G3.out _ hB hC).mono ?_
 rintro e w9 ⟨rfl,b1⟩
 have bb:=b1
 replace qa:=qa.later bb
 replace qb:=qb.later bb
 replace qc:=qc.later bb
 replace hA:=hA.on bb
 replace hB:=hB.on bb
 replace hC:=hC.on bb
 replace bel:=bel.trans (bb.mono bel.size)
 clear bb
 clear b1
 go_wp2
 go_ret
 exact ⟨rfl,bel⟩
set_option maxHeartbeats 4000000 in
set_option maxRecDepth 100000 in
theorem vnear_g (A B C:RatV) (w:World) (hA:A.ok w) (hB:B.ok w) (hC:C.ok w) (hn:A.n≤2000000∧A.m≤2000000∧B.n≤2000000∧B.m≤2000000∧C.n≤2000000∧C.m≤2000000) (sA:sz 2000001 A.val) (sB:sz 2000001 B.val) (sC:sz 2000001 C.val) (h1:sR (dsR A.val B.val - dsR A.val C.val)=0) (h2:cmpI B.val.den C.val.den=0) (h3:sR (B.val - C.val)=1) :
  Calls Tryz.prog 21 #[.agg #[.bool A.s,.slice A.a A.n A.c,.slice A.b A.m A.e],.agg #[.bool B.s,.slice B.a B.n B.c,.slice B.b B.m B.e],.agg #[.bool C.s,.slice C.a C.n C.c,.slice C.b C.m C.e]] w fun e w'=>e=.returned (.bool false)∧Below w.heap.size w w':=by
 obtain ⟨SB,hSB⟩:∃ S,A.val - B.val=S:=⟨_,rfl⟩
 obtain ⟨DB,hDB⟩:∃ S,dsR A.val B.val=S:=⟨_,rfl⟩
 have zB:sz 100000000 SB:=by rw [←hSB];exact (sz_subY sA sB).mono (by omega)
 have zDB:sz 100000000 DB:=by rw [←hDB];exact (sz_ds sA sB).mono (by omega)
 have GSB:=hide' (fun w' k1 k2=>vsubQ A B SB w' k1 k2 (by omega) hSB zB)
 have GAB:=hide' (fun w' p q (k1:(nR SB p q).ok w')=>vabsQ (nR SB p q) DB w' k1 (by rw [nR_val,←hSB,absR_dsR2];exact hDB) zDB ⟨zB.1,zB.2⟩)
 obtain ⟨SC,hSC⟩:∃ S,A.val - C.val=S:=⟨_,rfl⟩
 obtain ⟨DC,hDC⟩:∃ S,dsR A.val C.val=S:=⟨_,rfl⟩
 have zC:sz 100000000 SC:=by rw [←hSC];exact (sz_subY sA sC).mono (by omega)
 have zDC:sz 100000000 DC:=by rw [←hDC];exact (sz_ds sA sC).mono (by omega)
 have GSC:=hide' (fun w' k1 k2=>vsubQ A C SC w' k1 k2 (by omega) hSC zC)
 have GAC:=hide' (fun w' p q (k1:(nR SC p q).ok w')=>vabsQ (nR SC p q) DC w' k1 (by rw [nR_val,←hSC,absR_dsR2];exact hDC) zDC ⟨zC.1,zC.2⟩)
 rw [hDB,hDC] at h1
 have G1:=hide' (fun w' p q p1 q1 (k1:(nR DB p q).ok w') (k2:(nR DC p1 q1).ok w')=>vcmpQ (nR DB p q) (nR DC p1 q1) w' k1 k2 ⟨zDB.1,zDB.2,zDC.1,zDC.2⟩ 0 (by rw [nR_val,nR_val];exact h1))
 have GNB:=hide' (fun w' k1=>vnormQ B B.val w' k1 rfl (sB.mono (by omega)))
 have GNC:=hide' (fun w' k1=>vnormQ C C.val w' k1 rfl (sC.mono (by omega)))
 have G2:=hide' (fun w' q q1 (k1:Seg w' q B.val.den (ln B.val.den)) (k2:Seg w' q1 C.val.den (ln C.val.den))=>(rCmp_any q q1 (ln B.val.den) (ln B.val.den) B.val.den (ln C.val.den) (ln C.val.den) C.val.den w' (Nat.le_trans sB.2 (by omega)) k1 (Nat.le_trans sC.2 (by omega)) k2).mono (fun e w2 h=>(show e=.returned (.int .i64 (cmpI B.val.den C.val.den))∧Below w'.heap.size w' w2 from ⟨h.1,h.2 ▸ Below.refl _ _⟩)))
 rw [h2] at G2
 have G3:=hide' (fun w' k1 k2=>vcmpQ B C w' k1 k2 (by omega) 1 h3)
 clear h1 hDB hDC hSB hSC h2 h3
 have hf:=run_fieldR
 have bel:Below w.heap.size w w:=Below.refl _ _
 have bb:=below_alloc (w:=w) (.cells #[.bool A.s,.slice A.a A.n A.c,.slice A.b A.m A.e] 27)
 replace hA:=hA.on bb
 replace hB:=hB.on bb
 replace hC:=hC.on bb
 replace bel:=bel.trans (bb.mono bel.size)
 clear bb
 have qa:=Blk.new w #[.bool A.s,.slice A.a A.n A.c,.slice A.b A.m A.e] 27
 have bb:=below_alloc (w:=(w.alloc (.cells #[.bool A.s,.slice A.a A.n A.c,.slice A.b A.m A.e] 27))) (.cells #[.bool B.s,.slice B.a B.n B.c,.slice B.b B.m B.e] 27)
 replace qa:=qa.later bb
 replace hA:=hA.on bb
 replace hB:=hB.on bb
 replace hC:=hC.on bb
 replace bel:=bel.trans (bb.mono bel.size)
 clear bb
 have qb:=Blk.new (w.alloc (.cells #[.bool A.s,.slice A.a A.n A.c,.slice A.b A.m A.e] 27)) #[.bool B.s,.slice B.a B.n B.c,.slice B.b B.m B.e] 27
 simp only [World.size_alloc] at qb
 have bb:=below_alloc (w:=((w.alloc (.cells #[.bool A.s,.slice A.a A.n A.c,.slice A.b A.m A.e] 27)).alloc (.cells #[.bool B.s,.slice B.a B.n B.c,.slice B.b B.m B.e] 27))) (.cells #[.bool C.s,.slice C.a C.n C.c,.slice C.b C.m C.e] 27)
 replace qa:=qa.later bb
 replace qb:=qb.later bb
 replace hA:=hA.on bb
 replace hB:=hB.on bb
 replace hC:=hC.on bb
 replace bel:=bel.trans (bb.mono bel.size)
 clear bb
 have qc:=Blk.new ((w.alloc (.cells #[.bool A.s,.slice A.a A.n A.c,.slice A.b A.m A.e] 27)).alloc (.cells #[.bool B.s,.slice B.a B.n B.c,.slice B.b B.m B.e] 27)) #[.bool C.s,.slice C.a C.n C.c,.slice C.b C.m C.e] 27
 simp only [World.size_alloc] at qc
 go_enter Tryz.func21,Tryz.ntmps21
 go_wp2_with fail
 obtain ⟨W0,hW⟩:∃ W,(((w.alloc (.cells #[.bool A.s,.slice A.a A.n A.c,.slice A.b A.m A.e] 27)).alloc (.cells #[.bool B.s,.slice B.a B.n B.c,.slice B.b B.m B.e] 27)).alloc (.cells #[.bool C.s,.slice C.a C.n C.c,.slice C.b C.m C.e] 27))=W:=⟨_,rfl⟩
 rw [hW] at bel qa qb qc hA hB hC ⊢
 clear hW
 have qa_0:=qa.cell 0
 have qa_1:=qa.cell 1
 have qa_2:=qa.cell 2
 have qb_0:=qb.cell 0
 have qb_1:=qb.cell 1
 have qb_2:=qb.cell 2
 have qc_0:=qc.cell 0
 have qc_1:=qc.cell 1
 have qc_2:=qc.cell 2
 simp only [List.getElem?_toArray,List.getElem?_cons_zero,List.getElem?_cons_succ] at qa_0 qa_1 qa_2 qb_0 qb_1 qb_2 qc_0 qc_1 qc_2
 have bD:Below W0.heap.size W0 W0.drew:=(Below.refl _ _).drew
 have kqa_0:=below_cell bD qa_0
 have kqa_1:=below_cell bD qa_1
 have kqa_2:=below_cell bD qa_2
 have kqb_0:=below_cell bD qb_0
 have kqb_1:=below_cell bD qb_1
 have kqb_2:=below_cell bD qb_2
 have kqc_0:=below_cell bD qc_0
 have kqc_1:=below_cell bD qc_1
 have kqc_2:=below_cell bD qc_2
 replace hA:=hA.on bD
 replace hB:=hB.on bD
 replace hC:=hC.on bD
 replace bel:=bel.trans (bD.mono bel.size)
 replace qa:=qa.later bD
 replace qb:=qb.later bD
 replace qc:=qc.later bD
 refine wp_region_held_drew (S:=fun w'=>w'.cell? ⟨w.heap.size,0,none⟩=some (.bool A.s)∧w'.cell? ⟨w.heap.size,1,none⟩=some (.slice A.a A.n A.c)∧w'.cell? ⟨w.heap.size,2,none⟩=some (.slice A.b A.m A.e)∧w'.cell? ⟨w.heap.size+1,0,none⟩=some (.bool B.s)∧w'.cell? ⟨w.heap.size+1,1,none⟩=some (.slice B.a B.n B.c)∧w'.cell? ⟨w.heap.size+1,2,none⟩=some (.slice B.b B.m B.e)∧w'.cell? ⟨w.heap.size+1+1,0,none⟩=some (.bool C.s)∧w'.cell? ⟨w.heap.size+1+1,1,none⟩=some (.slice C.a C.n C.c)∧w'.cell? ⟨w.heap.size+1+1,2,none⟩=some (.slice C.b C.m C.e)) (by kernel_rfl) ⟨kqa_0,kqa_1,kqa_2,kqb_0,kqb_1,kqb_2,kqc_0,kqc_1,kqc_2⟩ (fun hHeld=>?_)
 clear kqa_0 kqa_1 kqa_2 kqb_0 kqb_1 kqb_2 kqc_0 kqc_1 kqc_2
 generalize W0.drew=w0F at bD hA hB hC qa qb qc bel hHeld ⊢
 clear bD qa_0 qa_1 qa_2 qb_0 qb_1 qb_2 qc_0 qc_1 qc_2
 refine tk 0 (v:=?_) rfl (Or.inl ⟨by rfl,?_⟩) ?_
 rotate_left
 ·intro w9 hSw
  go_simp
  first | done | with_reducible rfl
 simp only [pP,pN,pS,pZ,pC]
 refine tk 1 (v:=?_) rfl (Or.inl ⟨by rfl,?_⟩) ?_
 rotate_left
 ·intro w9 hSw
  go_simp
  first | done | with_reducible rfl
 simp only [pP,pN,pS,pZ,pC]
 refine tk 4 (v:=?_) rfl (Or.inl ⟨by rfl,?_⟩) ?_
 rotate_left
 ·intro w9 hSw
  go_simp
  first | done | with_reducible rfl
 simp only [pP,pN,pS,pZ,pC]
 refine tk 5 (v:=?_) rfl (Or.inl ⟨by rfl,?_⟩) ?_
 rotate_left
 ·intro w9 hSw
  go_simp
  first | done | with_reducible rfl
 simp only [pP,pN,pS,pZ,pC]
 refine wpAnyH_ready (rs:=[2]) (by kernel_rfl) (by simp) ?_
 refine cons' rfl (fun KK hKK=>?_)
 go_simp
 refine (GSB.out _ hA hB).mono ?_
 rintro e w1 ⟨p1,q1,rfl,b1,o1⟩
 have bC:=b1
 replace hA:=hA.on bC
 replace hB:=hB.on bC
 replace hC:=hC.on bC
 replace bel:=bel.trans (bC.mono bel.size)
 replace qa:=qa.later bC
 replace qb:=qb.later bC
 replace qc:=qc.later bC
 replace hHeld:=(⟨below_cell bC hHeld.1,below_cell bC hHeld.2.1,below_cell bC hHeld.2.2.1,below_cell bC hHeld.2.2.2.1,below_cell bC hHeld.2.2.2.2.1,below_cell bC hHeld.2.2.2.2.2.1,below_cell bC hHeld.2.2.2.2.2.2.1,below_cell bC hHeld.2.2.2.2.2.2.2.1,below_cell bC hHeld.2.2.2.2.2.2.2.2⟩:_∧_∧_∧_∧_∧_∧_∧_∧_)
 clear bC
 go_wp2_with fail
 clear b1
 refine hKK.out _ _ hHeld ?_
 clear hHeld
 intro hHeld
 clear hKK KK
 try simp only [pP,pN,pS,pZ,pC]
 refine wpAnyH_ready (rs:=[3]) (by kernel_rfl) (by simp) ?_
 refine cons' rfl (fun KK hKK=>?_)
 go_simp
 refine (GAB.out _ p1 q1 o1).mono ?_
 rintro e w2 ⟨p2,q2,rfl,b1,o2⟩
 have bC:=b1
 replace hA:=hA.on bC
 replace hB:=hB.on bC
 replace hC:=hC.on bC
 replace o1:=o1.on bC
 replace bel:=bel.trans (bC.mono bel.size)
 replace qa:=qa.later bC
 replace qb:=qb.later bC
 replace qc:=qc.later bC
 replace hHeld:=(⟨below_cell bC hHeld.1,below_cell bC hHeld.2.1,below_cell bC hHeld.2.2.1,below_cell bC hHeld.2.2.2.1,below_cell bC hHeld.2.2.2.2.1,below_cell bC hHeld.2.2.2.2.2.1,below_cell bC hHeld.2.2.2.2.2.2.1,below_cell bC hHeld.2.2.2.2.2.2.2.1,below_cell bC hHeld.2.2.2.2.2.2.2.2⟩:_∧_∧_∧_∧_∧_∧_∧_∧_)
 clear bC
 go_wp2_with fail
 clear b1
 refine hKK.out _ _ hHeld ?_
 clear hHeld
 intro hHeld
 clear hKK KK
 try simp only [pP,pN,pS,pZ,pC]
 refine wpAnyH_ready (rs:=[6]) (by kernel_rfl) (by simp) ?_
 refine cons' rfl (fun KK hKK=>?_)
 go_simp
 refine (GSC.out _ hA hC).mono ?_
 rintro e w3 ⟨p3,q3,rfl,b1,o3⟩
 have bC:=b1
 replace hA:=hA.on bC
 replace hB:=hB.on bC
 replace hC:=hC.on bC
 replace o1:=o1.on bC
 replace o2:=o2.on bC
 replace bel:=bel.trans (bC.mono bel.size)
 replace qa:=qa.later bC
 replace qb:=qb.later bC
 replace qc:=qc.later bC
 replace hHeld:=(⟨below_cell bC hHeld.1,below_cell bC hHeld.2.1,below_cell bC hHeld.2.2.1,below_cell bC hHeld.2.2.2.1,below_cell bC hHeld.2.2.2.2.1,below_cell bC hHeld.2.2.2.2.2.1,below_cell bC hHeld.2.2.2.2.2.2.1,below_cell bC hHeld.2.2.2.2.2.2.2.1,below_cell bC hHeld.2.2.2.2.2.2.2.2⟩:_∧_∧_∧_∧_∧_∧_∧_∧_)
 clear bC
 go_wp2_with fail
 clear b1
 refine hKK.out _ _ hHeld ?_
 clear hHeld
 intro hHeld
 clear hKK KK
 try simp only [pP,pN,pS,pZ,pC]
 refine wpAnyH_ready (rs:=[7]) (by kernel_rfl) (by simp) ?_
 refine cons' rfl (fun KK hKK=>?_)
 go_simp
 refine (GAC.out _ p3 q3 o3).mono ?_
 rintro e w4 ⟨p4,q4,rfl,b1,o4⟩
 have bC:=b1
 replace hA:=hA.on bC
 replace hB:=hB.on bC
 replace hC:=hC.on bC
 replace o1:=o1.on bC
 replace o2:=o2.on bC
 replace o3:=o3.on bC
 replace bel:=bel.trans (bC.mono bel.size)
 replace qa:=qa.later bC
 replace qb:=qb.later bC
 replace qc:=qc.later bC
 replace hHeld:=(⟨below_cell bC hHeld.1,below_cell bC hHeld.2.1,below_cell bC hHeld.2.2.1,below_cell bC hHeld.2.2.2.1,below_cell bC hHeld.2.2.2.2.1,below_cell bC hHeld.2.2.2.2.2.1,below_cell bC hHeld.2.2.2.2.2.2.1,below_cell bC hHeld.2.2.2.2.2.2.2.1,below_cell bC hHeld.2.2.2.2.2.2.2.2⟩:_∧_∧_∧_∧_∧_∧_∧_∧_)
 clear bC
 go_wp2_with fail
 clear b1
 refine hKK.out _ _ hHeld ?_
 clear hHeld
 intro hHeld
 clear hKK KK
 try simp only [pP,pN,pS,pZ,pC]
 refine wpAnyH_ready (rs:=[8]) (by kernel_rfl) (by simp) ?_
 refine cons' rfl (fun KK hKK=>?_)
 go_simp
 refine (G1.out _ p2 q2 p4 q4 o2 o4).mono ?_
 rintro e w5 ⟨rfl,b1⟩
 have bC:=b1
 replace hA:=hA.on bC
 replace hB:=hB.on bC
 replace hC:=hC.on bC
 replace o1:=o1.on bC
 replace o2:=o2.on bC
 replace o3:=o3.on bC
 replace o4:=o4.on bC
 replace bel:=bel.trans (bC.mono bel.size)
 replace qa:=qa.later bC
 replace qb:=qb.later bC
 replace qc:=qc.later bC
 replace hHeld:=(⟨below_cell bC hHeld.1,below_cell bC hHeld.2.1,below_cell bC hHeld.2.2.1,below_cell bC hHeld.2.2.2.1,below_cell bC hHeld.2.2.2.2.1,below_cell bC hHeld.2.2.2.2.2.1,below_cell bC hHeld.2.2.2.2.2.2.1,below_cell bC hHeld.2.2.2.2.2.2.2.1,below_cell bC hHeld.2.2.2.2.2.2.2.2⟩:_∧_∧_∧_∧_∧_∧_∧_∧_)
 clear bC
 go_wp2_with fail
 clear b1
 refine hKK.out _ _ hHeld ?_
 clear hHeld
 intro hHeld
 clear hKK KK
 try simp only [pP,pN,pS,pZ,pC]
 refine tk 9 (v:=?_) rfl (Or.inl ⟨by rfl,?_⟩) ?_
 rotate_left
 ·intro w9 hSw
  go_simp
  first | done | with_reducible rfl
 simp only [pP,pN,pS,pZ,pC]
 refine wpAnyH_done (by kernel_rfl) ?_ _
 skip
 clear o1 o2 o3 o4
 clear GSB GAB GSC GAC G1
 go_upto_region 4 with fail
 have qb_0:=qb.cell 0
 have qb_1:=qb.cell 1
 have qb_2:=qb.cell 2
 have qc_0:=qc.cell 0
 have qc_1:=qc.cell 1
 have qc_2:=qc.cell 2
 simp only [List.getElem?_toArray,List.getElem?_cons_zero,List.getElem?_cons_succ] at qb_0 qb_1 qb_2 qc_0 qc_1 qc_2
 have bD:Below w5.heap.size w5 w5.drew:=(Below.refl _ _).drew
 have kqb_0:=below_cell bD qb_0
 have kqb_1:=below_cell bD qb_1
 have kqb_2:=below_cell bD qb_2
 have kqc_0:=below_cell bD qc_0
 have kqc_1:=below_cell bD qc_1
 have kqc_2:=below_cell bD qc_2
 replace hA:=hA.on bD
 replace hB:=hB.on bD
 replace hC:=hC.on bD
 replace bel:=bel.trans (bD.mono bel.size)
 replace qa:=qa.later bD
 replace qb:=qb.later bD
 replace qc:=qc.later bD
 refine wp_region_held_drew (S:=fun w'=>w'.cell? ⟨w.heap.size+1,0,none⟩=some (.bool B.s)∧w'.cell? ⟨w.heap.size+1,1,none⟩=some (.slice B.a B.n B.c)∧w'.cell? ⟨w.heap.size+1,2,none⟩=some (.slice B.b B.m B.e)∧w'.cell? ⟨w.heap.size+1+1,0,none⟩=some (.bool C.s)∧w'.cell? ⟨w.heap.size+1+1,1,none⟩=some (.slice C.a C.n C.c)∧w'.cell? ⟨w.heap.size+1+1,2,none⟩=some (.slice C.b C.m C.e)) (by kernel_rfl) ⟨kqb_0,kqb_1,kqb_2,kqc_0,kqc_1,kqc_2⟩ (fun hHeld=>?_)
 clear kqb_0 kqb_1 kqb_2 kqc_0 kqc_1 kqc_2
 generalize w5.drew=w0G at bD hA hB hC qa qb qc bel hHeld ⊢
 clear bD qb_0 qb_1 qb_2 qc_0 qc_1 qc_2
 refine tk 0 (v:=?_) rfl (Or.inl ⟨by rfl,?_⟩) ?_
 rotate_left
 ·intro w9 hSw
  go_simp
  first | done | with_reducible rfl
 simp only [pP,pN,pS,pZ,pC]
 refine tk 3 (v:=?_) rfl (Or.inl ⟨by rfl,?_⟩) ?_
 rotate_left
 ·intro w9 hSw
  go_simp
  first | done | with_reducible rfl
 simp only [pP,pN,pS,pZ,pC]
 refine wpAnyH_ready (rs:=[1]) (by kernel_rfl) (by simp) ?_
 refine cons' rfl (fun KK hKK=>?_)
 go_simp
 refine (GNB.out _ hB).mono ?_
 rintro e w6 ⟨p5,q5,rfl,b1,o5⟩
 have bC:=b1
 replace hA:=hA.on bC
 replace hB:=hB.on bC
 replace hC:=hC.on bC
 replace bel:=bel.trans (bC.mono bel.size)
 replace qa:=qa.later bC
 replace qb:=qb.later bC
 replace qc:=qc.later bC
 replace hHeld:=(⟨below_cell bC hHeld.1,below_cell bC hHeld.2.1,below_cell bC hHeld.2.2.1,below_cell bC hHeld.2.2.2.1,below_cell bC hHeld.2.2.2.2.1,below_cell bC hHeld.2.2.2.2.2⟩:_∧_∧_∧_∧_∧_)
 clear bC
 go_wp2_with fail
 clear b1
 refine hKK.out _ _ hHeld ?_
 clear hHeld
 intro hHeld
 clear hKK KK
 try simp only [pP,pN,pS,pZ,pC]
 refine tk 2 (v:=?_) rfl (Or.inl ⟨by rfl,?_⟩) ?_
 rotate_left
 ·intro w9 hSw
  go_simp
  first | done | with_reducible rfl
 simp only [pP,pN,pS,pZ,pC]
 refine wpAnyH_ready (rs:=[4]) (by kernel_rfl) (by simp) ?_
 refine cons' rfl (fun KK hKK=>?_)
 go_simp
 refine (GNC.out _ hC).mono ?_
 rintro e w7 ⟨p6,q6,rfl,b1,o6⟩
 have bC:=b1
 replace hA:=hA.on bC
 replace hB:=hB.on bC
 replace hC:=hC.on bC
 replace o5:=o5.on bC
 replace bel:=bel.trans (bC.mono bel.size)
 replace qa:=qa.later bC
 replace qb:=qb.later bC
 replace qc:=qc.later bC
 replace hHeld:=(⟨below_cell bC hHeld.1,below_cell bC hHeld.2.1,below_cell bC hHeld.2.2.1,below_cell bC hHeld.2.2.2.1,below_cell bC hHeld.2.2.2.2.1,below_cell bC hHeld.2.2.2.2.2⟩:_∧_∧_∧_∧_∧_)
 clear bC
 go_wp2_with fail
 clear b1
 refine hKK.out _ _ hHeld ?_
 clear hHeld
 intro hHeld
 clear hKK KK
 try simp only [pP,pN,pS,pZ,pC]
 refine tk 5 (v:=?_) rfl (Or.inl ⟨by rfl,?_⟩) ?_
 rotate_left
 ·intro w9 hSw
  go_simp
  first | done | with_reducible rfl
 simp only [pP,pN,pS,pZ,pC]
 refine wpAnyH_ready (rs:=[6]) (by kernel_rfl) (by simp) ?_
 refine cons' rfl (fun KK hKK=>?_)
 go_simp
 refine (G2.out _ q5 q6 o5.2.2.2.1 o6.2.2.2.1).mono ?_
 rintro e w8 ⟨rfl,b1⟩
 have bC:=b1
 replace hA:=hA.on bC
 replace hB:=hB.on bC
 replace hC:=hC.on bC
 replace o5:=o5.on bC
 replace o6:=o6.on bC
 replace bel:=bel.trans (bC.mono bel.size)
 replace qa:=qa.later bC
 replace qb:=qb.later bC
 replace qc:=qc.later bC
 replace hHeld:=(⟨below_cell bC hHeld.1,below_cell bC hHeld.2.1,below_cell bC hHeld.2.2.1,below_cell bC hHeld.2.2.2.1,below_cell bC hHeld.2.2.2.2.1,below_cell bC hHeld.2.2.2.2.2⟩:_∧_∧_∧_∧_∧_)
 clear bC
 go_wp2_with fail
 clear b1
 refine hKK.out _ _ hHeld ?_
 clear hHeld
 intro hHeld
 clear hKK KK
 try simp only [pP,pN,pS,pZ,pC]
 refine tk 7 (v:=?_) rfl (Or.inl ⟨by rfl,?_⟩) ?_
 rotate_left
 ·intro w9 hSw
  go_simp
  first | done | with_reducible rfl
 simp only [pP,pN,pS,pZ,pC]
 refine wpAnyH_done (by kernel_rfl) ?_ _
 skip
 clear o5 o6
 clear GNB GNC G2
 go_upto_region 7 with fail
 have qb_0:=qb.cell 0
 have qb_1:=qb.cell 1
 have qb_2:=qb.cell 2
 have qc_0:=qc.cell 0
 have qc_1:=qc.cell 1
 have qc_2:=qc.cell 2
 simp only [List.getElem?_toArray,List.getElem?_cons_zero,List.getElem?_cons_succ] at qb_0 qb_1 qb_2 qc_0 qc_1 qc_2
 go_wp2_with fail
 clear qb_0 qb_1 qb_2 qc_0 qc_1 qc_2
 refine (G3.out _ hB hC).mono ?_
 rintro e w9 ⟨rfl,b1⟩
 have bb:=b1
 replace qa:=qa.later bb
 replace qb:=qb.later bb
 replace qc:=qc.later bb
 replace hA:=hA.on bb
 replace hB:=hB.on bb
 replace hC:=hC.on bb
 replace bel:=bel.trans (bb.mono bel.size)
 clear bb
 clear b1
 go_wp2
 go_ret
 exact ⟨rfl,bel⟩
theorem vnearer_is (A B C:RatV) (w:World) (hA:A.ok w) (hB:B.ok w) (hC:C.ok w) (hn:A.n≤2000000∧A.m≤2000000∧B.n≤2000000∧B.m≤2000000∧C.n≤2000000∧C.m≤2000000) (sA:sz 2000001 A.val) (sB:sz 2000001 B.val) (sC:sz 2000001 C.val) (t:Bool) (ht:t=true↔ahd A.val B.val C.val) :
  Calls Tryz.prog 21 #[.agg #[.bool A.s,.slice A.a A.n A.c,.slice A.b A.m A.e],.agg #[.bool B.s,.slice B.a B.n B.c,.slice B.b B.m B.e],.agg #[.bool C.s,.slice C.a C.n C.c,.slice C.b C.m C.e]] w fun e w'=>e=.returned (.bool t)∧Below w.heap.size w w':=by
 rw [←orI_ahd] at ht
 rcases sR_tri (dsR A.val B.val) (dsR A.val C.val) with ⟨_,h1⟩ | ⟨_,h1⟩ | ⟨_,h1⟩
 ·have hv:orI (-1) (cmpI B.val.den C.val.den) (sR (B.val - C.val)) = -1:=rfl
  rw [h1,hv] at ht
  obtain rfl:t=true:=ht.2 (by decide)
  exact vnear_a A B C w hA hB hC hn sA sB sC h1
 ·rcases cmpI_tri B.val.den C.val.den with ⟨_,h2⟩ | ⟨_,h2⟩ | ⟨_,h2⟩
  ·have hv:orI 0 (-1) (sR (B.val - C.val)) = -1:=rfl
   rw [h1,h2,hv] at ht
   obtain rfl:t=true:=ht.2 (by decide)
   exact vnear_c A B C w hA hB hC hn sA sB sC h1 h2
  ·rcases sR_tri B.val C.val with ⟨_,h3⟩ | ⟨_,h3⟩ | ⟨_,h3⟩
   ·have hv:orI 0 0 (-1) = -1:=rfl
    rw [h1,h2,h3,hv] at ht
    obtain rfl:t=true:=ht.2 (by decide)
    exact vnear_e A B C w hA hB hC hn sA sB sC h1 h2 h3
   ·have hv:orI 0 0 0=0:=rfl
    rw [h1,h2,h3,hv] at ht
    obtain rfl:t=false:=by cases t with | false=>rfl | true=>exact absurd (ht.1 rfl) (by decide)
    exact vnear_f A B C w hA hB hC hn sA sB sC h1 h2 h3
   ·have hv:orI 0 0 1=1:=rfl
    rw [h1,h2,h3,hv] at ht
    obtain rfl:t=false:=by cases t with | false=>rfl | true=>exact absurd (ht.1 rfl) (by decide)
    exact vnear_g A B C w hA hB hC hn sA sB sC h1 h2 h3
  ·have hv:orI 0 1 (sR (B.val - C.val))=1:=rfl
   rw [h1,h2,hv] at ht
   obtain rfl:t=false:=by cases t with | false=>rfl | true=>exact absurd (ht.1 rfl) (by decide)
   exact vnear_d A B C w hA hB hC hn sA sB sC h1 h2
 ·have hv:orI 1 (cmpI B.val.den C.val.den) (sR (B.val - C.val))=1:=rfl
  rw [h1,hv] at ht
  obtain rfl:t=false:=by cases t with | false=>rfl | true=>exact absurd (ht.1 rfl) (by decide)
  exact vnear_b A B C w hA hB hC hn sA sB sC h1
end Go.Proofs.YtejlnodillnoaaaGreatDoor
set_option linter.unusedSimpArgs false
namespace Go.Proofs.YtejlnodillnoaaaGreatDoor
open Go.RowKit
set_option linter.unusedVariables false
theorem cf_same:∀ (d:Nat) (n n':Int) (d':Nat),d≠0→d'≠0→n*(d':Int)=n'*(d:Int)→cf n d=cf n' d':=by
 intro d
 induction d using Nat.strongRecOn with
 | _ d ih =>
  intro n n' d' hd hd' e
  have f1:Fl n d (n / (d:Int)) (n % (d:Int)):=⟨by rw [Int.mul_comm];exact Int.mul_ediv_add_emod _ _,Int.emod_nonneg _ (by omega),Int.emod_lt_of_pos _ (by omega)⟩
  have f2:Fl n' d' (n' / (d':Int)) (n' % (d':Int)):=⟨by rw [Int.mul_comm];exact Int.mul_ediv_add_emod _ _,Int.emod_nonneg _ (by omega),Int.emod_lt_of_pos _ (by omega)⟩
  have hq:=Fl.same f1 (by omega) f2 (by omega) e.symm
  have hr:n % (d:Int)*(d':Int)=n' % (d':Int)*(d:Int):=by
   have g1:=f1.eq
   have g2:=f2.eq
   rw [hq] at g2
   have g3:n % (d:Int)=n - n / (d:Int)*d:=by omega
   have g4:n' % (d':Int)=n' - n / (d:Int)*d':=by omega
   rw [g3,g4]
   grind
  by_cases h0:n % (d:Int)=0
  ·have h0':n' % (d':Int)=0:=by
    rw [h0,Int.zero_mul] at hr
    rcases Int.mul_eq_zero.1 hr.symm with h | h
    ·exact h
    ·omega
   rw [cf_end hd h0,cf_end hd' h0',hq]
  ·have h0':n' % (d':Int)≠0:=by
    intro h
    rw [h,Int.zero_mul] at hr
    rcases Int.mul_eq_zero.1 hr with h | h
    ·exact h0 h
    ·omega
   obtain ⟨m1,m2⟩:=mod_nat (n:=n) hd
   obtain ⟨m3,m4⟩:=mod_nat (n:=n') hd'
   rw [cf_on hd h0,cf_on hd' h0',hq]
   congr 1
   refine ih _ m2 (d:Int) (d':Int) _ (by omega) (by omega) ?_
   rw [m1,m3]
   grind
theorem exp_step {A:Int} {D:Nat} (hD:D≠0) {Zf G:Int} (hf:Fl A D Zf G) {Zs Zi:Int} {Vs Vi:Nat} (h1:Low G D Zs Vs) :
  (Zs=0↔G=0)∧(Zs=0→cf A D=[Zf])∧(Low Vs Zs Zi Vi→am Zi≤D∧Vi < D∧Vi≠0∧cf A D=Zf :: cf Zi Vi):=by
 obtain ⟨hq,hm⟩:=cf_step (A:=A) hD hf.eq hf.ge hf.lt
 have hDp:(0:Int) < D:=by omega
 have hz:Zs=0↔G=0:=by
  have:=h1.eq
  have hp:=h1.pos
  constructor
  ·intro h
   rw [h,Int.zero_mul] at this
   rcases Int.mul_eq_zero.1 this.symm with k | k <;> omega
  ·intro h
   rw [h,Int.zero_mul] at this
   rcases Int.mul_eq_zero.1 this with k | k <;> omega
 refine ⟨hz,fun h=>?_,fun h2=>?_⟩
 ·rw [cf_end hD (by rw [hm];exact hz.1 h),hq]
 ·have hZ:Zs≠0:=h2.ne
  have hG:G≠0:=fun h=>hZ (hz.2 h)
  have l1:=h1.le
  have l2:=h2.le
  have hge:=hf.ge
  have hlt:=hf.lt
  have e1:=h1.eq
  have e2:=h2.eq
  simp only [am] at l1 l2
  refine ⟨by unfold am;omega,by omega,by have:=h2.pos;omega,?_⟩
  rw [cf_on hD (by rw [hm];exact hG),hq,hm]
  congr 1
  have hp:=h2.pos
  refine cf_same _ _ _ _ (by omega) (by omega) ?_
  have e3:((G.toNat:Nat):Int)=G:=by omega
  rw [e3]
  have hVs:=h1.pos
  have k:((D:Int)*Vi - Zi*G)*(Vs*Zs)=0:=by
   have:Zs*(D:Int)*(Zi*Zs)=G*(Vs:Int)*((Vs:Int)*(Vi:Int)):=by rw [e1,e2]
   grind
  rcases Int.mul_eq_zero.1 k with k | k
  ·omega
  ·rcases Int.mul_eq_zero.1 k with k | k <;> omega
structure SegV (o:Option Nat) (W:World) (ao:Option Addr) (X n:Nat):Prop where
 seg:Seg W ao X n
 clr:0 < n→∀ b off,ao=some ⟨b,off,none⟩→o≠some b
theorem SegV.later {o:Option Nat} {W W':World} {ao:Option Addr} {X n:Nat} (h:SegV o W ao X n) (hb:Below W.heap.size W W'):SegV o W' ao X n:=⟨h.seg.later hb,h.clr⟩
theorem SegV.grown {o:Option Nat} {W w1:World} {ao:Option Addr} {X n g:Nat} (h:SegV o W ao X n) (hg:W.grownBy w1 o) (hgo:o=some g∨W.heap.size≤g):SegV (some g) w1 ao X n:=by
 refine ⟨⟨h.seg.1,fun hn=>?_⟩,fun hn b off e=>?_⟩
 ·obtain ⟨b,off,rfl,hl,hc⟩:=h.seg.2 hn
  exact ⟨b,off,rfl,Nat.lt_of_lt_of_le hl hg.size,fun i hi=>hg.cell (hc i hi) (Ne.symm (h.clr hn b off rfl))⟩
 ·rcases hgo with k | k
  ·rw [←k]
   exact h.clr hn b off e
  ·obtain ⟨b',off',e',hl,_⟩:=h.seg.2 hn
   rw [e] at e'
   simp only [Option.some.injEq,Addr.mk.injEq,and_true] at e'
   intro h9
   have:=Option.some.inj h9
   omega
theorem SegV.of_new {o:Option Nat} {W W':World} {ao:Option Addr} {X n:Nat} (h:New W W' ao X n) (ho:∀ k,o=some k→k < W.heap.size):SegV o W' ao X n:=by
 refine ⟨h.seg,fun hn b off e k=>?_⟩
 obtain ⟨b',off',e',hl,_⟩:=h.fresh hn
 rw [e] at e'
 simp only [Option.some.injEq,Addr.mk.injEq,and_true] at e'
 have:=ho b k
 omega
structure LI (base:Nat) (W:World) (v:Value) (s:List (Int × Option Addr)):Prop where
 row:W.ownsRow base 25 2 v s.length (cellsI s)
 num:∀ x∈s,SegV v.ownBlock W x.2 (am x.1) (ln (am x.1))
theorem LI.lt {base:Nat} {W:World} {v:Value} {s:List (Int × Option Addr)} (h:LI base W v s):∀ k,v.ownBlock=some k→k < W.heap.size:=fun k hk=>(h.row.lt k hk).2
theorem LI.later {base:Nat} {W W':World} {v:Value} {s:List (Int × Option Addr)} (h:LI base W v s) (hb:Below W.heap.size W W'):LI base W' v s :=
 ⟨ownsRow_keep h.row fun k cur t fz hh=>(hb.block k (Array.getElem?_eq_some_iff.1 hh).1).trans hh,fun x hx=>(h.num x hx).later hb⟩
theorem LI.il {base:Nat} {W:World} {v:Value} {s:List (Int × Option Addr)} {l:List Int} (h:LI base W v s) (e:s.map Prod.fst=l):IL base W v l:=⟨s,e,h.row,fun x hx=>(h.num x hx).seg⟩
theorem LI.grown {base:Nat} {W w1:World} {v:Value} {s:List (Int × Option Addr)} {x:Int × Option Addr} {g cap:Nat} (h:LI base W v s) (hx:SegV v.ownBlock W x.2 (am x.1) (ln (am x.1)))
  (hown:w1.ownsRow base 25 2 (.slice (some ⟨g,0,none⟩) (s.length+1) cap) (s.length+1) (cellsI s ++ csI x)) (hg:W.grownBy w1 v.ownBlock) (hgo:v.ownBlock=some g∨W.heap.size≤g) :
  LI base w1 (.slice (some ⟨g,0,none⟩) (s.length+1) cap) (s ++ [x]):=by
 refine ⟨by rw [cellsI_snoc,List.length_append];exact hown,fun y hy=>?_⟩
 rcases List.mem_append.1 hy with h1 | h1
 ·exact (h.num y h1).grown hg hgo
 ·obtain rfl:=List.mem_singleton.1 h1
  exact hx.grown hg hgo
theorem LI.set3 {base:Nat} {W:World} {v:Value} {s:List (Int × Option Addr)} {c:Nat} {u0 u1 u2 z0 z1 z2:Value} (h:LI base W v s) (hc:v.ownBlock≠some c) (ht:Thr W c z0 z1 z2) (k0:∀ i,z0≠.int .u32 i) (k1:∀ i,z1≠.int .u32 i) (k2:∀ i,z2≠.int .u32 i):LI base (set3 W c u0 u1 u2) v s:=by
 refine ⟨⟨h.row.1,?_⟩,fun x hx=>⟨ht.seg k0 k1 k2 (h.num x hx).seg,(h.num x hx).clr⟩⟩
 rcases h.row.2 with h0 | ⟨g,cap,cur,hv,hg,hh,rest⟩
 ·exact Or.inl h0
 ·refine Or.inr ⟨g,cap,cur,hv,hg,?_,rest⟩
  have hne:g≠c:=fun e=>hc (by rw [hv];simp [Value.ownBlock,e])
  rw [Below.heap_setCell _ _ _ _ hne,Below.heap_setCell _ _ _ _ hne,Below.heap_setCell _ _ _ _ hne]
  exact hh
theorem am_rnJ (s:Bool) (X Y:Nat):am (rn s X Y)≤X:=by
 unfold rn
 split
 ·simp [am]
 ·unfold sg am
  split <;> omega
theorem lnF {s:Bool} {X Y u:Nat} {D Zf G:Int} (hf:Fl (rn s X Y) D Zf G) (hD:0 < D) (hX:X < BB ^ u) (hu:u≤1048577):ln (am Zf)≤1048579:=by
 have h1:=Fl.am hf hD
 have h2:=am_rnJ s X Y
 have h3:ln (am Zf)≤ln (X+1):=ln_mono (by omega)
 have h4:ln (X+1)≤u+1:=ln_le_of_lt (by
  have h5:BB ^ u*1 < BB ^ u*BB:=Nat.mul_lt_mul_of_pos_left (by rw [BB_eq];omega) (BBp u)
  rw [Nat.pow_succ]
  omega)
 omega
theorem lnD {V v:Nat} (hV:V < BB ^ v) (hv:v≤1048577):ln (rd V)≤1048577:=by
 by_cases h0:V=0
 ·subst h0
  have:ln (rd 0)≤1:=ln_le_of_lt (by simp [rd,BB_eq])
  omega
 ·rw [rd_of h0]
  have:=ln_le_of_lt hV
  omega
set_option maxHeartbeats 8000000 in
set_option maxRecDepth 100000 in
theorem vExpand_is (N:Nat) (s:Bool) (ao:Option Addr) (n cap X:Nat) (ao2:Option Addr) (m cap2 Y:Nat) (w:World) (hc:n≤cap) (hm:n≤1048577) (hS:Seg w ao X n) (hc2:m≤cap2) (hm2:m≤1048577) (hS2:Seg w ao2 Y m) (hN:(cf (rn s X Y) (rd Y)).length≤N) (hN2:N≤4294967296) :
  Calls Tryz.prog 53 #[.agg #[.bool s,.slice ao n cap,.slice ao2 m cap2]] w fun e w'=>∃ v,e=.returned v∧IL w.heap.size w' v (cf (rn s X Y) (rd Y))∧Below w.heap.size w w':=by
 obtain ⟨i0,hi,hz0,hz1,hz2⟩:=info_parts info_IntJ
 go_enter Tryz.func53,Tryz.ntmps53
 go_wp2_with fail
 go_loopw [3] (fun vo wr=>∃ s' sr p u cu U q v cv V,Thr wr w.heap.size (.bool sr) (.slice p u cu) (.slice q v cv)∧vo.ownBlock≠some w.heap.size∧LI w.heap.size wr vo s'∧SegV vo.ownBlock wr p U u∧SegV vo.ownBlock wr q V v∧u≤cu∧u≤1048577∧v≤cv∧v≤1048577∧s'.map Prod.fst ++ cf (rn sr U V) (rd V)=cf (rn s X Y) (rd Y)∧Below w.heap.size w wr) (fun _ wr=>rd (numAt w.heap.size 2 wr))
 case atStart =>
  have bA:=below_alloc (w:=w) (.cells #[.bool s,.slice ao n cap,.slice ao2 m cap2] 27)
  have bB:=below_alloc (w:=w.alloc (.cells #[.bool s,.slice ao n cap,.slice ao2 m cap2] 27)) (.cells #[] 25)
  have hr:=World.ownsRow_made (base:=w.heap.size) (e:=25) (size:=2) (w.alloc (.cells #[.bool s,.slice ao n cap,.slice ao2 m cap2] 27)) #[] 0 (by simp) (by simp [maxLen]) (by simp)
  rw [World.size_alloc] at hr
  have off:∀ {a9:Option Addr} {X9 n9:Nat},Seg w a9 X9 n9→SegV (Value.slice (some ⟨w.heap.size+1,0,none⟩) 0 0).ownBlock ((w.alloc (.cells #[.bool s,.slice ao n cap,.slice ao2 m cap2] 27)).alloc (.cells #[] 25)) a9 X9 n9:=fun h=>⟨(h.later bA).later bB,fun hn b9 off9 e=>by
   obtain ⟨b8,off8,e8,hl,_⟩:=h.2 hn
   rw [e] at e8
   simp only [Option.some.injEq,Addr.mk.injEq,and_true] at e8
   simp only [Value.ownBlock,ne_eq,Option.some.injEq]
   omega⟩
  exact ⟨[],s,ao,n,cap,X,ao2,m,cap2,Y,⟨⟨by go_simp,by go_simp,by go_simp⟩,below_row bB (row_new w _ 27)⟩,by simp [Value.ownBlock],⟨hr,by simp⟩,off hS,off hS2,hc,hm,hc2,hm2,rfl,bA.trans (bB.mono bA.size)⟩
 case round =>
  obtain ⟨s',sr,p,u,cu,U,q,v,cv,V,hT,hne,hL,sp,sq,h1,h2,h3,h4,hcf,hB⟩:=hrel
  clear hS hS2 hc hm hc2 hm2
  obtain ⟨Zf,G,hf⟩:=fl_ex (rn sr U V) (D:=((rd V:Nat):Int)) (by have:=rd_pos V;omega)
  obtain ⟨Zs,Vs,hs⟩:=low_ex G (rd V:Nat) (rd_ne V)
  have hDn:rd V≠0:=by have:=rd_pos V;omega
  have lD:ln (rd V)≤1048577:=lnD (sq.seg.1) h4
  have lF:ln (am Zf)≤1048579:=lnF hf (by have:=rd_pos V;omega) sp.seg.1 (by omega)
  have hsl:=hs.le
  have lZs:ln (am Zs)≤1048577:=Nat.le_trans (ln_mono (by have:=hf.ge;have:=hf.lt;simp only [am] at hsl ⊢;omega)) lD
  have lVs:ln Vs≤1048577:=Nat.le_trans (ln_mono (by have:=hsl.2;simp only [am] at this;omega)) lD
  have hlen:s'.length < 4294967296:=by
   have h9:(cf (rn sr U V) (rd V)).length≠0:=by
    by_cases h0:rn sr U V % ((rd V:Nat):Int)=0
    ·rw [cf_end hDn h0];simp
    ·rw [cf_on hDn h0];simp
   have h8:=congrArg List.length hcf
   rw [List.length_append,List.length_map] at h8
   omega
  have GF:=hide' (vqFloor_is sr p u cu U q v cv V Zf G wr h1 (by omega) sp.seg h3 (by omega) sq.seg hf)
  obtain ⟨x0,x1,x2⟩:=hT.1
  have hme:=hide' (numAt_eq x2 sq.seg)
  have HCF:=hide' hcf
  have HF:=hide' hf
  have HS:=hide' hs
  have HN:=hide' hN
  clear hcf hf hs hN
  go_wp2_with (first | (go_at_call 32;refine GF.out.mono ?_;rintro e w1 ⟨pf,rfl,n1⟩;have b2:=((Below.refl w1.heap.size w1).alloc (Nat.le_refl _) (.cells #[.bool (ng Zf),.slice pf (ln (am Zf)) (ln (am Zf))] 25)).alloc (by simp) (.cells #[.bool (ng Zf),.slice pf (ln (am Zf)) (ln (am Zf))] 25);have hL2:=(hL.later n1.below).later b2) | (at_builtin;refine wpList_append_lies _ (by rfl) _ _ _ (by rfl) w.heap.size 25 i0 _ 2 32 Tryz.underlying76 hi hz0 hz1 hz2 rfl (by decide) _ _ _ (by rfl) hL2.row ⟨w1.heap.size+1,0,none⟩ 1 1 (csI (Zf,pf)) (by rfl) (by rfl) (by have:=World.news_of_block (World.alloc_heap_new (w1.alloc (.cells #[.bool (ng Zf),.slice pf (ln (am Zf)) (ln (am Zf))] 25)) (.cells #[.bool (ng Zf),.slice pf (ln (am Zf)) (ln (am Zf))] 25));rwa [World.size_alloc] at this) (csI_one _) (by decide) (by simp [maxLen];omega) (by omega) (by have:=hB.size;have:=n1.below.size;simp;omega) _ rfl ?_;intro g capg w2 hown hgrow hgo hglt))
  clear GF x0 x1 x2
  simp only [World.size_alloc] at hgo
  obtain ⟨c4,hc4⟩:∃ c4,w1.heap.size=c4:=⟨_,rfl⟩
  have m4:u3.ownBlock≠some c4:=fun e=>by have:=hL.lt c4 e;have:=n1.below.size;omega
  have b1:=n1.below
  have bT:=b1.trans (b2.mono b1.size)
  have q4:((w1.alloc (.cells #[.bool (ng Zf),.slice pf (ln (am Zf)) (ln (am Zf))] 25)).alloc (.cells #[.bool (ng Zf),.slice pf (ln (am Zf)) (ln (am Zf))] 25)).heap.size=c4+2:=by simp;omega
  have hg2:=hgo.imp id (fun h=>(show ((w1.alloc (.cells #[.bool (ng Zf),.slice pf (ln (am Zf)) (ln (am Zf))] 25)).alloc (.cells #[.bool (ng Zf),.slice pf (ln (am Zf)) (ln (am Zf))] 25)).heap.size≤g by rw [q4];omega))
  have sF:=(SegV.of_new n1 (fun k hk=>Nat.lt_of_lt_of_le (hL.lt k hk) (Nat.le_refl _))).later b2
  have sp2:=(sp.later bT).grown hgrow hg2
  have sq2:=(sq.later bT).grown hgrow hg2
  have sF2:=sF.grown hgrow hg2
  have hL3:=hL2.grown (x:=(Zf,pf)) sF hown hgrow hg2
  have hT2:=hT.later bT
  have hneg:(Value.slice (some ⟨g,0,none⟩) (s'.length+1) capg).ownBlock≠some w.heap.size:=by simp only [Value.ownBlock,ne_eq,Option.some.injEq];intro e;rcases hgo with h | h;exact hne (by rw [h,e]);(have:=hB.size;have:=b1.size;omega)
  have y0:w2.cell? ⟨c4,0,none⟩=some (.bool (ng Zf)):=hgrow.cell (by subst hc4;go_simp) (Ne.symm m4)
  have y1:w2.cell? ⟨c4,1,none⟩=some (.slice pf (ln (am Zf)) (ln (am Zf))):=hgrow.cell (by subst hc4;go_simp) (Ne.symm m4)
  have x0:=hgrow.cell hT2.1.1 (Ne.symm hne)
  have x1:=hgrow.cell hT2.1.2.1 (Ne.symm hne)
  have x2:=hgrow.cell hT2.1.2.2 (Ne.symm hne)
  have xR:Row w2 w.heap.size:=by obtain ⟨cur,t,h⟩:=hT2.2;exact ⟨cur,t,(hgrow.block _ hT2.2.lt (Ne.symm hne)).trans h⟩
  have hB2:Below w.heap.size w w2:=(hB.trans (bT.mono hB.size)).grown hgrow (by have:=hB.size;have:=bT.size;omega) (fun k hk=>(hL.row.lt k hk).1)
  have z1:w.heap.size < w2.heap.size:=xR.lt
  have z2:c4 < w2.heap.size:=World.block_lt_of_cell? w2 ⟨c4,0,none⟩ y0
  clear hT hL sp sq hB n1 b2 hL2 hown hgrow hgo hg2 hglt m4 b1 bT q4 sF hT2 hne
  rw [hc4]
  clear hc4 w1
  obtain ⟨V1,hV1⟩:∃ V1:Nat,V1=1:=⟨_,rfl⟩
  have GI':∀ w',Seg w' pf (am Zf) (ln (am Zf))→Calls Tryz.prog 31 #[.agg #[.bool (ng Zf),.slice pf (ln (am Zf)) (ln (am Zf))]] w' fun e w''=>∃ pi qi,e=.returned (.agg #[.bool (ng Zf),.slice pi (ln (am Zf)) (ln (am Zf)),.slice qi (ln V1) (ln V1)])∧Below w'.heap.size w' w''∧Seg w'' pi (am Zf) (ln (am Zf))∧Seg w'' qi V1 (ln V1):=fun w' k=>by
   subst hV1
   refine (vqInt_is Zf pf w' (by omega) k).mono ?_
   rintro e w'' ⟨pi,qi,rfl,n1,n2⟩
   exact ⟨pi,qi,rfl,n1.below,n1.seg,n2.seg⟩
  have GS':∀ w' pi qi,Seg w' p U u→Seg w' q V v→Seg w' pi (am Zf) (ln (am Zf))→Seg w' qi V1 (ln V1)→Calls Tryz.prog 36 #[.agg #[.bool sr,.slice p u cu,.slice q v cv],.agg #[.bool (ng Zf),.slice pi (ln (am Zf)) (ln (am Zf)),.slice qi (ln V1) (ln V1)]] w' fun e w''=>∃ pz qz,e=.returned (.agg #[.bool (ng Zs),.slice pz (ln (am Zs)) (ln (am Zs)),.slice qz (ln Vs) (ln Vs)])∧Below w'.heap.size w' w''∧Seg w'' pz (am Zs) (ln (am Zs))∧Seg w'' qz Vs (ln Vs):=fun w' pi qi k1 k2 k3 k4=>by
   subst hV1
   have hLo:Low (rn sr U V*(rd 1:Nat)+-(rn (ng Zf) (am Zf) 1)*(rd V:Nat)) ((rd V:Nat)*(rd 1:Nat)) Zs Vs:=by
    have e1:rn (ng Zf) (am Zf) 1=Zf:=rn_nf (by omega)
    have e2:((rd 1:Nat):Int)=1:=rfl
    rw [e1,e2,Int.mul_one,Int.mul_one]
    have h9:=HF.out.eq
    have h8:rn sr U V+-Zf*((rd V:Nat):Int)=G:=by rw [←h9];grind
    rw [h8]
    exact HS.out
   refine (vqSub_is sr p u cu U q v cv V (ng Zf) pi (ln (am Zf)) (ln (am Zf)) (am Zf) qi (ln 1) (ln 1) 1 Zs Vs w' h1 (by omega) k1 h3 (by omega) k2 (Nat.le_refl _) (by omega) k3 (Nat.le_refl _) (by rw [ln_one];omega) k4 hLo).mono ?_
   rintro e w'' ⟨pz,qz,rfl,n1,n2⟩
   exact ⟨pz,qz,rfl,n1.below,n1.seg,n2.seg⟩
  have GI:=hide' GI'
  have GS:=hide' GS'
  clear GI' GS' hV1
  have kp:=sp2.seg
  have kq:=sq2.seg
  have kf:=sF2.seg
  go_cut [5] from 7 to 25 (fun s5 wx=>∃ wh9 c pz qz,wh9=wx∧s5=.pointer (some ⟨c,0,none⟩)∧Thr wx c (.bool (ng Zs)) (.slice pz (ln (am Zs)) (ln (am Zs))) (.slice qz (ln Vs) (ln Vs))∧Below w2.heap.size w2 wx∧Seg wx pz (am Zs) (ln (am Zs))∧Seg wx qz Vs (ln Vs))
  case first =>
   have bT:Below w2.heap.size w2 w2:=Below.refl _ _
   have bD:Below w2.heap.size w2 w2.drew:=(Below.refl _ _).drew
   have kx0:=below_cell bD x0
   have kx1:=below_cell bD x1
   have kx2:=below_cell bD x2
   have ky0:=below_cell bD y0
   have ky1:=below_cell bD y1
   replace bT:=bT.trans (bD.mono bT.size)
   replace kp:=kp.later bD
   replace kq:=kq.later bD
   replace kf:=kf.later bD
   refine wp_region_held_drew (S:=fun w'=>w'.cell? ⟨w.heap.size,0,none⟩=some (.bool sr)∧w'.cell? ⟨w.heap.size,1,none⟩=some (.slice p u cu)∧w'.cell? ⟨w.heap.size,2,none⟩=some (.slice q v cv)∧w'.cell? ⟨c4,0,none⟩=some (.bool (ng Zf))∧w'.cell? ⟨c4,1,none⟩=some (.slice pf (ln (am Zf)) (ln (am Zf)))) (by kernel_rfl) ⟨kx0,kx1,kx2,ky0,ky1⟩ (fun hHeld=>?_)
   clear kx0 kx1 kx2 ky0 ky1
   generalize w2.drew=wF0 at bD kp kq kf bT hHeld ⊢
   clear bD x0 x1 x2 y0 y1
   refine tk 0 (v:=?_) rfl (Or.inl ⟨by rfl,?_⟩) ?_
   rotate_left
   ·intro w9 hSw
    go_simp
    first | done | with_reducible rfl
   simp only [pP,pN,pS,pZ,pC]
   refine tk 1 (v:=?_) rfl (Or.inl ⟨by rfl,?_⟩) ?_
   rotate_left
   ·intro w9 hSw
    go_simp
    first | done | with_reducible rfl
   simp only [pP,pN,pS,pZ,pC]
   refine wpAnyH_ready (rs:=[2,4]) (by kernel_rfl) (by simp) ?_
   refine consT rfl (fun KK hKK=>?_) ?_
   ·skip
    go_simp
    refine (GI.out _ kf).mono ?_
    rintro e wF1 ⟨pi,qi,rfl,bV,k1,k2⟩
    have bC:=bV
    replace bT:=bT.trans (bC.mono bT.size)
    replace kp:=kp.later bC
    replace kq:=kq.later bC
    replace kf:=kf.later bC
    replace hHeld:=(⟨below_cell bC hHeld.1,below_cell bC hHeld.2.1,below_cell bC hHeld.2.2.1,below_cell bC hHeld.2.2.2.1,below_cell bC hHeld.2.2.2.2⟩:_∧_∧_∧_∧_)
    clear bC
    go_wp2_with fail
    clear bV
    refine hKK.out _ _ hHeld ?_
    clear hHeld
    intro hHeld
    clear hKK KK
    try simp only [pP,pN,pS,pZ,pC]
    refine wpAnyH_ready (rs:=[3,4]) (by kernel_rfl) (by simp) ?_
    refine consT rfl (fun KK hKK=>?_) ?_
    ·skip
     go_simp
     refine (GS.out _ pi qi kp kq k1 k2).mono ?_
     rintro e wF2 ⟨pz,qz,rfl,bV,k3,k4⟩
     have bC:=bV
     replace bT:=bT.trans (bC.mono bT.size)
     replace kp:=kp.later bC
     replace kq:=kq.later bC
     replace kf:=kf.later bC
     replace k1:=k1.later bC
     replace k2:=k2.later bC
     replace hHeld:=(⟨below_cell bC hHeld.1,below_cell bC hHeld.2.1,below_cell bC hHeld.2.2.1,below_cell bC hHeld.2.2.2.1,below_cell bC hHeld.2.2.2.2⟩:_∧_∧_∧_∧_)
     clear bC
     go_wp2_with fail
     clear bV
     refine hKK.out _ _ hHeld ?_
     clear hHeld
     intro hHeld
     clear hKK KK
     try simp only [pP,pN,pS,pZ,pC]
     refine wpAnyH_ready (rs:=[4]) (by kernel_rfl) (by simp) ?_
     refine cons' rfl (fun KK hKK=>?_)
     go_simp
     have vN:Thr (wF2.alloc (.cells #[.bool false,.slice none 0 0,.slice none 0 0] 27)) wF2.heap.size (.bool false) (.slice none 0 0) (.slice none 0 0):=⟨⟨by go_simp,by go_simp,by go_simp⟩,row_new wF2 _ 27⟩
     have bA:=below_alloc (w:=wF2) (.cells #[.bool false,.slice none 0 0,.slice none 0 0] 27)
     have hc9:w2.heap.size≤wF2.heap.size:=bT.size
     generalize wF2.alloc (.cells #[.bool false,.slice none 0 0,.slice none 0 0] 27)=wF3 at vN bA ⊢
     replace bT:=bT.trans (bA.mono bT.size)
     replace kp:=kp.later bA
     replace kq:=kq.later bA
     replace kf:=kf.later bA
     replace k1:=k1.later bA
     replace k2:=k2.later bA
     replace k3:=k3.later bA
     replace k4:=k4.later bA
     replace hHeld:=(⟨below_cell bA hHeld.1,below_cell bA hHeld.2.1,below_cell bA hHeld.2.2.1,below_cell bA hHeld.2.2.2.1,below_cell bA hHeld.2.2.2.2⟩:_∧_∧_∧_∧_)
     clear bA
     refine hKK.out _ _ hHeld ?_
     clear hHeld
     intro hHeld
     clear hKK KK
     try simp only [pP,pN,pS,pZ,pC]
     obtain ⟨cc,hcc⟩:∃ cc,wF2.heap.size=cc:=⟨_,rfl⟩
     rw [hcc] at vN hc9
     try rw [hcc]
     clear hcc
     refine wpAnyH_ready (rs:=[5]) (by kernel_rfl) (by simp) ?_
     refine cons' rfl (fun KK hKK=>?_)
     have fz:=fun o=>vN.2.frozen o
     replace k3:=vN.seg (u0:=.bool (ng Zs)) (u1:=.slice pz (ln (am Zs)) (ln (am Zs))) (u2:=.slice qz (ln Vs) (ln Vs)) (by simp) (by simp) (by simp) k3
     replace k4:=vN.seg (u0:=.bool (ng Zs)) (u1:=.slice pz (ln (am Zs)) (ln (am Zs))) (u2:=.slice qz (ln Vs) (ln Vs)) (by simp) (by simp) (by simp) k4
     replace bT:=below_set3 (u0:=.bool (ng Zs)) (u1:=.slice pz (ln (am Zs)) (ln (am Zs))) (u2:=.slice qz (ln Vs) (ln Vs)) bT hc9
     have hH2:=(⟨(set3_far (w:=wF3) (c:=cc) (b:=w.heap.size) (o:=0) (u0:=.bool (ng Zs)) (u1:=.slice pz (ln (am Zs)) (ln (am Zs))) (u2:=.slice qz (ln Vs) (ln Vs)) (by omega)).trans hHeld.1,(set3_far (w:=wF3) (c:=cc) (b:=w.heap.size) (o:=1) (u0:=.bool (ng Zs)) (u1:=.slice pz (ln (am Zs)) (ln (am Zs))) (u2:=.slice qz (ln Vs) (ln Vs)) (by omega)).trans hHeld.2.1,(set3_far (w:=wF3) (c:=cc) (b:=w.heap.size) (o:=2) (u0:=.bool (ng Zs)) (u1:=.slice pz (ln (am Zs)) (ln (am Zs))) (u2:=.slice qz (ln Vs) (ln Vs)) (by omega)).trans hHeld.2.2.1,(set3_far (w:=wF3) (c:=cc) (b:=c4) (o:=0) (u0:=.bool (ng Zs)) (u1:=.slice pz (ln (am Zs)) (ln (am Zs))) (u2:=.slice qz (ln Vs) (ln Vs)) (by omega)).trans hHeld.2.2.2.1,(set3_far (w:=wF3) (c:=cc) (b:=c4) (o:=1) (u0:=.bool (ng Zs)) (u1:=.slice pz (ln (am Zs)) (ln (am Zs))) (u2:=.slice qz (ln Vs) (ln Vs)) (by omega)).trans hHeld.2.2.2.2⟩:_∧_∧_∧_∧_)
     have vN2:=vN.put (u0:=.bool (ng Zs)) (u1:=.slice pz (ln (am Zs)) (ln (am Zs))) (u2:=.slice qz (ln Vs) (ln Vs))
     have z0_:=vN.1.1
     have z1_:=vN.1.2.1
     have z2_:=vN.1.2.2
     go_simp
     clear z0_ z1_ z2_ vN fz
     refine hKK.out _ _ hH2 ?_
     clear hHeld
     intro hHeld
     clear hKK KK
     try simp only [pP,pN,pS,pZ,pC]
     clear hH2
     refine wpAnyH_done (by kernel_rfl) ?_ _
     go_wp2_with fail
     go_meet
     exact ⟨_,cc,pz,qz,rfl,rfl,vN2,bT,k3,k4⟩
    refine consT rfl (fun KK hKK=>?_) ?_
    ·skip
     go_simp
     have vN:Thr (wF1.alloc (.cells #[.bool false,.slice none 0 0,.slice none 0 0] 27)) wF1.heap.size (.bool false) (.slice none 0 0) (.slice none 0 0):=⟨⟨by go_simp,by go_simp,by go_simp⟩,row_new wF1 _ 27⟩
     have bA:=below_alloc (w:=wF1) (.cells #[.bool false,.slice none 0 0,.slice none 0 0] 27)
     have hc9:w2.heap.size≤wF1.heap.size:=bT.size
     generalize wF1.alloc (.cells #[.bool false,.slice none 0 0,.slice none 0 0] 27)=wF4 at vN bA ⊢
     replace bT:=bT.trans (bA.mono bT.size)
     replace kp:=kp.later bA
     replace kq:=kq.later bA
     replace kf:=kf.later bA
     replace k1:=k1.later bA
     replace k2:=k2.later bA
     replace hHeld:=(⟨below_cell bA hHeld.1,below_cell bA hHeld.2.1,below_cell bA hHeld.2.2.1,below_cell bA hHeld.2.2.2.1,below_cell bA hHeld.2.2.2.2⟩:_∧_∧_∧_∧_)
     clear bA
     refine hKK.out _ _ hHeld ?_
     clear hHeld
     intro hHeld
     clear hKK KK
     try simp only [pP,pN,pS,pZ,pC]
     obtain ⟨cc,hcc⟩:∃ cc,wF1.heap.size=cc:=⟨_,rfl⟩
     rw [hcc] at vN hc9
     try rw [hcc]
     clear hcc
     refine wpAnyH_ready (rs:=[3]) (by kernel_rfl) (by simp) ?_
     refine cons' rfl (fun KK hKK=>?_)
     go_simp
     refine (GS.out _ pi qi kp kq k1 k2).mono ?_
     rintro e wF5 ⟨pz,qz,rfl,bV,k3,k4⟩
     have bC:=bV
     replace bT:=bT.trans (bC.mono bT.size)
     replace kp:=kp.later bC
     replace kq:=kq.later bC
     replace kf:=kf.later bC
     replace k1:=k1.later bC
     replace k2:=k2.later bC
     replace vN:=vN.later bC
     replace hHeld:=(⟨below_cell bC hHeld.1,below_cell bC hHeld.2.1,below_cell bC hHeld.2.2.1,below_cell bC hHeld.2.2.2.1,below_cell bC hHeld.2.2.2.2⟩:_∧_∧_∧_∧_)
     clear bC
     go_wp2_with fail
     clear bV
     refine hKK.out _ _ hHeld ?_
     clear hHeld
     intro hHeld
     clear hKK KK
     try simp only [pP,pN,pS,pZ,pC]
     refine wpAnyH_ready (rs:=[5]) (by kernel_rfl) (by simp) ?_
     refine cons' rfl (fun KK hKK=>?_)
     have fz:=fun o=>vN.2.frozen o
     replace k3:=vN.seg (u0:=.bool (ng Zs)) (u1:=.slice pz (ln (am Zs)) (ln (am Zs))) (u2:=.slice qz (ln Vs) (ln Vs)) (by simp) (by simp) (by simp) k3
     replace k4:=vN.seg (u0:=.bool (ng Zs)) (u1:=.slice pz (ln (am Zs)) (ln (am Zs))) (u2:=.slice qz (ln Vs) (ln Vs)) (by simp) (by simp) (by simp) k4
     replace bT:=below_set3 (u0:=.bool (ng Zs)) (u1:=.slice pz (ln (am Zs)) (ln (am Zs))) (u2:=.slice qz (ln Vs) (ln Vs)) bT hc9
     have hH2:=(⟨(set3_far (w:=wF5) (c:=cc) (b:=w.heap.size) (o:=0) (u0:=.bool (ng Zs)) (u1:=.slice pz (ln (am Zs)) (ln (am Zs))) (u2:=.slice qz (ln Vs) (ln Vs)) (by omega)).trans hHeld.1,(set3_far (w:=wF5) (c:=cc) (b:=w.heap.size) (o:=1) (u0:=.bool (ng Zs)) (u1:=.slice pz (ln (am Zs)) (ln (am Zs))) (u2:=.slice qz (ln Vs) (ln Vs)) (by omega)).trans hHeld.2.1,(set3_far (w:=wF5) (c:=cc) (b:=w.heap.size) (o:=2) (u0:=.bool (ng Zs)) (u1:=.slice pz (ln (am Zs)) (ln (am Zs))) (u2:=.slice qz (ln Vs) (ln Vs)) (by omega)).trans hHeld.2.2.1,(set3_far (w:=wF5) (c:=cc) (b:=c4) (o:=0) (u0:=.bool (ng Zs)) (u1:=.slice pz (ln (am Zs)) (ln (am Zs))) (u2:=.slice qz (ln Vs) (ln Vs)) (by omega)).trans hHeld.2.2.2.1,(set3_far (w:=wF5) (c:=cc) (b:=c4) (o:=1) (u0:=.bool (ng Zs)) (u1:=.slice pz (ln (am Zs)) (ln (am Zs))) (u2:=.slice qz (ln Vs) (ln Vs)) (by omega)).trans hHeld.2.2.2.2⟩:_∧_∧_∧_∧_)
     have vN2:=vN.put (u0:=.bool (ng Zs)) (u1:=.slice pz (ln (am Zs)) (ln (am Zs))) (u2:=.slice qz (ln Vs) (ln Vs))
     have z0_:=vN.1.1
     have z1_:=vN.1.2.1
     have z2_:=vN.1.2.2
     go_simp
     clear z0_ z1_ z2_ vN fz
     refine hKK.out _ _ hH2 ?_
     clear hHeld
     intro hHeld
     clear hKK KK
     try simp only [pP,pN,pS,pZ,pC]
     clear hH2
     refine wpAnyH_done (by kernel_rfl) ?_ _
     go_wp2_with fail
     go_meet
     exact ⟨_,cc,pz,qz,rfl,rfl,vN2,bT,k3,k4⟩
    exact AllReadyH.nil
   refine consT rfl (fun KK hKK=>?_) ?_
   ·skip
    go_simp
    have vN:Thr (wF0.alloc (.cells #[.bool false,.slice none 0 0,.slice none 0 0] 27)) wF0.heap.size (.bool false) (.slice none 0 0) (.slice none 0 0):=⟨⟨by go_simp,by go_simp,by go_simp⟩,row_new wF0 _ 27⟩
    have bA:=below_alloc (w:=wF0) (.cells #[.bool false,.slice none 0 0,.slice none 0 0] 27)
    have hc9:w2.heap.size≤wF0.heap.size:=bT.size
    generalize wF0.alloc (.cells #[.bool false,.slice none 0 0,.slice none 0 0] 27)=wF6 at vN bA ⊢
    replace bT:=bT.trans (bA.mono bT.size)
    replace kp:=kp.later bA
    replace kq:=kq.later bA
    replace kf:=kf.later bA
    replace hHeld:=(⟨below_cell bA hHeld.1,below_cell bA hHeld.2.1,below_cell bA hHeld.2.2.1,below_cell bA hHeld.2.2.2.1,below_cell bA hHeld.2.2.2.2⟩:_∧_∧_∧_∧_)
    clear bA
    refine hKK.out _ _ hHeld ?_
    clear hHeld
    intro hHeld
    clear hKK KK
    try simp only [pP,pN,pS,pZ,pC]
    obtain ⟨cc,hcc⟩:∃ cc,wF0.heap.size=cc:=⟨_,rfl⟩
    rw [hcc] at vN hc9
    try rw [hcc]
    clear hcc
    refine wpAnyH_ready (rs:=[2]) (by kernel_rfl) (by simp) ?_
    refine cons' rfl (fun KK hKK=>?_)
    go_simp
    refine (GI.out _ kf).mono ?_
    rintro e wF7 ⟨pi,qi,rfl,bV,k1,k2⟩
    have bC:=bV
    replace bT:=bT.trans (bC.mono bT.size)
    replace kp:=kp.later bC
    replace kq:=kq.later bC
    replace kf:=kf.later bC
    replace vN:=vN.later bC
    replace hHeld:=(⟨below_cell bC hHeld.1,below_cell bC hHeld.2.1,below_cell bC hHeld.2.2.1,below_cell bC hHeld.2.2.2.1,below_cell bC hHeld.2.2.2.2⟩:_∧_∧_∧_∧_)
    clear bC
    go_wp2_with fail
    clear bV
    refine hKK.out _ _ hHeld ?_
    clear hHeld
    intro hHeld
    clear hKK KK
    try simp only [pP,pN,pS,pZ,pC]
    refine wpAnyH_ready (rs:=[3]) (by kernel_rfl) (by simp) ?_
    refine cons' rfl (fun KK hKK=>?_)
    go_simp
    refine (GS.out _ pi qi kp kq k1 k2).mono ?_
    rintro e wF8 ⟨pz,qz,rfl,bV,k3,k4⟩
    have bC:=bV
    replace bT:=bT.trans (bC.mono bT.size)
    replace kp:=kp.later bC
    replace kq:=kq.later bC
    replace kf:=kf.later bC
    replace vN:=vN.later bC
    replace k1:=k1.later bC
    replace k2:=k2.later bC
    replace hHeld:=(⟨below_cell bC hHeld.1,below_cell bC hHeld.2.1,below_cell bC hHeld.2.2.1,below_cell bC hHeld.2.2.2.1,below_cell bC hHeld.2.2.2.2⟩:_∧_∧_∧_∧_)
    clear bC
    go_wp2_with fail
    clear bV
    refine hKK.out _ _ hHeld ?_
    clear hHeld
    intro hHeld
    clear hKK KK
    try simp only [pP,pN,pS,pZ,pC]
    refine wpAnyH_ready (rs:=[5]) (by kernel_rfl) (by simp) ?_
    refine cons' rfl (fun KK hKK=>?_)
    have fz:=fun o=>vN.2.frozen o
    replace k3:=vN.seg (u0:=.bool (ng Zs)) (u1:=.slice pz (ln (am Zs)) (ln (am Zs))) (u2:=.slice qz (ln Vs) (ln Vs)) (by simp) (by simp) (by simp) k3
    replace k4:=vN.seg (u0:=.bool (ng Zs)) (u1:=.slice pz (ln (am Zs)) (ln (am Zs))) (u2:=.slice qz (ln Vs) (ln Vs)) (by simp) (by simp) (by simp) k4
    replace bT:=below_set3 (u0:=.bool (ng Zs)) (u1:=.slice pz (ln (am Zs)) (ln (am Zs))) (u2:=.slice qz (ln Vs) (ln Vs)) bT hc9
    have hH2:=(⟨(set3_far (w:=wF8) (c:=cc) (b:=w.heap.size) (o:=0) (u0:=.bool (ng Zs)) (u1:=.slice pz (ln (am Zs)) (ln (am Zs))) (u2:=.slice qz (ln Vs) (ln Vs)) (by omega)).trans hHeld.1,(set3_far (w:=wF8) (c:=cc) (b:=w.heap.size) (o:=1) (u0:=.bool (ng Zs)) (u1:=.slice pz (ln (am Zs)) (ln (am Zs))) (u2:=.slice qz (ln Vs) (ln Vs)) (by omega)).trans hHeld.2.1,(set3_far (w:=wF8) (c:=cc) (b:=w.heap.size) (o:=2) (u0:=.bool (ng Zs)) (u1:=.slice pz (ln (am Zs)) (ln (am Zs))) (u2:=.slice qz (ln Vs) (ln Vs)) (by omega)).trans hHeld.2.2.1,(set3_far (w:=wF8) (c:=cc) (b:=c4) (o:=0) (u0:=.bool (ng Zs)) (u1:=.slice pz (ln (am Zs)) (ln (am Zs))) (u2:=.slice qz (ln Vs) (ln Vs)) (by omega)).trans hHeld.2.2.2.1,(set3_far (w:=wF8) (c:=cc) (b:=c4) (o:=1) (u0:=.bool (ng Zs)) (u1:=.slice pz (ln (am Zs)) (ln (am Zs))) (u2:=.slice qz (ln Vs) (ln Vs)) (by omega)).trans hHeld.2.2.2.2⟩:_∧_∧_∧_∧_)
    have vN2:=vN.put (u0:=.bool (ng Zs)) (u1:=.slice pz (ln (am Zs)) (ln (am Zs))) (u2:=.slice qz (ln Vs) (ln Vs))
    have z0_:=vN.1.1
    have z1_:=vN.1.2.1
    have z2_:=vN.1.2.2
    go_simp
    clear z0_ z1_ z2_ vN fz
    refine hKK.out _ _ hH2 ?_
    clear hHeld
    intro hHeld
    clear hKK KK
    try simp only [pP,pN,pS,pZ,pC]
    clear hH2
    refine wpAnyH_done (by kernel_rfl) ?_ _
    go_wp2_with fail
    go_meet
    exact ⟨_,cc,pz,qz,rfl,rfl,vN2,bT,k3,k4⟩
   exact AllReadyH.nil
  case rest =>
   clear GI GS kp kq kf y0 y1 z2
   obtain ⟨w3,c5,pz,qz,hw3,rfl,hT5,bT,g1,g2⟩:=hcut
   subst hw3
   replace sp2:=sp2.later bT
   replace sq2:=sq2.later bT
   replace hL3:=hL3.later bT
   replace hB2:=hB2.trans (bT.mono hB2.size)
   have hT1:Thr w3 w.heap.size (.bool sr) (.slice p u cu) (.slice q v cv):=Thr.later ⟨⟨x0,x1,x2⟩,xR⟩ bT
   clear x0 x1 x2 xR sF2 bT
   obtain ⟨l0,l1,l2⟩:=hT5.1
   have GG:=hide' (vqSign_is (ng Zs) pz (ln (am Zs)) (ln (am Zs)) (am Zs) qz (ln Vs) (ln Vs) Vs (sgn Zs) w3 (Nat.le_refl _) (by omega) g1 (Nat.le_refl _) (by omega) g2 (by rw [rn_nf HS.out.pos]))
   by_cases h0:Zs=0
   ·have hs0:=hide' (show sgn Zs=0 by rw [h0];rfl)
    have H0:=hide' h0
    clear h0
    go_wp2_with (go_at_call 35;refine GG.out.mono ?_;rintro e w4 ⟨rfl,b4⟩;rw [hs0.out])
    go_ret
    refine ⟨_,rfl,(hL3.later b4).il ?_,hB2.trans (b4.mono hB2.size)⟩
    have hE:=(exp_step (Zi:=0) (Vi:=0) hDn HF.out HS.out).2.1 H0.out
    rw [←HCF.out,hE,List.map_append]
    rfl
   ·obtain ⟨Zi,Vi,hI⟩:=low_ex (Vs:Int) Zs h0
    have hGp:0 < G:=by have h9:=HF.out.ge;have h8:G≠0:=fun e=>h0 ((exp_step (Zi:=0) (Vi:=0) hDn HF.out HS.out).1.2 e);omega
    have hs1:=hide' (show sgn Zs=1 by rw [HS.out.sgn (by have:=rd_pos V;omega)];simp [sgn];omega)
    obtain ⟨e1,e2,e3,e4⟩:=(exp_step hDn HF.out HS.out).2.2 hI
    have GV:=hide' (fun w' k1 k2=>vqInv_is (ng Zs) pz (ln (am Zs)) (ln (am Zs)) (am Zs) qz (ln Vs) (ln Vs) Vs Zi Vi w' (Nat.le_refl _) (by omega) k1 (Nat.le_refl _) (by omega) k2 (by rw [rn_nf HS.out.pos,rd_nf HS.out.pos];exact hI))
    have HI:=hide' (And.intro h0 (And.intro hI hGp))
    have HE:=hide' (And.intro e1 (And.intro e2 (And.intro e3 e4)))
    clear h0 hI hGp e1 e2 e3 e4
    go_wp2_with (first | (go_at_call 35;refine GG.out.mono ?_;rintro e w4 ⟨rfl,b4⟩;rw [hs1.out];replace l0:=below_cell b4 l0;replace l1:=below_cell b4 l1;replace l2:=below_cell b4 l2) | (go_at_call 38;refine (GV.out _ (g1.later b4) (g2.later b4)).mono ?_;rintro e w5 ⟨pv,qv,rfl,n1,n2⟩;have hT6:=(hT1.later b4).later n1.below;have f0:=hT6.1.1;have f1:=hT6.1.2.1;have f2:=hT6.1.2.2;have fz:=fun o=>hT6.2.frozen o))
    clear GG GV l0 l1 l2 f0 f1 f2 fz
    have b5:=n1.below
    obtain ⟨e1,e2,e3,e4⟩:=HE.out
    have hv7:=hT6.put (u0:=.bool (ng Zi)) (u1:=.slice pv (ln (am Zi)) (ln (am Zi))) (u2:=.slice qv (ln Vi) (ln Vi))
    have lv:=hL3.lt
    have m1:=(SegV.of_new n1 (o:=some g) (fun k hk=>Nat.lt_of_lt_of_le (hL3.lt k hk) b4.size))
    have m2:=(SegV.of_new n2 (o:=some g) (fun k hk=>Nat.lt_of_lt_of_le (hL3.lt k hk) b4.size))
    have t1:SegV (some g) _ _ _ _:=⟨hT6.seg (u0:=.bool (ng Zi)) (u1:=.slice pv (ln (am Zi)) (ln (am Zi))) (u2:=.slice qv (ln Vi) (ln Vi)) (by simp) (by simp) (by simp) m1.seg,m1.clr⟩
    have t2:SegV (some g) _ _ _ _:=⟨hT6.seg (u0:=.bool (ng Zi)) (u1:=.slice pv (ln (am Zi)) (ln (am Zi))) (u2:=.slice qv (ln Vi) (ln Vi)) (by simp) (by simp) (by simp) m2.seg,m2.clr⟩
    have hL7:=((hL3.later b4).later b5).set3 (u0:=.bool (ng Zi)) (u1:=.slice pv (ln (am Zi)) (ln (am Zi))) (u2:=.slice qv (ln Vi) (ln Vi)) hneg hT6 (by simp) (by simp) (by simp)
    have hB7:=below_set3 (c:=w.heap.size) (u0:=.bool (ng Zi)) (u1:=.slice pv (ln (am Zi)) (ln (am Zi))) (u2:=.slice qv (ln Vi) (ln Vi)) (hB2.trans ((b4.trans (b5.mono b4.size)).mono hB2.size)) (Nat.le_refl _)
    unfold set3 at hv7 t1 t2 hL7 hB7
    have hVi:0 < Vi:=by omega
    go_roundw
    case rel =>
     refine ⟨s' ++ [(Zf,pf)],ng Zi,pv,ln (am Zi),ln (am Zi),am Zi,qv,ln Vi,ln Vi,Vi,hv7,hneg,?_,t1,t2,Nat.le_refl _,Nat.le_trans (ln_mono e1) lD,Nat.le_refl _,Nat.le_trans (ln_mono (by omega)) lD,?_,hB7⟩
     ·exact hL7
     ·rw [rn_nf hVi,rd_nf hVi,←HCF.out,e4,List.map_append]
      simp
    case measure =>
     have h9:=hv7.1.2.2
     rw [hme.out,numAt_eq h9 t2.seg,rd_nf hVi]
     omega
theorem cf_le:∀ (d:Nat) (n:Int),d≠0→∀ x∈cf n d,am x≤max (am n) d+1:=by
 intro d
 induction d using Nat.strongRecOn with
 | _ d ih =>
  intro n hd x hx
  have hq:am (n / (d:Int))≤am n+1:=by
   have f1:Fl n d (n / (d:Int)) (n % (d:Int)):=⟨by rw [Int.mul_comm];exact Int.mul_ediv_add_emod _ _,Int.emod_nonneg _ (by omega),Int.emod_lt_of_pos _ (by omega)⟩
   exact Fl.am f1 (by omega)
  by_cases h0:n % (d:Int)=0
  ·rw [cf_end hd h0] at hx
   obtain rfl:=List.mem_singleton.1 hx
   omega
  ·rw [cf_on hd h0] at hx
   rcases List.mem_cons.1 hx with h | h
   ·subst h;omega
   ·obtain ⟨m1,m2⟩:=mod_nat (n:=n) hd
    have:=ih _ m2 (d:Int) (by omega) x h
    have e:am (d:Int)=d:=by simp [am]
    omega
theorem cf_len_le {s:Bool} {X Y m:Nat} (hY:Y < BB ^ m):(cf (rn s X Y) (rd Y)).length≤64*(m+1)+1:=by
 have h1:rd Y < 2 ^ (32*(m+1)):=by
  have h3:=rd_lt hY
  rw [BB_eq,show (4294967296:Nat)=2 ^ 32 by rfl,←Nat.pow_mul] at h3
  exact h3
 have:=cf_length _ (rn s X Y) _ h1
 omega
theorem cf_elem_ln {s:Bool} {X Y n m E:Nat} (hX:X < BB ^ n) (hY:Y < BB ^ m) (hn:n≤E) (hm:m+1≤E):∀ i,ln (am ((cf (rn s X Y) (rd Y)).getD i 0))≤E+1:=fun i=>by
 have hDn:rd Y≠0:=by have:=rd_pos Y;omega
 by_cases hi:i < (cf (rn s X Y) (rd Y)).length
 ·have h1:=cf_le _ (rn s X Y) hDn _ (List.getElem_mem hi)
  rw [show (cf (rn s X Y) (rd Y)).getD i 0=(cf (rn s X Y) (rd Y))[i] by simp [List.getD,hi]]
  refine Nat.le_trans (ln_mono h1) ?_
  have h2:=rn_am s X Y
  have h3:=Nat.lt_of_lt_of_le (rd_lt hY) (pow_mono hm)
  have h4:=Nat.lt_of_lt_of_le hX (pow_mono hn)
  refine ln_le_of_lt ?_
  have h5:BB ^ E*1 < BB ^ E*BB:=Nat.mul_lt_mul_of_pos_left (by rw [BB_eq];omega) (BBp _)
  rw [Nat.pow_succ]
  omega
 ·rw [show (cf (rn s X Y) (rd Y)).getD i 0=0 by simp [List.getD,Nat.le_of_not_lt hi]]
  show ln 0≤_
  rw [ln_zero]
  omega
theorem cf_ne (n:Int) {d:Nat} (hd:d≠0):cf n d≠[]:=by
 by_cases h0:n % (d:Int)=0
 ·rw [cf_end hd h0];simp
 ·rw [cf_on hd h0];simp
theorem IL.open {base:Nat} {W:World} {v:Value} {l:List Int} (h:IL base W v l) (hl:l≠[]):∃ (g cap:Nat) (a:Nat→Option Addr),v=.slice (some ⟨g,0,none⟩) l.length cap∧g < W.heap.size ∧
  ∀ i,i < l.length→W.cell? ⟨g,i*2,none⟩=some (.bool (ng (l.getD i 0)))∧W.cell? ⟨g,i*2+1,none⟩=some (.slice (a i) (ln (am (l.getD i 0))) (ln (am (l.getD i 0))))∧Seg W (a i) (am (l.getD i 0)) (ln (am (l.getD i 0))):=by
 obtain ⟨s,rfl,hr,hs⟩:=h.ex
 have hn:0 < s.length:=by
  cases s with
  | nil=>simp at hl
  | cons x s=>simp
 obtain ⟨g,cap,rfl,_,hg⟩:=hr.form hn
 refine ⟨g,cap,fun i=>(s.getD i (0,none)).2,by rw [List.length_map],hg,fun i hi=>?_⟩
 rw [List.length_map] at hi
 obtain ⟨c0,c1⟩:=cellsI_at s i hi
 have k0:=hr.cellAt (i*2) (by omega)
 have k1:=hr.cellAt (i*2+1) (by omega)
 rw [c0] at k0
 rw [c1] at k1
 have e1:(s.map Prod.fst).getD i 0=s[i].1:=by simp [List.getD,hi]
 have e2:(s.getD i (0,none)).2=s[i].2:=by simp [List.getD,hi]
 show _∧W.cell? _=some (.slice (s.getD i (0,none)).2 _ _)∧Seg W (s.getD i (0,none)).2 _ _
 rw [e1,e2]
 exact ⟨k0,k1,hs _ (List.getElem_mem hi)⟩
def SgA (W:World) (av:Nat→Option Addr) (L:List Int):Prop:=∀ i,i < L.length→Seg W (av i) (am (L.getD i 0)) (ln (am (L.getD i 0)))
theorem SgA.later {W W':World} {av:Nat→Option Addr} {L:List Int} (h:SgA W av L) (hb:Below W.heap.size W W'):SgA W' av L:=fun i hi=>(h i hi).later hb
theorem SgA.ch {W W':World} {av:Nat→Option Addr} {L:List Int} {c:Nat} (h:SgA W av L) (k:Ch c W W') (hno:∀ o i,W.cell? ⟨c,o,none⟩≠some (.int .u32 i)):SgA W' av L:=fun i hi=>(h i hi).ch k hno
theorem IL.blk {base:Nat} {W:World} {v:Value} {l:List Int} (h:IL base W v l) (hl:l≠[]):∃ (g cap:Nat) (cur:Array Value) (av:Nat→Option Addr),v=.slice (some ⟨g,0,none⟩) l.length cap∧Blk W g cur 25∧SgA W av l ∧
  ∀ i,i < l.length→cur[i*2]?=some (.bool (ng (l.getD i 0)))∧cur[i*2+1]?=some (.slice (av i) (ln (am (l.getD i 0))) (ln (am (l.getD i 0)))):=by
 obtain ⟨g,cap,av,hv,hg,hc⟩:=h.open hl
 obtain ⟨s,rfl,hr,hs⟩:=h.ex
 rcases hr.2 with h0 | ⟨g',cap',cur,hv',hg',hh,rest⟩
 ·exfalso
  rw [hv] at h0
  simp at h0
 ·have hgg:g'=g∧cap'=cap:=by
   rw [hv] at hv'
   simp at hv'
   exact ⟨hv'.1.symm,hv'.2.symm⟩
  obtain ⟨rfl,rfl⟩:=hgg
  refine ⟨g',cap',cur,av,hv,hh,fun i hi=>(hc i hi).2.2,fun i hi=>?_⟩
  have hb:Blk W g' cur 25:=hh
  rw [←hb.cell,←hb.cell]
  exact ⟨(hc i hi).1,(hc i hi).2.1⟩
theorem segB1 {W:World} {c:Nat} {t:TypeId} (h:Blk W c #[.int .u32 1] t):Seg W (some ⟨c,0,none⟩) 1 1:=by
 refine ⟨by rw [Nat.pow_one,BB_eq];omega,fun _=>⟨c,0,rfl,h.lt,fun i hi=>?_⟩⟩
 obtain rfl:i=0:=by omega
 have h1:=h.cell 0
 simp only [List.getElem?_toArray,List.getElem?_cons_zero] at h1
 rw [h1]
 rfl
theorem seg00 (W:World) (a:Option Addr):Seg W a 0 0:=⟨by rw [Nat.pow_zero];omega,fun h=>absurd h (by omega)⟩
theorem take_on {L:List Int} {k:Nat} {P0 Q0 P1 Q1:Int} (hk:k < L.length) (h:cvg (L.take k) ((0,1),(1,0))=((P0,Q0),(P1,Q1))) :
  cvg (L.take (k+1)) ((0,1),(1,0))=((P1,Q1),(P1*L.getD k 0+P0,Q1*L.getD k 0+Q0)):=by
 have e:L.take (k+1)=L.take k ++ [L.getD k 0]:=by
  rw [List.take_add_one]
  congr 1
  simp [List.getD,hk]
 unfold cvg at h ⊢
 rw [e,List.foldl_append,h]
 rfl
theorem take_in {L:List Int} {k:Nat} (hk:k < L.length):L.take k ++ L.getD k 0 :: L.drop (k+1)=L:=by
 have e:L.getD k 0=L[k]:=by simp [List.getD,hk]
 rw [e,List.getElem_cons_drop,List.take_append_drop]
theorem lP0_of {S:Rat} {L:List Int} {k:Nat} {P0 Q0 P1 Q1:Int} (hL:cf S.num S.den=L) (hDn:S.den≠0) (hk:k < L.length) (h1:1≤k) (sS1:ln (am S.num)≤1048577) (h:cvg (L.take k) ((0,1),(1,0))=((P0,Q0),(P1,Q1))):ln (am P0)≤1048579:=by
 obtain ⟨j,rfl⟩:∃ j,k=j+1:=⟨k - 1,by omega⟩
 obtain ⟨c,hc⟩:∃ c,cvg (L.take j) ((0,1),(1,0))=c:=⟨_,rfl⟩
 obtain ⟨⟨a0,b0⟩,⟨a1,b1⟩⟩:=c
 have h2:=take_on (show j < L.length by omega) hc
 rw [h] at h2
 simp only [Prod.mk.injEq] at h2
 obtain ⟨⟨rfl,rfl⟩,_⟩:=h2
 obtain ⟨bp,_⟩:=cvg_bd hDn (s:=L.take j) (rest:=L.drop j) (by rw [List.take_append_drop,hL]) hc
 have:=lnp (Z:=P0) (X:=am S.num) (n:=ln (am S.num)) (by unfold am;omega) (ln_lt _)
 omega
theorem pick_first {S ra rb:Rat} {M:Nat} (g5:ahd S ra rb→Nrs S M ra) (g6:¬ ahd S ra rb→Nrs S M rb):(ahd S rb ra→Nrs S M rb)∧(¬ ahd S rb ra→Nrs S M ra):=by
 refine ⟨fun h=>g6 fun h2=>(h.trans h2).irrefl,fun h=>?_⟩
 rcases Classical.em (ahd S ra rb) with h2 | h2
 ·exact g5 h2
 ·have h3:=g6 h2
  rcases Classical.em (ra=rb) with e | e
  ·rw [e];exact h3
  ·rcases ahd_total (r:=S) e with h4 | h4
   ·exact absurd h4 h2
   ·exact absurd h4 h
set_option maxHeartbeats 8000000 in
set_option maxRecDepth 100000 in
theorem vBest_zero (A:RatV) (a:Option Addr) (n c M:Nat) (w:World) (hA:A.ok w) (hn:A.n≤1048576∧A.m≤1048576) (hm:n≤1048576) (hS:Seg w a M n) (h0:M=0):Calls Tryz.prog 19 #[.agg #[.bool A.s,.slice A.a A.n A.c,.slice A.b A.m A.e],.slice a n c] w (BestA w A.val M):=by
 obtain ⟨S,hS9⟩:∃ S,A.val=S:=⟨_,rfl⟩
 have sS:sz 1048577 S:=by rw [←hS9];exact szV hA (by omega) (by omega)
 have GN:=hide' (fun w' k=>vnormQ A S w' k hS9 (sS.mono (by omega)))
 have GM:=hide' (fun w' k=>rNorm_any a n c M w' (by omega) k)
 rw [hS9]
 try rw [hS9] at h1
 clear hS9
 have hl:ln M=0:=by rw [h0];exact ln_zero
 rw [hl] at GM
 have bel:Below w.heap.size w w:=Below.refl _ _
 have bb:=below_alloc (w:=w) (.cells #[.bool A.s,.slice A.a A.n A.c,.slice A.b A.m A.e] 27)
 replace hS:=hS.later bb
 replace hA:=hA.on bb
 replace bel:=bel.trans (bb.mono bel.size)
 clear bb
 have qr:=Blk.new w #[.bool A.s,.slice A.a A.n A.c,.slice A.b A.m A.e] 27
 have bb:=below_alloc (w:=(w.alloc (.cells #[.bool A.s,.slice A.a A.n A.c,.slice A.b A.m A.e] 27))) (.cells #[.bool false,.slice none 0 0,.slice none 0 0] 27)
 replace hS:=hS.later bb
 replace qr:=qr.later bb
 replace hA:=hA.on bb
 replace bel:=bel.trans (bb.mono bel.size)
 clear bb
 have qo:=Blk.new (w.alloc (.cells #[.bool A.s,.slice A.a A.n A.c,.slice A.b A.m A.e] 27)) #[.bool false,.slice none 0 0,.slice none 0 0] 27
 simp only [World.size_alloc] at qo
 go_enter Tryz.func19,Tryz.ntmps19
 go_wp2_with fail
 obtain ⟨W0,hW⟩:∃ W,((w.alloc (.cells #[.bool A.s,.slice A.a A.n A.c,.slice A.b A.m A.e] 27)).alloc (.cells #[.bool false,.slice none 0 0,.slice none 0 0] 27))=W:=⟨_,rfl⟩
 rw [hW] at bel hS qr qo hA ⊢
 clear hW
 refine (GN.out _ hA).mono ?_
 rintro e w1 ⟨pS9,qS,rfl,b1,oS⟩
 have bb:=b1
 replace hS:=hS.later bb
 replace qr:=qr.later bb
 replace qo:=qo.later bb
 replace hA:=hA.on bb
 replace bel:=bel.trans (bb.mono bel.size)
 clear bb
 clear b1
 clear GN
 clear hA
 have qr_0:=qr.cell 0
 have qr_1:=qr.cell 1
 have qr_2:=qr.cell 2
 simp only [List.getElem?_toArray,List.getElem?_cons_zero,List.getElem?_cons_succ] at qr_0 qr_1 qr_2
 have fz:=fun o=>qr.frozen o
 go_wp2_with fail
 obtain ⟨c9,q9⟩:=qr.set3 (.bool (ng S.num)) (.slice pS9 (ln (am S.num)) (ln (am S.num))) (.slice qS (ln S.den) (ln S.den))
 have hno:=qr.no (by simp)
 replace hS:=hS.ch c9 hno
 replace qo:=qo.ch c9 (by omega)
 replace oS:=oS.ch c9 hno
 replace bel:=bel.trans (c9.below (by omega))
 clear qr_0 qr_1 qr_2
 clear fz hno
 replace qr:=q9
 generalize ((w1.setCell ⟨w.heap.size,0,none⟩ (.bool (ng S.num))).setCell ⟨w.heap.size,1,none⟩ (.slice pS9 (ln (am S.num)) (ln (am S.num)))).setCell ⟨w.heap.size,2,none⟩ (.slice qS (ln S.den) (ln S.den))=wS at bel hS qr qo oS ⊢
 refine (GM.out _ hS).mono ?_
 rintro e w2 ⟨pM,rfl,n1⟩
 have bb:=n1.below
 replace hS:=hS.later bb
 replace qr:=qr.later bb
 replace qo:=qo.later bb
 replace oS:=oS.on bb
 replace bel:=bel.trans (bb.mono bel.size)
 clear bb
 have kM:=n1.seg
 clear n1
 clear kM
 have qo_0:=qo.cell 0
 have qo_1:=qo.cell 1
 have qo_2:=qo.cell 2
 simp only [List.getElem?_toArray,List.getElem?_cons_zero,List.getElem?_cons_succ] at qo_0 qo_1 qo_2
 have fz:=fun o=>qo.frozen o
 go_wp2
 obtain ⟨c9,q9⟩:=qo.set3 (.bool false) (.slice none 0 0) (.slice none 0 0)
 have hno:=qo.no (by simp)
 replace hS:=hS.ch c9 hno
 replace qr:=qr.ch c9 (by omega)
 replace oS:=oS.ch c9 hno
 replace bel:=bel.trans (c9.below (by omega))
 clear qo_0 qo_1 qo_2
 clear fz hno
 replace qo:=q9
 have qo_0:=qo.cell 0
 have qo_1:=qo.cell 1
 have qo_2:=qo.cell 2
 simp only [List.getElem?_toArray,List.getElem?_cons_zero,List.getElem?_cons_succ] at qo_0 qo_1 qo_2
 refine bodyPost_ret (v:=.tuple #[.agg #[.bool false,.slice none 0 0,.slice none 0 0],.int .i64 11]) (by rw [results_ct rfl];go_simp) rfl ?_
 exact Or.inl ⟨h0,rfl,bel⟩
set_option maxHeartbeats 8000000 in
set_option maxRecDepth 100000 in
theorem vBest_self (A:RatV) (a:Option Addr) (n c M:Nat) (w:World) (hA:A.ok w) (hn:A.n≤1048576∧A.m≤1048576) (hm:n≤1048576) (hS:Seg w a M n) (h0:M≠0) (h1:A.val.den≤M):Calls Tryz.prog 19 #[.agg #[.bool A.s,.slice A.a A.n A.c,.slice A.b A.m A.e],.slice a n c] w (BestA w A.val M):=by
 obtain ⟨S,hS9⟩:∃ S,A.val=S:=⟨_,rfl⟩
 have sS:sz 1048577 S:=by rw [←hS9];exact szV hA (by omega) (by omega)
 have GN:=hide' (fun w' k=>vnormQ A S w' k hS9 (sS.mono (by omega)))
 have GM:=hide' (fun w' k=>rNorm_any a n c M w' (by omega) k)
 rw [hS9]
 try rw [hS9] at h1
 clear hS9
 obtain ⟨LN,hLN⟩:∃ l,ln M=l:=⟨_,rfl⟩
 have hl:¬ ((LN:Int)=0):=by have:ln M≠0:=fun e=>h0 (ln_eq_zero.1 e);omega
 rw [hLN] at GM
 clear hLN
 have bel:Below w.heap.size w w:=Below.refl _ _
 have bb:=below_alloc (w:=w) (.cells #[.bool A.s,.slice A.a A.n A.c,.slice A.b A.m A.e] 27)
 replace hS:=hS.later bb
 replace hA:=hA.on bb
 replace bel:=bel.trans (bb.mono bel.size)
 clear bb
 have qr:=Blk.new w #[.bool A.s,.slice A.a A.n A.c,.slice A.b A.m A.e] 27
 have bb:=below_alloc (w:=(w.alloc (.cells #[.bool A.s,.slice A.a A.n A.c,.slice A.b A.m A.e] 27))) (.cells #[.bool false,.slice none 0 0,.slice none 0 0] 27)
 replace hS:=hS.later bb
 replace qr:=qr.later bb
 replace hA:=hA.on bb
 replace bel:=bel.trans (bb.mono bel.size)
 clear bb
 have qo:=Blk.new (w.alloc (.cells #[.bool A.s,.slice A.a A.n A.c,.slice A.b A.m A.e] 27)) #[.bool false,.slice none 0 0,.slice none 0 0] 27
 simp only [World.size_alloc] at qo
 go_enter Tryz.func19,Tryz.ntmps19
 go_wp2_with fail
 obtain ⟨W0,hW⟩:∃ W,((w.alloc (.cells #[.bool A.s,.slice A.a A.n A.c,.slice A.b A.m A.e] 27)).alloc (.cells #[.bool false,.slice none 0 0,.slice none 0 0] 27))=W:=⟨_,rfl⟩
 rw [hW] at bel hS qr qo hA ⊢
 clear hW
 refine (GN.out _ hA).mono ?_
 rintro e w1 ⟨pS9,qS,rfl,b1,oS⟩
 have bb:=b1
 replace hS:=hS.later bb
 replace qr:=qr.later bb
 replace qo:=qo.later bb
 replace hA:=hA.on bb
 replace bel:=bel.trans (bb.mono bel.size)
 clear bb
 clear b1
 clear GN
 clear hA
 have qr_0:=qr.cell 0
 have qr_1:=qr.cell 1
 have qr_2:=qr.cell 2
 simp only [List.getElem?_toArray,List.getElem?_cons_zero,List.getElem?_cons_succ] at qr_0 qr_1 qr_2
 have fz:=fun o=>qr.frozen o
 go_wp2_with fail
 obtain ⟨c9,q9⟩:=qr.set3 (.bool (ng S.num)) (.slice pS9 (ln (am S.num)) (ln (am S.num))) (.slice qS (ln S.den) (ln S.den))
 have hno:=qr.no (by simp)
 replace hS:=hS.ch c9 hno
 replace qo:=qo.ch c9 (by omega)
 replace oS:=oS.ch c9 hno
 replace bel:=bel.trans (c9.below (by omega))
 clear qr_0 qr_1 qr_2
 clear fz hno
 replace qr:=q9
 generalize ((w1.setCell ⟨w.heap.size,0,none⟩ (.bool (ng S.num))).setCell ⟨w.heap.size,1,none⟩ (.slice pS9 (ln (am S.num)) (ln (am S.num)))).setCell ⟨w.heap.size,2,none⟩ (.slice qS (ln S.den) (ln S.den))=wS at bel hS qr qo oS ⊢
 refine (GM.out _ hS).mono ?_
 rintro e w2 ⟨pM,rfl,n1⟩
 have bb:=n1.below
 replace hS:=hS.later bb
 replace qr:=qr.later bb
 replace qo:=qo.later bb
 replace oS:=oS.on bb
 replace bel:=bel.trans (bb.mono bel.size)
 clear bb
 have kM:=n1.seg
 clear n1
 clear kM
 obtain ⟨C1,hC1⟩:∃ C,cmpI S.den M=C:=⟨_,rfl⟩
 have hC1n:C1≤0:=by
  rcases cmpI_tri S.den M with ⟨_,h⟩ | ⟨_,h⟩ | ⟨h,_⟩ <;> omega
 have qr_0:=qr.cell 0
 have qr_1:=qr.cell 1
 have qr_2:=qr.cell 2
 simp only [List.getElem?_toArray,List.getElem?_cons_zero,List.getElem?_cons_succ] at qr_0 qr_1 qr_2
 go_wp2_with fail
 clear qr_0 qr_1 qr_2
 have G1:=hide' (fun w' (k1:Seg w' qS S.den (ln S.den)) k2=>(rCmp_any qS a (ln S.den) (ln S.den) S.den n c M w' (Nat.le_trans sS.2 (by omega)) k1 (by omega) k2).mono (fun e w2 h=>(show e=.returned (.int .i64 (cmpI S.den M))∧Below w'.heap.size w' w2 from ⟨h.1,h.2 ▸ Below.refl _ _⟩)))
 rw [hC1] at G1
 refine (G1.out _ oS.2.2.2.1 hS).mono ?_
 rintro e w3 ⟨rfl,b1⟩
 have bb:=b1
 replace hS:=hS.later bb
 replace qr:=qr.later bb
 replace qo:=qo.later bb
 replace oS:=oS.on bb
 replace bel:=bel.trans (bb.mono bel.size)
 clear bb
 clear b1
 clear G1
 clear hC1
 have qr_0:=qr.cell 0
 have qr_1:=qr.cell 1
 have qr_2:=qr.cell 2
 simp only [List.getElem?_toArray,List.getElem?_cons_zero,List.getElem?_cons_succ] at qr_0 qr_1 qr_2
 have qo_0:=qo.cell 0
 have qo_1:=qo.cell 1
 have qo_2:=qo.cell 2
 simp only [List.getElem?_toArray,List.getElem?_cons_zero,List.getElem?_cons_succ] at qo_0 qo_1 qo_2
 have fz:=fun o=>qo.frozen o
 go_wp2
 obtain ⟨c9,q9⟩:=qo.set3 (.bool (ng S.num)) (.slice pS9 (ln (am S.num)) (ln (am S.num))) (.slice qS (ln S.den) (ln S.den))
 have hno:=qo.no (by simp)
 replace hS:=hS.ch c9 hno
 replace qr:=qr.ch c9 (by omega)
 replace oS:=oS.ch c9 hno
 replace bel:=bel.trans (c9.below (by omega))
 clear qo_0 qo_1 qo_2
 clear fz hno
 replace qo:=q9
 have qo_0:=qo.cell 0
 have qo_1:=qo.cell 1
 have qo_2:=qo.cell 2
 simp only [List.getElem?_toArray,List.getElem?_cons_zero,List.getElem?_cons_succ] at qo_0 qo_1 qo_2
 refine bodyPost_ret (v:=.tuple #[.agg #[.bool (ng S.num),.slice pS9 (ln (am S.num)) (ln (am S.num)),.slice qS (ln S.den) (ln S.den)],.int .i64 0]) (by rw [results_ct rfl];go_simp) rfl ?_
 exact Or.inr ⟨h0,S,pS9,qS,nrs_self h1,sS.mono (by omega),rfl,bel,oS⟩
set_option maxHeartbeats 8000000 in
set_option maxRecDepth 100000 in
theorem vBest_loop (A:RatV) (a:Option Addr) (n c M:Nat) (w:World) (hA:A.ok w) (hn:A.n≤1048576∧A.m≤1048576) (hm:n≤1048576) (hS:Seg w a M n) (h0:M≠0) (h1:M < A.val.den):Calls Tryz.prog 19 #[.agg #[.bool A.s,.slice A.a A.n A.c,.slice A.b A.m A.e],.slice a n c] w (BestA w A.val M):=by
 obtain ⟨S,hS9⟩:∃ S,A.val=S:=⟨_,rfl⟩
 have sS:sz 1048577 S:=by rw [←hS9];exact szV hA (by omega) (by omega)
 have GN:=hide' (fun w' k=>vnormQ A S w' k hS9 (sS.mono (by omega)))
 have GM:=hide' (fun w' k=>rNorm_any a n c M w' (by omega) k)
 rw [hS9]
 try rw [hS9] at h1
 clear hS9
 obtain ⟨LN,hLN⟩:∃ l,ln M=l:=⟨_,rfl⟩
 have hl:¬ ((LN:Int)=0):=by have:ln M≠0:=fun e=>h0 (ln_eq_zero.1 e);omega
 rw [hLN] at GM
 clear hLN
 have bel:Below w.heap.size w w:=Below.refl _ _
 have bb:=below_alloc (w:=w) (.cells #[.bool A.s,.slice A.a A.n A.c,.slice A.b A.m A.e] 27)
 replace hS:=hS.later bb
 replace hA:=hA.on bb
 replace bel:=bel.trans (bb.mono bel.size)
 clear bb
 have qr:=Blk.new w #[.bool A.s,.slice A.a A.n A.c,.slice A.b A.m A.e] 27
 have bb:=below_alloc (w:=(w.alloc (.cells #[.bool A.s,.slice A.a A.n A.c,.slice A.b A.m A.e] 27))) (.cells #[.bool false,.slice none 0 0,.slice none 0 0] 27)
 replace hS:=hS.later bb
 replace qr:=qr.later bb
 replace hA:=hA.on bb
 replace bel:=bel.trans (bb.mono bel.size)
 clear bb
 have qo:=Blk.new (w.alloc (.cells #[.bool A.s,.slice A.a A.n A.c,.slice A.b A.m A.e] 27)) #[.bool false,.slice none 0 0,.slice none 0 0] 27
 simp only [World.size_alloc] at qo
 go_enter Tryz.func19,Tryz.ntmps19
 go_wp2_with fail
 obtain ⟨W0,hW⟩:∃ W,((w.alloc (.cells #[.bool A.s,.slice A.a A.n A.c,.slice A.b A.m A.e] 27)).alloc (.cells #[.bool false,.slice none 0 0,.slice none 0 0] 27))=W:=⟨_,rfl⟩
 rw [hW] at bel hS qr qo hA ⊢
 clear hW
 refine (GN.out _ hA).mono ?_
 rintro e w1 ⟨pS9,qS,rfl,b1,oS⟩
 have bb:=b1
 replace hS:=hS.later bb
 replace qr:=qr.later bb
 replace qo:=qo.later bb
 replace hA:=hA.on bb
 replace bel:=bel.trans (bb.mono bel.size)
 clear bb
 clear b1
 clear GN
 clear hA
 have qr_0:=qr.cell 0
 have qr_1:=qr.cell 1
 have qr_2:=qr.cell 2
 simp only [List.getElem?_toArray,List.getElem?_cons_zero,List.getElem?_cons_succ] at qr_0 qr_1 qr_2
 have fz:=fun o=>qr.frozen o
 go_wp2_with fail
 obtain ⟨c9,q9⟩:=qr.set3 (.bool (ng S.num)) (.slice pS9 (ln (am S.num)) (ln (am S.num))) (.slice qS (ln S.den) (ln S.den))
 have hno:=qr.no (by simp)
 replace hS:=hS.ch c9 hno
 replace qo:=qo.ch c9 (by omega)
 replace oS:=oS.ch c9 hno
 replace bel:=bel.trans (c9.below (by omega))
 clear qr_0 qr_1 qr_2
 clear fz hno
 replace qr:=q9
 generalize ((w1.setCell ⟨w.heap.size,0,none⟩ (.bool (ng S.num))).setCell ⟨w.heap.size,1,none⟩ (.slice pS9 (ln (am S.num)) (ln (am S.num)))).setCell ⟨w.heap.size,2,none⟩ (.slice qS (ln S.den) (ln S.den))=wS at bel hS qr qo oS ⊢
 refine (GM.out _ hS).mono ?_
 rintro e w2 ⟨pM,rfl,n1⟩
 have bb:=n1.below
 replace hS:=hS.later bb
 replace qr:=qr.later bb
 replace qo:=qo.later bb
 replace oS:=oS.on bb
 replace bel:=bel.trans (bb.mono bel.size)
 clear bb
 have kM:=n1.seg
 clear n1
 clear kM
 have qr_0:=qr.cell 0
 have qr_1:=qr.cell 1
 have qr_2:=qr.cell 2
 simp only [List.getElem?_toArray,List.getElem?_cons_zero,List.getElem?_cons_succ] at qr_0 qr_1 qr_2
 go_wp2_with fail
 clear qr_0 qr_1 qr_2
 have G1:=hide' (fun w' (k1:Seg w' qS S.den (ln S.den)) k2=>(rCmp_any qS a (ln S.den) (ln S.den) S.den n c M w' (Nat.le_trans sS.2 (by omega)) k1 (by omega) k2).mono (fun e w2 h=>(show e=.returned (.int .i64 (cmpI S.den M))∧Below w'.heap.size w' w2 from ⟨h.1,h.2 ▸ Below.refl _ _⟩)))
 rw [cmpI_gt h1] at G1
 refine (G1.out _ oS.2.2.2.1 hS).mono ?_
 rintro e w3 ⟨rfl,b1⟩
 have bb:=b1
 replace hS:=hS.later bb
 replace qr:=qr.later bb
 replace qo:=qo.later bb
 replace oS:=oS.on bb
 replace bel:=bel.trans (bb.mono bel.size)
 clear bb
 clear b1
 clear G1
 have hdp:=S.den_pos
 have sS1:=sS.1
 have sS2:=sS.2
 have hr1:rn (ng S.num) (am S.num) S.den=S.num:=rn_nf hdp
 have hr2:rd S.den=S.den:=rd_nf hdp
 obtain ⟨L,hL⟩:∃ L,cf S.num S.den=L:=⟨_,rfl⟩
 have hLl:L.length≤64*(1048577+1)+1:=by have h9:=cf_len_le (s:=ng S.num) (X:=am S.num) (Y:=S.den) (Nat.lt_of_lt_of_le (ln_lt S.den) (pow_mono sS2));rw [hr1,hr2,hL] at h9;exact h9
 have GE:=hide' (fun w' (k1:Seg w' pS9 (am S.num) (ln (am S.num))) (k2:Seg w' qS S.den (ln S.den))=>vExpand_is 4294967296 (ng S.num) pS9 (ln (am S.num)) (ln (am S.num)) (am S.num) qS (ln S.den) (ln S.den) S.den w' (Nat.le_refl _) (by omega) k1 (Nat.le_refl _) (by omega) k2 (by rw [hr1,hr2,hL];omega) (by omega))
 rw [hr1,hr2,hL] at GE
 have hLne:L≠[]:=by rw [←hL];exact cf_ne _ (by omega)
 have hLp:0 < L.length:=List.length_pos_iff.2 hLne
 have qr_0:=qr.cell 0
 have qr_1:=qr.cell 1
 have qr_2:=qr.cell 2
 simp only [List.getElem?_toArray,List.getElem?_cons_zero,List.getElem?_cons_succ] at qr_0 qr_1 qr_2
 go_wp2_with fail
 clear qr_0 qr_1 qr_2
 refine (GE.out _ oS.1 oS.2.2.2.1).mono ?_
 rintro e w4 ⟨vL,rfl,hI,b1⟩
 have bb:=b1
 replace hS:=hS.later bb
 replace qr:=qr.later bb
 replace qo:=qo.later bb
 replace oS:=oS.on bb
 replace bel:=bel.trans (bb.mono bel.size)
 clear bb
 clear b1
 clear GE
 obtain ⟨g,cap,cur,av,rfl,qL,hSg,hcur⟩:=hI.blk hLne
 clear hI
 go_wp2_with fail
 have GO:=hide' (fun w'=>vOf_is 1 w' (by omega) (by omega))
 rw [show ng 1=false from rfl,show am 1=1 from rfl,ln_one] at GO
 refine (GO.out _).mono ?_
 rintro e w5 ⟨p7,rfl,n1⟩
 have bb:=n1.below
 replace hS:=hS.later bb
 replace qr:=qr.later bb
 replace qo:=qo.later bb
 replace qL:=qL.later bb
 replace hSg:=hSg.later bb
 replace oS:=oS.on bb
 replace bel:=bel.trans (bb.mono bel.size)
 clear bb
 have k7:=n1.seg
 clear n1
 obtain ⟨hc0,hc1⟩:=hcur 0 hLp
 rw [Nat.zero_mul] at hc0 hc1
 obtain ⟨l0,hl0⟩:∃ l,L.getD 0 0=l:=⟨_,rfl⟩
 rw [hl0] at hc0 hc1
 have y0:=(qL.cell 0).trans hc0
 have y1:=(qL.cell (0+1)).trans hc1
 rw [Nat.zero_add] at y1
 clear hc0 hc1
 have lq8eqr:=qr.lt
 have lq8eqo:=qo.lt
 have lq8eqL:=qL.lt
 have bb:=below_alloc (w:=w5) (.cells #[] 60)
 replace hS:=hS.later bb
 replace qr:=qr.later bb
 replace qo:=qo.later bb
 replace qL:=qL.later bb
 replace hSg:=hSg.later bb
 replace k7:=k7.later bb
 replace oS:=oS.on bb
 replace bel:=bel.trans (bb.mono bel.size)
 clear bb
 have q8e:=Blk.new w5 #[] 60
 have lu7qr:=qr.lt
 simp only [World.size_alloc] at lu7qr
 have lu7qo:=qo.lt
 simp only [World.size_alloc] at lu7qo
 have lu7qL:=qL.lt
 simp only [World.size_alloc] at lu7qL
 have lu7q8e:=q8e.lt
 simp only [World.size_alloc] at lu7q8e
 have bb:=below_alloc (w:=(w5.alloc (.cells #[] 60))) (.cells #[.bool false,.slice p7 1 1] 25)
 replace hS:=hS.later bb
 replace qr:=qr.later bb
 replace qo:=qo.later bb
 replace qL:=qL.later bb
 replace hSg:=hSg.later bb
 replace k7:=k7.later bb
 replace q8e:=q8e.later bb
 replace oS:=oS.on bb
 replace bel:=bel.trans (bb.mono bel.size)
 clear bb
 have u7:=Blk.new (w5.alloc (.cells #[] 60)) #[.bool false,.slice p7 1 1] 25
 simp only [World.size_alloc] at u7
 have lq1eqr:=qr.lt
 simp only [World.size_alloc] at lq1eqr
 have lq1eqo:=qo.lt
 simp only [World.size_alloc] at lq1eqo
 have lq1eqL:=qL.lt
 simp only [World.size_alloc] at lq1eqL
 have lq1eq8e:=q8e.lt
 simp only [World.size_alloc] at lq1eq8e
 have lq1eu7:=u7.lt
 simp only [World.size_alloc] at lq1eu7
 have bb:=below_alloc (w:=((w5.alloc (.cells #[] 60)).alloc (.cells #[.bool false,.slice p7 1 1] 25))) (.cells #[.int .u32 1] 60)
 replace hS:=hS.later bb
 replace qr:=qr.later bb
 replace qo:=qo.later bb
 replace qL:=qL.later bb
 replace hSg:=hSg.later bb
 replace k7:=k7.later bb
 replace q8e:=q8e.later bb
 replace u7:=u7.later bb
 replace oS:=oS.on bb
 replace bel:=bel.trans (bb.mono bel.size)
 clear bb
 have q1e:=Blk.new ((w5.alloc (.cells #[] 60)).alloc (.cells #[.bool false,.slice p7 1 1] 25)) #[.int .u32 1] 60
 simp only [World.size_alloc] at q1e
 have lu9qr:=qr.lt
 simp only [World.size_alloc] at lu9qr
 have lu9qo:=qo.lt
 simp only [World.size_alloc] at lu9qo
 have lu9qL:=qL.lt
 simp only [World.size_alloc] at lu9qL
 have lu9q8e:=q8e.lt
 simp only [World.size_alloc] at lu9q8e
 have lu9u7:=u7.lt
 simp only [World.size_alloc] at lu9u7
 have lu9q1e:=q1e.lt
 simp only [World.size_alloc] at lu9q1e
 have bb:=below_alloc (w:=(((w5.alloc (.cells #[] 60)).alloc (.cells #[.bool false,.slice p7 1 1] 25)).alloc (.cells #[.int .u32 1] 60))) (.cells #[.bool (ng l0),.slice (av 0) (ln (am l0)) (ln (am l0))] 25)
 replace hS:=hS.later bb
 replace qr:=qr.later bb
 replace qo:=qo.later bb
 replace qL:=qL.later bb
 replace hSg:=hSg.later bb
 replace k7:=k7.later bb
 replace q8e:=q8e.later bb
 replace u7:=u7.later bb
 replace q1e:=q1e.later bb
 replace oS:=oS.on bb
 replace bel:=bel.trans (bb.mono bel.size)
 clear bb
 have u9:=Blk.new (((w5.alloc (.cells #[] 60)).alloc (.cells #[.bool false,.slice p7 1 1] 25)).alloc (.cells #[.int .u32 1] 60)) #[.bool (ng l0),.slice (av 0) (ln (am l0)) (ln (am l0))] 25
 simp only [World.size_alloc] at u9
 go_wp2_with fail
 have s10:=segB1 q1e
 clear q8e q1e
 obtain ⟨wQ,hW⟩:∃ W,((((w5.alloc (.cells #[] 60)).alloc (.cells #[.bool false,.slice p7 1 1] 25)).alloc (.cells #[.int .u32 1] 60)).alloc (.cells #[.bool (ng l0),.slice (av 0) (ln (am l0)) (ln (am l0))] 25))=W:=⟨_,rfl⟩
 rw [hW] at bel hS qr qo qL hSg k7 u7 u9 s10 oS ⊢
 clear hW
 clear y0 y1
 obtain ⟨e7,hc7⟩:∃ c,w5.heap.size+1=c:=⟨_,rfl⟩
 obtain ⟨e9,hc9⟩:∃ c,w5.heap.size+1+1+1=c:=⟨_,rfl⟩
 have hcc:e7 < e9:=by omega
 have hgc:g < e7:=by have:=lu7qL;omega
 have hwc:w.heap.size+1 < e7:=by have:=lu7qo;omega
 have hwg:w.heap.size+1 < g∨g < w.heap.size∨True:=Or.inr (Or.inr trivial)
 clear hwg
 rw [hc9] at u9 ⊢
 rw [hc7] at u7 s10 ⊢
 clear hc7 hc9
 have kl0:=hSg 0 hLp
 rw [hl0] at kl0
 have hgq:g≠w.heap.size∧g≠w.heap.size+1:=⟨fun e=>by
  subst e
  have h9:=(hcur 0 hLp).2
  have h8:=qL.symm.trans qr
  simp only [Option.some.injEq,Obj.cells.injEq] at h8
  have h7:=h8.2.1
  exact absurd h7 (by decide),fun e=>by
  subst e
  have h8:=qL.symm.trans qo
  simp only [Option.some.injEq,Obj.cells.injEq] at h8
  exact absurd h8.2.1 (by decide)⟩
 have e0:cvg (L.take 1) ((0,1),(1,0))=((1,((0:Nat):Int)),(l0,((1:Nat):Int))):=by
  have h9:=take_on (L:=L) (k:=0) (P0:=0) (Q0:=1) (P1:=1) (Q1:=0) hLp rfl
  rw [hl0] at h9
  rw [h9]
  simp
 go_loopg [8,10,11] (L.length - 1) (fun gk v8 v10 v11 wr=>∃ (k:Nat) (P0 P1:Int) (Q0 Q1:Nat) (a8:Option Addr) (n8 c8:Nat) (a10:Option Addr) (n10 c10:Nat) (p7 p9:Option Addr),v8=.slice a8 n8 c8∧v10=.slice a10 n10 c10∧v11=.int .i64 (k:Int)∧Blk wr e7 #[.bool (ng P0),.slice p7 (ln (am P0)) (ln (am P0))] 25∧Blk wr e9 #[.bool (ng P1),.slice p9 (ln (am P1)) (ln (am P1))] 25∧Seg wr p7 (am P0) (ln (am P0))∧Seg wr p9 (am P1) (ln (am P1))∧Seg wr a8 Q0 n8∧Seg wr a10 Q1 n10∧Blk wr w.heap.size #[.bool (ng S.num),.slice pS9 (ln (am S.num)) (ln (am S.num)),.slice qS (ln S.den) (ln S.den)] 27∧Blk wr (w.heap.size+1) #[.bool false,.slice none 0 0,.slice none 0 0] 27∧Blk wr g cur 25∧SgA wr av L∧Seg wr a M n∧(nR S pS9 qS).ok wr∧Below w.heap.size w wr∧(n8≤1048579∧n10≤1048579∧1≤k∧L.length - k=gk∧k≤L.length)∧(cvg (L.take k) ((0,1),(1,0))=((P0,(Q0:Int)),(P1,(Q1:Int)))∧Q0≤M∧Q1≤M))
 case atStart =>
  refine ⟨1,1,l0,0,1,_,0,0,_,1,1,p7,av 0,rfl,rfl,rfl,?_,u9,?_,kl0,seg00 _ _,s10,qr,qo,qL,hSg,hS,oS,bel,⟨by omega,by omega,by omega,rfl,by omega⟩,e0,by omega,by omega⟩
  ·rw [show ng 1=false from rfl,show am 1=1 from rfl,ln_one]
   exact u7
  ·rw [show am 1=1 from rfl,ln_one]
   exact k7
 case round =>
  clear s10 k7 u7 u9 kl0 e0 hl0 qr qo qL hSg hS oS bel
  obtain ⟨k,P0,P1,Q0,Q1,a8,n8,c8,a10,n10,c10,p7,p9,rfl,rfl,rfl,u7,u9,k7,k9,s8,s10,qr,qo,qL,hSg,hS,oS,bel,⟨z8,z10,hk1,hgk,hkL⟩,hcv,hQ0,hQ1⟩:=hrel
  have hDn:S.den≠0:=by omega
  have hkl:k < L.length:=by
   rcases Nat.lt_or_ge k L.length with h | h
   ·exact h
   ·exfalso
    rw [List.take_of_length_le h,←hL] at hcv
    obtain ⟨_,_,h9⟩:=cvg_whole hDn hcv
    rw [Rat.num_divInt_den] at h9
    omega
  obtain ⟨x,hx⟩:∃ x,L.getD k 0=x:=⟨_,rfl⟩
  have hxp:0 < x:=by rw [←hx,←hL];exact cf_tail_pos S.den S.num hDn k hk1 (by rw [hL];exact hkl)
  have hcv2:=take_on hkl hcv
  rw [hx] at hcv2
  have hin:=take_in hkl
  rw [hx] at hin
  obtain ⟨ZM,hZM⟩:∃ Z,am x*Q1=Z:=⟨_,rfl⟩
  obtain ⟨Q2,hQ2⟩:∃ Z,Q0+ZM=Z:=⟨_,rfl⟩
  have eQ2:(Q1:Int)*x+Q0=(Q2:Int):=by
   rw [←hQ2,←hZM,Int.natCast_add,Int.natCast_mul,show ((am x:Nat):Int)=x by unfold am;omega]
   grind
  rw [eQ2] at hcv2
  obtain ⟨P2,hP2⟩:∃ Z,P1*x+P0=Z:=⟨_,rfl⟩
  rw [hP2] at hcv2
  obtain ⟨bp,_,bq,_⟩:=cvg_bd hDn (s:=L.take (k+1)) (rest:=L.drop (k+1)) (by rw [List.take_append_drop,hL]) hcv2
  obtain ⟨bp1,_,bq1,_⟩:=cvg_bd hDn (s:=L.take k) (rest:=L.drop k) (by rw [List.take_append_drop,hL]) hcv
  have lP2:ln (am P2)≤1048579:=by
   have:=lnp (Z:=P2) (X:=am S.num) (n:=ln (am S.num)) (by unfold am;omega) (ln_lt _)
   omega
  have lP1:ln (am P1)≤1048579:=by
   have:=lnp (Z:=P1) (X:=am S.num) (n:=ln (am S.num)) (by unfold am;omega) (ln_lt _)
   omega
  have lQ2:ln Q2≤1048579:=Nat.le_trans (ln_mono (show Q2≤S.den by omega)) (by omega)
  have lx:ln (am x)≤1048580:=by
   have h9:=cf_elem_ln (s:=ng S.num) (X:=am S.num) (Y:=S.den) (n:=ln (am S.num)) (m:=ln S.den) (E:=1048578) (ln_lt _) (ln_lt _) (by omega) (by omega) k
   rw [hr1,hr2,hL,hx] at h9
   omega
  have lZM:ln ZM≤1048579:=Nat.le_trans (ln_mono (show ZM≤Q2 by omega)) lQ2
  obtain ⟨hc0,hc1⟩:=hcur k hkl
  rw [hx] at hc0 hc1
  have kx:=hSg k hkl
  rw [hx] at kx
  have GM1:=hide' (fun w' (k1:Seg w' (av k) (am x) (ln (am x))) (k2:Seg w' a10 Q1 n10)=>rMul_is (av k) a10 (ln (am x)) (ln (am x)) (am x) n10 c10 Q1 ZM w' (by omega) k1 k2 hZM)
  have GA1:=hide' (fun w' p (k1:Seg w' a8 Q0 n8) (k2:Seg w' p ZM (ln ZM))=>rAdd_any a8 p n8 c8 Q0 (ln ZM) (ln ZM) ZM w' (by omega) k1 (by omega) k2)
  rw [hQ2] at GA1
  have GC:=hide' (fun w' p (k1:Seg w' p Q2 (ln Q2)) k2=>(rCmp_any p a (ln Q2) (ln Q2) Q2 n c M w' (by omega) k1 (by omega) k2).mono (fun e w2 h=>(show e=.returned (.int .i64 (cmpI Q2 M))∧Below w'.heap.size w' w2 from ⟨h.1,h.2 ▸ Below.refl _ _⟩)))
  have HK:=hide' (And.intro hcv (And.intro hcv2 (And.intro hin (And.intro eQ2 hP2))))
  clear hcv hcv2 hin eQ2 hZM hQ2 bp bq bp1 bq1
  have hkI:((k:Int) < (L.length:Int)):=by omega
  have hkp:(0:Int)≤(k:Int):=by omega
  have y1:=(qL.cell (k*2+1)).trans hc1
  go_wp2_with fail
  clear y1
  refine (GM1.out _ kx s10).mono ?_
  rintro e w6 ⟨pZ9,rfl,n1⟩
  have bb:=n1.below
  replace u7:=u7.later bb
  replace u9:=u9.later bb
  replace k7:=k7.later bb
  replace k9:=k9.later bb
  replace s8:=s8.later bb
  replace s10:=s10.later bb
  replace qr:=qr.later bb
  replace qo:=qo.later bb
  replace qL:=qL.later bb
  replace hSg:=hSg.later bb
  replace hS:=hS.later bb
  replace kx:=kx.later bb
  replace oS:=oS.on bb
  replace bel:=bel.trans (bb.mono bel.size)
  clear bb
  have kZ:=n1.seg
  clear n1
  go_wp2_with fail
  clear GM1
  refine (GA1.out _ pZ9 s8 kZ).mono ?_
  rintro e w7 ⟨pQ,rfl,n1⟩
  have bb:=n1.below
  replace u7:=u7.later bb
  replace u9:=u9.later bb
  replace k7:=k7.later bb
  replace k9:=k9.later bb
  replace s8:=s8.later bb
  replace s10:=s10.later bb
  replace qr:=qr.later bb
  replace qo:=qo.later bb
  replace qL:=qL.later bb
  replace hSg:=hSg.later bb
  replace hS:=hS.later bb
  replace kx:=kx.later bb
  replace kZ:=kZ.later bb
  replace oS:=oS.on bb
  replace bel:=bel.trans (bb.mono bel.size)
  clear bb
  have kQ:=n1.seg
  clear n1
  go_wp2_with fail
  clear GA1
  clear kZ
  by_cases hgt:M < Q2
  ·skip
   rw [cmpI_gt hgt] at GC
   refine (GC.out _ pQ kQ hS).mono ?_
   rintro e w8 ⟨rfl,b1⟩
   have bb:=b1
   replace u7:=u7.later bb
   replace u9:=u9.later bb
   replace k7:=k7.later bb
   replace k9:=k9.later bb
   replace s8:=s8.later bb
   replace s10:=s10.later bb
   replace qr:=qr.later bb
   replace qo:=qo.later bb
   replace qL:=qL.later bb
   replace hSg:=hSg.later bb
   replace hS:=hS.later bb
   replace kx:=kx.later bb
   replace kQ:=kQ.later bb
   replace oS:=oS.on bb
   replace bel:=bel.trans (bb.mono bel.size)
   clear bb
   clear b1
   clear GC
   clear kQ kx hSg qL
   obtain ⟨hcv,hcv2,hin,eQ2,hP2⟩:=HK.out
   have lP0:ln (am P0)≤1048579:=lP0_of hL hDn hkl hk1 sS1 hcv
   have hBs:Bs S.num S.den M P0 Q0 P1 Q1 x:=bs_of hDn (by omega) (hin.trans hL.symm) hcv (by rw [eQ2];omega) (by omega) (by omega)
   obtain ⟨RM,hRM⟩:∃ R,M - Q0=R:=⟨_,rfl⟩
   obtain ⟨TT,hTT⟩:∃ R,RM / Q1=R:=⟨_,rfl⟩
   obtain ⟨RR,hRR⟩:∃ R,RM % Q1=R:=⟨_,rfl⟩
   have hq1:0 < Q1:=by have:=hBs.n1;omega
   have hT:((M:Int) - (Q0:Int)) / (Q1:Int)=(TT:Int):=by rw [show (M:Int) - (Q0:Int)=(RM:Int) by omega,←hTT];rfl
   obtain ⟨PB,hPB⟩:∃ Z,P1*(TT:Int)+P0=Z:=⟨_,rfl⟩
   obtain ⟨ZQ,hZQ⟩:∃ Z,TT*Q1=Z:=⟨_,rfl⟩
   obtain ⟨QB,hQB⟩:∃ Z,Q0+ZQ=Z:=⟨_,rfl⟩
   have eQB:(Q1:Int)*(TT:Int)+(Q0:Int)=(QB:Int):=by rw [←hQB,←hZQ,Int.natCast_add,Int.natCast_mul];grind
   have hdv:RM=TT*Q1+RR:=by rw [←hTT,←hRR];have:=Nat.div_add_mod RM Q1;rw [Nat.mul_comm];omega
   have hRlt:RR < Q1:=by rw [←hRR];exact Nat.mod_lt _ hq1
   obtain ⟨g1,g2,g3,g4,g5,g6⟩:=hBs.two hdp hT hPB eQB
   obtain ⟨f1,f2,f3,f4⟩:=hBs.big hdp hT hPB eQB
   rw [Rat.num_divInt_den] at g5 g6
   obtain ⟨g7,g8⟩:=pick_first g5 g6
   have lP1b:ln (am P1)≤1999990:=by omega
   have lPB:ln (am PB)≤1999990:=by
    have:=lnp (Z:=PB) (X:=am S.num) (n:=ln (am S.num)) (by unfold am;omega) (ln_lt _)
    omega
   have lQ1:ln Q1≤1048577:=Nat.le_trans (ln_mono (show Q1≤S.den by omega)) sS2
   have lQB:ln QB≤1048577:=Nat.le_trans (ln_mono (show QB≤S.den by omega)) sS2
   have lRM:ln RM≤1048576:=Nat.le_trans (ln_mono (show RM≤M by omega)) (Nat.le_trans (ln_le_of_lt hS.1) hm)
   have lTT:ln TT≤1048576:=Nat.le_trans (ln_mono (show TT≤RM by rw [←hTT];exact Nat.div_le_self _ _)) lRM
   have lZQ:ln ZQ≤1048577:=Nat.le_trans (ln_mono (show ZQ≤QB by omega)) lQB
   obtain ⟨an,ad,asz⟩:=cv_rat (p:=P1) (q:=(Q1:Int)) (by omega) g1 (by omega) (by rw [am_nat];omega)
   obtain ⟨bn,bd,bsz⟩:=cv_rat (p:=PB) (q:=(QB:Int)) g3 g2 lPB (by rw [am_nat];omega)
   rw [am_nat] at ad bd
   have hrN1:rn (ng P1) (am P1) Q1=P1:=rn_nf hq1
   have hrN2:rd Q1=Q1:=rd_nf hq1
   have hrN3:rn (ng PB) (am PB) QB=PB:=rn_nf (by omega)
   have hrN4:rd QB=QB:=rd_nf (by omega)
   have lo1:Low (rn (ng P1) (am P1) Q1) ((rd Q1:Nat):Int) (Rat.divInt P1 (Q1:Int)).num (Rat.divInt P1 (Q1:Int)).den:=by rw [hrN1,hrN2];exact low_of (by omega) rfl
   have lo2:Low (rn (ng PB) (am PB) QB) ((rd QB:Nat):Int) (Rat.divInt PB (QB:Int)).num (Rat.divInt PB (QB:Int)).den:=by rw [hrN3,hrN4];exact low_of (by omega) rfl
   generalize Rat.divInt P1 (Q1:Int)=ra at an ad asz g7 g8 lo1
   generalize Rat.divInt PB (QB:Int)=rb at bn bd bsz g7 g8 lo2
   have GSub:=hide' (fun w' k1 k2=>rSub_is a a8 n c M n8 c8 Q0 RM w' (by omega) k1 (by omega) k2 (by omega))
   have GDiv:=hide' (fun w' p k1 k2=>rDiv_is p a10 (ln RM) (ln RM) RM n10 c10 Q1 TT RR w' (by omega) k1 (by omega) k2 hdv hRlt)
   have GN1:=hide' (fun w' (k1:Seg w' p9 (am P1) (ln (am P1))) (k2:Seg w' a10 Q1 n10)=>(vqNorm_is (ng P1) p9 (ln (am P1)) (ln (am P1)) (am P1) a10 n10 c10 Q1 ra.den ra.num w' (by omega) k1 (by omega) k2 lo1).mono (fun e w2 h=>(show QA w' ra e w2 by obtain ⟨p,q,h1,h2,h3⟩:=h;exact ⟨p,q,h1,h2.below,ok_nR (asz.mono (by omega)) h2 h3⟩)))
   have GN2:=hide' (fun w' pb qb (k1:Seg w' pb (am PB) (ln (am PB))) (k2:Seg w' qb QB (ln QB))=>(vqNorm_is (ng PB) pb (ln (am PB)) (ln (am PB)) (am PB) qb (ln QB) (ln QB) QB rb.den rb.num w' (by omega) k1 (by omega) k2 lo2).mono (fun e w2 h=>(show QA w' rb e w2 by obtain ⟨p,q,h1,h2,h3⟩:=h;exact ⟨p,q,h1,h2.below,ok_nR (bsz.mono (by omega)) h2 h3⟩)))
   obtain ⟨ZP,hZP⟩:∃ Z,(TT:Int)*P1=Z:=⟨_,rfl⟩
   have lZP:ln (am ZP)≤3000000:=by rw [←hZP,am_mul,am_nat];have:=ln_prod (ln_lt TT) (ln_lt (am P1));omega
   have GMu:=hide' (fun w' p (k1:Seg w' p TT (ln TT)) (k2:Seg w' p9 (am P1) (ln (am P1)))=>vMul_is false p (ln TT) (ln TT) TT (ng P1) p9 (ln (am P1)) (ln (am P1)) (am P1) ZP w' (by omega) k1 k2 (by rw [sg_na,show sg false TT=(TT:Int) by simp [sg]];exact hZP))
   have GAd:=hide' (fun w' p (k1:Seg w' p7 (am P0) (ln (am P0))) (k2:Seg w' p (am ZP) (ln (am ZP)))=>vAdd_is (ng P0) p7 (ln (am P0)) (ln (am P0)) (am P0) (ng ZP) p (ln (am ZP)) (ln (am ZP)) (am ZP) PB w' (by omega) k1 (by omega) k2 (by rw [sg_na,sg_na,←hZP,←hPB];grind))
   have GM2:=hide' (fun w' p (k1:Seg w' p TT (ln TT)) (k2:Seg w' a10 Q1 n10)=>rMul_is p a10 (ln TT) (ln TT) TT n10 c10 Q1 ZQ w' (by omega) k1 k2 hZQ)
   have GA2:=hide' (fun w' p (k1:Seg w' a8 Q0 n8) (k2:Seg w' p ZQ (ln ZQ))=>rAdd_any a8 p n8 c8 Q0 (ln ZQ) (ln ZQ) ZQ w' (by omega) k1 (by omega) k2)
   rw [hQB] at GA2
   have HG:=hide' (And.intro g7 (And.intro g8 (And.intro asz bsz)))
   have HZ:=hide' sS
   clear hcv hcv2 hin eQ2 hP2 hBs hRM hTT hRR hT hPB hZQ hQB eQB hdv g1 g2 g3 g4 g5 g6 g7 g8 f1 f2 f3 f4 an ad bn bd hrN1 hrN2 hrN3 hrN4 lo1 lo2 hZP hRlt
   go_upto_region 15 with fail
   go_wp2_with fail
   refine (GSub.out _ hS s8).mono ?_
   rintro e w9 ⟨pR,rfl,n1⟩
   have bb:=n1.below
   replace u7:=u7.later bb
   replace u9:=u9.later bb
   replace k7:=k7.later bb
   replace k9:=k9.later bb
   replace s8:=s8.later bb
   replace s10:=s10.later bb
   replace qr:=qr.later bb
   replace qo:=qo.later bb
   replace hS:=hS.later bb
   replace oS:=oS.on bb
   replace bel:=bel.trans (bb.mono bel.size)
   clear bb
   have kR:=n1.seg
   clear n1
   go_wp2_with fail
   clear GSub
   refine (GDiv.out _ pR kR s10).mono ?_
   rintro e w10 ⟨pT,pU,rfl,n1,n2⟩
   have bb:=n1.below
   replace u7:=u7.later bb
   replace u9:=u9.later bb
   replace k7:=k7.later bb
   replace k9:=k9.later bb
   replace s8:=s8.later bb
   replace s10:=s10.later bb
   replace qr:=qr.later bb
   replace qo:=qo.later bb
   replace hS:=hS.later bb
   replace kR:=kR.later bb
   replace oS:=oS.on bb
   replace bel:=bel.trans (bb.mono bel.size)
   clear bb
   have kT:=n1.seg
   have kU:=n2.seg
   clear n1 n2
   clear GDiv
   have u9_0:=u9.cell 0
   have u9_1:=u9.cell 1
   simp only [List.getElem?_toArray,List.getElem?_cons_zero,List.getElem?_cons_succ] at u9_0 u9_1
   go_wp2_with fail
   clear u9_0 u9_1
   clear kR kU
   refine (GN1.out _ k9 s10).mono ?_
   rintro e w11 ⟨p19,q19,rfl,b1,oA⟩
   have bb:=b1
   replace u7:=u7.later bb
   replace u9:=u9.later bb
   replace k7:=k7.later bb
   replace k9:=k9.later bb
   replace s8:=s8.later bb
   replace s10:=s10.later bb
   replace qr:=qr.later bb
   replace qo:=qo.later bb
   replace hS:=hS.later bb
   replace kT:=kT.later bb
   replace oS:=oS.on bb
   replace bel:=bel.trans (bb.mono bel.size)
   clear bb
   clear b1
   clear GN1
   have lu19u7:=u7.lt
   have lu19u9:=u9.lt
   have lu19qr:=qr.lt
   have lu19qo:=qo.lt
   have bb:=below_alloc (w:=w11) (.cells #[.bool (ng ra.num),.slice p19 (ln (am ra.num)) (ln (am ra.num)),.slice q19 (ln ra.den) (ln ra.den)] 27)
   replace u7:=u7.later bb
   replace u9:=u9.later bb
   replace k7:=k7.later bb
   replace k9:=k9.later bb
   replace s8:=s8.later bb
   replace s10:=s10.later bb
   replace qr:=qr.later bb
   replace qo:=qo.later bb
   replace hS:=hS.later bb
   replace kT:=kT.later bb
   replace oS:=oS.on bb
   replace oA:=oA.on bb
   replace bel:=bel.trans (bb.mono bel.size)
   clear bb
   have u19:=Blk.new w11 #[.bool (ng ra.num),.slice p19 (ln (am ra.num)) (ln (am ra.num)),.slice q19 (ln ra.den) (ln ra.den)] 27
   go_upto_region 18 with fail
   obtain ⟨wV,hW⟩:∃ W,(w11.alloc (.cells #[.bool (ng ra.num),.slice p19 (ln (am ra.num)) (ln (am ra.num)),.slice q19 (ln ra.den) (ln ra.den)] 27))=W:=⟨_,rfl⟩
   rw [hW] at bel u7 u9 k7 k9 s8 s10 qr qo hS kT u19 oS oA ⊢
   clear hW
   have l7c:=u7.lt
   have l9c:=u9.lt
   have l19c:=u19.lt
   have lrc:=qr.lt
   have loc:=qo.lt
   have hbs:=bel.size
   have bT:Below wV.heap.size wV wV:=Below.refl _ _
   go_cut [20] from 86 to 98 (fun s20_ wx=>∃ (wh9:World) (e20:Nat) (p20 q20:Option Addr),wh9=wx∧s20_=.pointer (some ⟨e20,0,none⟩)∧wV.heap.size≤e20∧Blk wx e20 #[.bool (ng rb.num),.slice p20 (ln (am rb.num)) (ln (am rb.num)),.slice q20 (ln rb.den) (ln rb.den)] 27∧(nR rb p20 q20).ok wx∧Below wV.heap.size wV wx)
   case first =>
    have u7_0:=u7.cell 0
    have u7_1:=u7.cell 1
    have u9_0:=u9.cell 0
    have u9_1:=u9.cell 1
    simp only [List.getElem?_toArray,List.getElem?_cons_zero,List.getElem?_cons_succ] at u7_0 u7_1 u9_0 u9_1
    have bD:Below wV.heap.size wV wV.drew:=(Below.refl _ _).drew
    have ku7_0:=below_cell bD u7_0
    have ku7_1:=below_cell bD u7_1
    have ku9_0:=below_cell bD u9_0
    have ku9_1:=below_cell bD u9_1
    replace oS:=oS.on bD
    replace oA:=oA.on bD
    replace bT:=bT.trans (bD.mono bT.size)
    replace u7:=u7.later bD
    replace u9:=u9.later bD
    replace k7:=k7.later bD
    replace k9:=k9.later bD
    replace s8:=s8.later bD
    replace s10:=s10.later bD
    replace qr:=qr.later bD
    replace qo:=qo.later bD
    replace hS:=hS.later bD
    replace kT:=kT.later bD
    replace u19:=u19.later bD
    refine wp_region_held_drew (S:=fun w'=>w'.cell? ⟨e7,0,none⟩=some (.bool (ng P0))∧w'.cell? ⟨e7,1,none⟩=some (.slice p7 (ln (am P0)) (ln (am P0)))∧w'.cell? ⟨e9,0,none⟩=some (.bool (ng P1))∧w'.cell? ⟨e9,1,none⟩=some (.slice p9 (ln (am P1)) (ln (am P1)))) (by kernel_rfl) ⟨ku7_0,ku7_1,ku9_0,ku9_1⟩ (fun hHeld=>?_)
    clear ku7_0 ku7_1 ku9_0 ku9_1
    generalize wV.drew=w0H at bD oS oA u7 u9 k7 k9 s8 s10 qr qo hS kT u19 bT hHeld ⊢
    clear bD u7_0 u7_1 u9_0 u9_1
    clear u7 u9 qr qo u19 hS oS oA
    refine tk 0 (v:=?_) rfl (Or.inl ⟨by rfl,?_⟩) ?_
    rotate_left
    ·intro w9 hSw
     go_simp
     first | done | with_reducible rfl
    simp only [pP,pN,pS,pZ,pC]
    refine tk 1 (v:=?_) rfl (Or.inl ⟨by rfl,?_⟩) ?_
    rotate_left
    ·intro w9 hSw
     go_simp
     first | done | with_reducible rfl
    simp only [pP,pN,pS,pZ,pC]
    refine tk 3 (v:=?_) rfl (Or.inl ⟨by rfl,?_⟩) ?_
    rotate_left
    ·intro w9 hSw
     go_simp
     first | done | with_reducible rfl
    simp only [pP,pN,pS,pZ,pC]
    refine tk 6 (v:=?_) rfl (Or.inl ⟨by rfl,?_⟩) ?_
    rotate_left
    ·intro w9 hSw
     go_simp
     first | done | with_reducible rfl
    simp only [pP,pN,pS,pZ,pC]
    refine tk 7 (v:=?_) rfl (Or.inl ⟨by rfl,?_⟩) ?_
    rotate_left
    ·intro w9 hSw
     go_simp
     first | done | with_reducible rfl
    simp only [pP,pN,pS,pZ,pC]
    refine tk 8 (v:=?_) rfl (Or.inl ⟨by rfl,?_⟩) ?_
    rotate_left
    ·intro w9 hSw
     go_simp
     first | done | with_reducible rfl
    simp only [pP,pN,pS,pZ,pC]
    refine wpAnyH_ready (rs:=[2,13]) (by kernel_rfl) (by simp) ?_
    refine consT rfl (fun KK hKK=>?_) ?_
    ·skip
     go_simp
     refine (positive_is pT (ln TT) (ln TT) _).mono ?_
     rintro e w12 ⟨rfl,b1⟩
     have bC:=b1
     replace bT:=bT.trans (bC.mono bT.size)
     replace k7:=k7.later bC
     replace k9:=k9.later bC
     replace s8:=s8.later bC
     replace s10:=s10.later bC
     replace kT:=kT.later bC
     replace hHeld:=(⟨below_cell bC hHeld.1,below_cell bC hHeld.2.1,below_cell bC hHeld.2.2.1,below_cell bC hHeld.2.2.2⟩:_∧_∧_∧_)
     clear bC
     go_wp2_with fail
     clear b1
     refine hKK.out _ _ hHeld ?_
     clear hHeld
     intro hHeld
     clear hKK KK
     try simp only [pP,pN,pS,pZ,pC]
     refine wpAnyH_ready (rs:=[4,13]) (by kernel_rfl) (by simp) ?_
     refine consT rfl (fun KK hKK=>?_) ?_
     ·skip
      go_simp
      refine (GMu.out _ pT kT k9).mono ?_
      rintro e w13 ⟨pz,rfl,n1⟩
      have bC:=n1.below
      replace bT:=bT.trans (bC.mono bT.size)
      replace k7:=k7.later bC
      replace k9:=k9.later bC
      replace s8:=s8.later bC
      replace s10:=s10.later bC
      replace kT:=kT.later bC
      replace hHeld:=(⟨below_cell bC hHeld.1,below_cell bC hHeld.2.1,below_cell bC hHeld.2.2.1,below_cell bC hHeld.2.2.2⟩:_∧_∧_∧_)
      clear bC
      go_wp2_with fail
      have kz:=n1.seg
      clear n1
      refine hKK.out _ _ hHeld ?_
      clear hHeld
      intro hHeld
      clear hKK KK
      try simp only [pP,pN,pS,pZ,pC]
      refine wpAnyH_ready (rs:=[5,13]) (by kernel_rfl) (by simp) ?_
      refine consT rfl (fun KK hKK=>?_) ?_
      ·skip
       go_simp
       refine (GAd.out _ pz k7 kz).mono ?_
       rintro e w14 ⟨pB,rfl,n1⟩
       have bC:=n1.below
       replace bT:=bT.trans (bC.mono bT.size)
       replace k7:=k7.later bC
       replace k9:=k9.later bC
       replace s8:=s8.later bC
       replace s10:=s10.later bC
       replace kT:=kT.later bC
       replace kz:=kz.later bC
       replace hHeld:=(⟨below_cell bC hHeld.1,below_cell bC hHeld.2.1,below_cell bC hHeld.2.2.1,below_cell bC hHeld.2.2.2⟩:_∧_∧_∧_)
       clear bC
       go_wp2_with fail
       have kB:=n1.seg
       clear n1
       refine hKK.out _ _ hHeld ?_
       clear hHeld
       intro hHeld
       clear hKK KK
       try simp only [pP,pN,pS,pZ,pC]
       refine wpAnyH_ready (rs:=[9,13]) (by kernel_rfl) (by simp) ?_
       refine consT rfl (fun KK hKK=>?_) ?_
       ·skip
        go_simp
        refine (GM2.out _ pT kT s10).mono ?_
        rintro e w15 ⟨py,rfl,n1⟩
        have bC:=n1.below
        replace bT:=bT.trans (bC.mono bT.size)
        replace k7:=k7.later bC
        replace k9:=k9.later bC
        replace s8:=s8.later bC
        replace s10:=s10.later bC
        replace kT:=kT.later bC
        replace kz:=kz.later bC
        replace kB:=kB.later bC
        replace hHeld:=(⟨below_cell bC hHeld.1,below_cell bC hHeld.2.1,below_cell bC hHeld.2.2.1,below_cell bC hHeld.2.2.2⟩:_∧_∧_∧_)
        clear bC
        go_wp2_with fail
        have ky:=n1.seg
        clear n1
        refine hKK.out _ _ hHeld ?_
        clear hHeld
        intro hHeld
        clear hKK KK
        try simp only [pP,pN,pS,pZ,pC]
        refine wpAnyH_ready (rs:=[10,13]) (by kernel_rfl) (by simp) ?_
        refine consT rfl (fun KK hKK=>?_) ?_
        ·skip
         go_simp
         refine (GA2.out _ py s8 ky).mono ?_
         rintro e w16 ⟨qB,rfl,n1⟩
         have bC:=n1.below
         replace bT:=bT.trans (bC.mono bT.size)
         replace k7:=k7.later bC
         replace k9:=k9.later bC
         replace s8:=s8.later bC
         replace s10:=s10.later bC
         replace kT:=kT.later bC
         replace kz:=kz.later bC
         replace kB:=kB.later bC
         replace ky:=ky.later bC
         replace hHeld:=(⟨below_cell bC hHeld.1,below_cell bC hHeld.2.1,below_cell bC hHeld.2.2.1,below_cell bC hHeld.2.2.2⟩:_∧_∧_∧_)
         clear bC
         go_wp2_with fail
         have kq:=n1.seg
         clear n1
         refine hKK.out _ _ hHeld ?_
         clear hHeld
         intro hHeld
         clear hKK KK
         try simp only [pP,pN,pS,pZ,pC]
         refine tk 11 (v:=?_) rfl (Or.inl ⟨by rfl,?_⟩) ?_
         rotate_left
         ·intro w9 hSw
          go_simp
          first | done | with_reducible rfl
         simp only [pP,pN,pS,pZ,pC]
         refine wpAnyH_ready (rs:=[12,13]) (by kernel_rfl) (by simp) ?_
         refine consT rfl (fun KK hKK=>?_) ?_
         ·skip
          go_simp
          refine (GN2.out _ pB qB kB kq).mono ?_
          rintro e w17 ⟨p20,q20,rfl,b1,o20⟩
          have bC:=b1
          replace bT:=bT.trans (bC.mono bT.size)
          replace k7:=k7.later bC
          replace k9:=k9.later bC
          replace s8:=s8.later bC
          replace s10:=s10.later bC
          replace kT:=kT.later bC
          replace kz:=kz.later bC
          replace kB:=kB.later bC
          replace ky:=ky.later bC
          replace kq:=kq.later bC
          replace hHeld:=(⟨below_cell bC hHeld.1,below_cell bC hHeld.2.1,below_cell bC hHeld.2.2.1,below_cell bC hHeld.2.2.2⟩:_∧_∧_∧_)
          clear bC
          go_wp2_with fail
          clear b1
          refine hKK.out _ _ hHeld ?_
          clear hHeld
          intro hHeld
          clear hKK KK
          try simp only [pP,pN,pS,pZ,pC]
          refine wpAnyH_ready (rs:=[13]) (by kernel_rfl) (by simp) ?_
          refine cons' rfl (fun KK hKK=>?_)
          go_simp
          have u20:=Blk.new w17 #[.bool false,.slice none 0 0,.slice none 0 0] 27
          have bA:=below_alloc (w:=w17) (.cells #[.bool false,.slice none 0 0,.slice none 0 0] 27)
          have hu20ge:=bT.size
          have hu20c0:=cell_ltB hHeld.1
          have hu20c1:=cell_ltB hHeld.2.1
          have hu20c2:=cell_ltB hHeld.2.2.1
          have hu20c3:=cell_ltB hHeld.2.2.2
          generalize w17.alloc (.cells #[.bool false,.slice none 0 0,.slice none 0 0] 27)=w18 at u20 bA ⊢
          replace o20:=o20.on bA
          replace bT:=bT.trans (bA.mono bT.size)
          replace k7:=k7.later bA
          replace k9:=k9.later bA
          replace s8:=s8.later bA
          replace s10:=s10.later bA
          replace kT:=kT.later bA
          replace kz:=kz.later bA
          replace kB:=kB.later bA
          replace ky:=ky.later bA
          replace kq:=kq.later bA
          replace hHeld:=(⟨below_cell bA hHeld.1,below_cell bA hHeld.2.1,below_cell bA hHeld.2.2.1,below_cell bA hHeld.2.2.2⟩:_∧_∧_∧_)
          clear bA
          refine hKK.out _ _ hHeld ?_
          clear hHeld
          intro hHeld
          clear hKK KK
          try simp only [pP,pN,pS,pZ,pC]
          obtain ⟨cu20,hcc⟩:∃ cc,w17.heap.size=cc:=⟨_,rfl⟩
          rw [hcc] at u20 hu20ge hu20c0 hu20c1 hu20c2 hu20c3
          try rw [hcc]
          clear hcc
          refine wpAnyH_ready (rs:=[14]) (by kernel_rfl) (by simp) ?_
          refine cons' rfl (fun KK hKK=>?_)
          have z0:=u20.cell 0
          have z1:=u20.cell 1
          have z2:=u20.cell 2
          simp only [List.getElem?_toArray,List.getElem?_cons_zero,List.getElem?_cons_succ] at z0 z1 z2
          have fz:=fun o=>u20.frozen o
          obtain ⟨c9,q9⟩:=u20.set3 (.bool (ng rb.num)) (.slice p20 (ln (am rb.num)) (ln (am rb.num))) (.slice q20 (ln rb.den) (ln rb.den))
          have hno:=u20.no (by simp)
          replace k7:=k7.ch c9 hno
          replace k9:=k9.ch c9 hno
          replace s8:=s8.ch c9 hno
          replace s10:=s10.ch c9 hno
          replace kT:=kT.ch c9 hno
          replace kz:=kz.ch c9 hno
          replace kB:=kB.ch c9 hno
          replace ky:=ky.ch c9 hno
          replace kq:=kq.ch c9 hno
          replace o20:=o20.ch c9 hno
          replace bT:=bT.trans (c9.below (by omega))
          have hH2:=(⟨(World.cell?_of_block (w:=w18) (a:=⟨e7,0,none⟩) (c9.other (e7) (by omega))).trans hHeld.1,(World.cell?_of_block (w:=w18) (a:=⟨e7,1,none⟩) (c9.other (e7) (by omega))).trans hHeld.2.1,(World.cell?_of_block (w:=w18) (a:=⟨e9,0,none⟩) (c9.other (e9) (by omega))).trans hHeld.2.2.1,(World.cell?_of_block (w:=w18) (a:=⟨e9,1,none⟩) (c9.other (e9) (by omega))).trans hHeld.2.2.2⟩:_∧_∧_∧_)
          go_simp
          clear z0 z1 z2 fz hno c9
          replace u20:=q9
          refine hKK.out _ _ hH2 ?_
          clear hHeld
          intro hHeld
          clear hKK KK
          try simp only [pP,pN,pS,pZ,pC]
          clear hH2
          generalize (((w18.setCell ⟨cu20,0,none⟩ (.bool (ng rb.num))).setCell ⟨cu20,1,none⟩ (.slice p20 (ln (am rb.num)) (ln (am rb.num)))).setCell ⟨cu20,2,none⟩ (.slice q20 (ln rb.den) (ln rb.den)))=w19 at bT k7 k9 s8 s10 kT kz kB ky kq u20 o20 hHeld ⊢
          refine wpAnyH_done (by kernel_rfl) ?_ _
          go_wp2_with fail
          go_meet
          exact ⟨_,cu20,p20,q20,rfl,rfl,hu20ge,u20,o20,bT⟩
         refine consT rfl (fun KK hKK=>?_) ?_
         ·skip
          go_simp
          have u20:=Blk.new w16 #[.bool false,.slice none 0 0,.slice none 0 0] 27
          have bA:=below_alloc (w:=w16) (.cells #[.bool false,.slice none 0 0,.slice none 0 0] 27)
          have hu20ge:=bT.size
          have hu20c0:=cell_ltB hHeld.1
          have hu20c1:=cell_ltB hHeld.2.1
          have hu20c2:=cell_ltB hHeld.2.2.1
          have hu20c3:=cell_ltB hHeld.2.2.2
          generalize w16.alloc (.cells #[.bool false,.slice none 0 0,.slice none 0 0] 27)=w20 at u20 bA ⊢
          replace bT:=bT.trans (bA.mono bT.size)
          replace k7:=k7.later bA
          replace k9:=k9.later bA
          replace s8:=s8.later bA
          replace s10:=s10.later bA
          replace kT:=kT.later bA
          replace kz:=kz.later bA
          replace kB:=kB.later bA
          replace ky:=ky.later bA
          replace kq:=kq.later bA
          replace hHeld:=(⟨below_cell bA hHeld.1,below_cell bA hHeld.2.1,below_cell bA hHeld.2.2.1,below_cell bA hHeld.2.2.2⟩:_∧_∧_∧_)
          clear bA
          refine hKK.out _ _ hHeld ?_
          clear hHeld
          intro hHeld
          clear hKK KK
          try simp only [pP,pN,pS,pZ,pC]
          obtain ⟨cu20,hcc⟩:∃ cc,w16.heap.size=cc:=⟨_,rfl⟩
          rw [hcc] at u20 hu20ge hu20c0 hu20c1 hu20c2 hu20c3
          try rw [hcc]
          clear hcc
          refine wpAnyH_ready (rs:=[12]) (by kernel_rfl) (by simp) ?_
          refine cons' rfl (fun KK hKK=>?_)
          go_simp
          refine (GN2.out _ pB qB kB kq).mono ?_
          rintro e w21 ⟨p20,q20,rfl,b1,o20⟩
          have bC:=b1
          replace bT:=bT.trans (bC.mono bT.size)
          replace k7:=k7.later bC
          replace k9:=k9.later bC
          replace s8:=s8.later bC
          replace s10:=s10.later bC
          replace kT:=kT.later bC
          replace kz:=kz.later bC
          replace kB:=kB.later bC
          replace ky:=ky.later bC
          replace kq:=kq.later bC
          replace u20:=u20.later bC
          replace hHeld:=(⟨below_cell bC hHeld.1,below_cell bC hHeld.2.1,below_cell bC hHeld.2.2.1,below_cell bC hHeld.2.2.2⟩:_∧_∧_∧_)
          clear bC
          go_wp2_with fail
          clear b1
          refine hKK.out _ _ hHeld ?_
          clear hHeld
          intro hHeld
          clear hKK KK
          try simp only [pP,pN,pS,pZ,pC]
          refine wpAnyH_ready (rs:=[14]) (by kernel_rfl) (by simp) ?_
          refine cons' rfl (fun KK hKK=>?_)
          have z0:=u20.cell 0
          have z1:=u20.cell 1
          have z2:=u20.cell 2
          simp only [List.getElem?_toArray,List.getElem?_cons_zero,List.getElem?_cons_succ] at z0 z1 z2
          have fz:=fun o=>u20.frozen o
          obtain ⟨c9,q9⟩:=u20.set3 (.bool (ng rb.num)) (.slice p20 (ln (am rb.num)) (ln (am rb.num))) (.slice q20 (ln rb.den) (ln rb.den))
          have hno:=u20.no (by simp)
          replace k7:=k7.ch c9 hno
          replace k9:=k9.ch c9 hno
          replace s8:=s8.ch c9 hno
          replace s10:=s10.ch c9 hno
          replace kT:=kT.ch c9 hno
          replace kz:=kz.ch c9 hno
          replace kB:=kB.ch c9 hno
          replace ky:=ky.ch c9 hno
          replace kq:=kq.ch c9 hno
          replace o20:=o20.ch c9 hno
          replace bT:=bT.trans (c9.below (by omega))
          have hH2:=(⟨(World.cell?_of_block (w:=w21) (a:=⟨e7,0,none⟩) (c9.other (e7) (by omega))).trans hHeld.1,(World.cell?_of_block (w:=w21) (a:=⟨e7,1,none⟩) (c9.other (e7) (by omega))).trans hHeld.2.1,(World.cell?_of_block (w:=w21) (a:=⟨e9,0,none⟩) (c9.other (e9) (by omega))).trans hHeld.2.2.1,(World.cell?_of_block (w:=w21) (a:=⟨e9,1,none⟩) (c9.other (e9) (by omega))).trans hHeld.2.2.2⟩:_∧_∧_∧_)
          go_simp
          clear z0 z1 z2 fz hno c9
          replace u20:=q9
          refine hKK.out _ _ hH2 ?_
          clear hHeld
          intro hHeld
          clear hKK KK
          try simp only [pP,pN,pS,pZ,pC]
          clear hH2
          generalize (((w21.setCell ⟨cu20,0,none⟩ (.bool (ng rb.num))).setCell ⟨cu20,1,none⟩ (.slice p20 (ln (am rb.num)) (ln (am rb.num)))).setCell ⟨cu20,2,none⟩ (.slice q20 (ln rb.den) (ln rb.den)))=w22 at bT k7 k9 s8 s10 kT kz kB ky kq u20 o20 hHeld ⊢
          refine wpAnyH_done (by kernel_rfl) ?_ _
          go_wp2_with fail
          go_meet
          exact ⟨_,cu20,p20,q20,rfl,rfl,hu20ge,u20,o20,bT⟩
         exact AllReadyH.nil
        refine consT rfl (fun KK hKK=>?_) ?_
        ·skip
         go_simp
         have u20:=Blk.new w15 #[.bool false,.slice none 0 0,.slice none 0 0] 27
         have bA:=below_alloc (w:=w15) (.cells #[.bool false,.slice none 0 0,.slice none 0 0] 27)
         have hu20ge:=bT.size
         have hu20c0:=cell_ltB hHeld.1
         have hu20c1:=cell_ltB hHeld.2.1
         have hu20c2:=cell_ltB hHeld.2.2.1
         have hu20c3:=cell_ltB hHeld.2.2.2
         generalize w15.alloc (.cells #[.bool false,.slice none 0 0,.slice none 0 0] 27)=w23 at u20 bA ⊢
         replace bT:=bT.trans (bA.mono bT.size)
         replace k7:=k7.later bA
         replace k9:=k9.later bA
         replace s8:=s8.later bA
         replace s10:=s10.later bA
         replace kT:=kT.later bA
         replace kz:=kz.later bA
         replace kB:=kB.later bA
         replace ky:=ky.later bA
         replace hHeld:=(⟨below_cell bA hHeld.1,below_cell bA hHeld.2.1,below_cell bA hHeld.2.2.1,below_cell bA hHeld.2.2.2⟩:_∧_∧_∧_)
         clear bA
         refine hKK.out _ _ hHeld ?_
         clear hHeld
         intro hHeld
         clear hKK KK
         try simp only [pP,pN,pS,pZ,pC]
         obtain ⟨cu20,hcc⟩:∃ cc,w15.heap.size=cc:=⟨_,rfl⟩
         rw [hcc] at u20 hu20ge hu20c0 hu20c1 hu20c2 hu20c3
         try rw [hcc]
         clear hcc
         refine wpAnyH_ready (rs:=[10]) (by kernel_rfl) (by simp) ?_
         refine cons' rfl (fun KK hKK=>?_)
         go_simp
         refine (GA2.out _ py s8 ky).mono ?_
         rintro e w24 ⟨qB,rfl,n1⟩
         have bC:=n1.below
         replace bT:=bT.trans (bC.mono bT.size)
         replace k7:=k7.later bC
         replace k9:=k9.later bC
         replace s8:=s8.later bC
         replace s10:=s10.later bC
         replace kT:=kT.later bC
         replace kz:=kz.later bC
         replace kB:=kB.later bC
         replace ky:=ky.later bC
         replace u20:=u20.later bC
         replace hHeld:=(⟨below_cell bC hHeld.1,below_cell bC hHeld.2.1,below_cell bC hHeld.2.2.1,below_cell bC hHeld.2.2.2⟩:_∧_∧_∧_)
         clear bC
         go_wp2_with fail
         have kq:=n1.seg
         clear n1
         refine hKK.out _ _ hHeld ?_
         clear hHeld
         intro hHeld
         clear hKK KK
         try simp only [pP,pN,pS,pZ,pC]
         refine tk 11 (v:=?_) rfl (Or.inl ⟨by rfl,?_⟩) ?_
         rotate_left
         ·intro w9 hSw
          go_simp
          first | done | with_reducible rfl
         simp only [pP,pN,pS,pZ,pC]
         refine wpAnyH_ready (rs:=[12]) (by kernel_rfl) (by simp) ?_
         refine cons' rfl (fun KK hKK=>?_)
         go_simp
         refine (GN2.out _ pB qB kB kq).mono ?_
         rintro e w25 ⟨p20,q20,rfl,b1,o20⟩
         have bC:=b1
         replace bT:=bT.trans (bC.mono bT.size)
         replace k7:=k7.later bC
         replace k9:=k9.later bC
         replace s8:=s8.later bC
         replace s10:=s10.later bC
         replace kT:=kT.later bC
         replace kz:=kz.later bC
         replace kB:=kB.later bC
         replace ky:=ky.later bC
         replace u20:=u20.later bC
         replace kq:=kq.later bC
         replace hHeld:=(⟨below_cell bC hHeld.1,below_cell bC hHeld.2.1,below_cell bC hHeld.2.2.1,below_cell bC hHeld.2.2.2⟩:_∧_∧_∧_)
         clear bC
         go_wp2_with fail
         clear b1
         refine hKK.out _ _ hHeld ?_
         clear hHeld
         intro hHeld
         clear hKK KK
         try simp only [pP,pN,pS,pZ,pC]
         refine wpAnyH_ready (rs:=[14]) (by kernel_rfl) (by simp) ?_
         refine cons' rfl (fun KK hKK=>?_)
         have z0:=u20.cell 0
         have z1:=u20.cell 1
         have z2:=u20.cell 2
         simp only [List.getElem?_toArray,List.getElem?_cons_zero,List.getElem?_cons_succ] at z0 z1 z2
         have fz:=fun o=>u20.frozen o
         obtain ⟨c9,q9⟩:=u20.set3 (.bool (ng rb.num)) (.slice p20 (ln (am rb.num)) (ln (am rb.num))) (.slice q20 (ln rb.den) (ln rb.den))
         have hno:=u20.no (by simp)
         replace k7:=k7.ch c9 hno
         replace k9:=k9.ch c9 hno
         replace s8:=s8.ch c9 hno
         replace s10:=s10.ch c9 hno
         replace kT:=kT.ch c9 hno
         replace kz:=kz.ch c9 hno
         replace kB:=kB.ch c9 hno
         replace ky:=ky.ch c9 hno
         replace kq:=kq.ch c9 hno
         replace o20:=o20.ch c9 hno
         replace bT:=bT.trans (c9.below (by omega))
         have hH2:=(⟨(World.cell?_of_block (w:=w25) (a:=⟨e7,0,none⟩) (c9.other (e7) (by omega))).trans hHeld.1,(World.cell?_of_block (w:=w25) (a:=⟨e7,1,none⟩) (c9.other (e7) (by omega))).trans hHeld.2.1,(World.cell?_of_block (w:=w25) (a:=⟨e9,0,none⟩) (c9.other (e9) (by omega))).trans hHeld.2.2.1,(World.cell?_of_block (w:=w25) (a:=⟨e9,1,none⟩) (c9.other (e9) (by omega))).trans hHeld.2.2.2⟩:_∧_∧_∧_)
         go_simp
         clear z0 z1 z2 fz hno c9
         replace u20:=q9
         refine hKK.out _ _ hH2 ?_
         clear hHeld
         intro hHeld
         clear hKK KK
         try simp only [pP,pN,pS,pZ,pC]
         clear hH2
         generalize (((w25.setCell ⟨cu20,0,none⟩ (.bool (ng rb.num))).setCell ⟨cu20,1,none⟩ (.slice p20 (ln (am rb.num)) (ln (am rb.num)))).setCell ⟨cu20,2,none⟩ (.slice q20 (ln rb.den) (ln rb.den)))=w26 at bT k7 k9 s8 s10 kT kz kB ky u20 kq o20 hHeld ⊢
         refine wpAnyH_done (by kernel_rfl) ?_ _
         go_wp2_with fail
         go_meet
         exact ⟨_,cu20,p20,q20,rfl,rfl,hu20ge,u20,o20,bT⟩
        exact AllReadyH.nil
       refine consT rfl (fun KK hKK=>?_) ?_
       ·skip
        go_simp
        have u20:=Blk.new w14 #[.bool false,.slice none 0 0,.slice none 0 0] 27
        have bA:=below_alloc (w:=w14) (.cells #[.bool false,.slice none 0 0,.slice none 0 0] 27)
        have hu20ge:=bT.size
        have hu20c0:=cell_ltB hHeld.1
        have hu20c1:=cell_ltB hHeld.2.1
        have hu20c2:=cell_ltB hHeld.2.2.1
        have hu20c3:=cell_ltB hHeld.2.2.2
        generalize w14.alloc (.cells #[.bool false,.slice none 0 0,.slice none 0 0] 27)=w27 at u20 bA ⊢
        replace bT:=bT.trans (bA.mono bT.size)
        replace k7:=k7.later bA
        replace k9:=k9.later bA
        replace s8:=s8.later bA
        replace s10:=s10.later bA
        replace kT:=kT.later bA
        replace kz:=kz.later bA
        replace kB:=kB.later bA
        replace hHeld:=(⟨below_cell bA hHeld.1,below_cell bA hHeld.2.1,below_cell bA hHeld.2.2.1,below_cell bA hHeld.2.2.2⟩:_∧_∧_∧_)
        clear bA
        refine hKK.out _ _ hHeld ?_
        clear hHeld
        intro hHeld
        clear hKK KK
        try simp only [pP,pN,pS,pZ,pC]
        obtain ⟨cu20,hcc⟩:∃ cc,w14.heap.size=cc:=⟨_,rfl⟩
        rw [hcc] at u20 hu20ge hu20c0 hu20c1 hu20c2 hu20c3
        try rw [hcc]
        clear hcc
        refine wpAnyH_ready (rs:=[9]) (by kernel_rfl) (by simp) ?_
        refine cons' rfl (fun KK hKK=>?_)
        go_simp
        refine (GM2.out _ pT kT s10).mono ?_
        rintro e w28 ⟨py,rfl,n1⟩
        have bC:=n1.below
        replace bT:=bT.trans (bC.mono bT.size)
        replace k7:=k7.later bC
        replace k9:=k9.later bC
        replace s8:=s8.later bC
        replace s10:=s10.later bC
        replace kT:=kT.later bC
        replace kz:=kz.later bC
        replace kB:=kB.later bC
        replace u20:=u20.later bC
        replace hHeld:=(⟨below_cell bC hHeld.1,below_cell bC hHeld.2.1,below_cell bC hHeld.2.2.1,below_cell bC hHeld.2.2.2⟩:_∧_∧_∧_)
        clear bC
        go_wp2_with fail
        have ky:=n1.seg
        clear n1
        refine hKK.out _ _ hHeld ?_
        clear hHeld
        intro hHeld
        clear hKK KK
        try simp only [pP,pN,pS,pZ,pC]
        refine wpAnyH_ready (rs:=[10]) (by kernel_rfl) (by simp) ?_
        refine cons' rfl (fun KK hKK=>?_)
        go_simp
        refine (GA2.out _ py s8 ky).mono ?_
        rintro e w29 ⟨qB,rfl,n1⟩
        have bC:=n1.below
        replace bT:=bT.trans (bC.mono bT.size)
        replace k7:=k7.later bC
        replace k9:=k9.later bC
        replace s8:=s8.later bC
        replace s10:=s10.later bC
        replace kT:=kT.later bC
        replace kz:=kz.later bC
        replace kB:=kB.later bC
        replace u20:=u20.later bC
        replace ky:=ky.later bC
        replace hHeld:=(⟨below_cell bC hHeld.1,below_cell bC hHeld.2.1,below_cell bC hHeld.2.2.1,below_cell bC hHeld.2.2.2⟩:_∧_∧_∧_)
        clear bC
        go_wp2_with fail
        have kq:=n1.seg
        clear n1
        refine hKK.out _ _ hHeld ?_
        clear hHeld
        intro hHeld
        clear hKK KK
        try simp only [pP,pN,pS,pZ,pC]
        refine tk 11 (v:=?_) rfl (Or.inl ⟨by rfl,?_⟩) ?_
        rotate_left
        ·intro w9 hSw
         go_simp
         first | done | with_reducible rfl
        simp only [pP,pN,pS,pZ,pC]
        refine wpAnyH_ready (rs:=[12]) (by kernel_rfl) (by simp) ?_
        refine cons' rfl (fun KK hKK=>?_)
        go_simp
        refine (GN2.out _ pB qB kB kq).mono ?_
        rintro e w30 ⟨p20,q20,rfl,b1,o20⟩
        have bC:=b1
        replace bT:=bT.trans (bC.mono bT.size)
        replace k7:=k7.later bC
        replace k9:=k9.later bC
        replace s8:=s8.later bC
        replace s10:=s10.later bC
        replace kT:=kT.later bC
        replace kz:=kz.later bC
        replace kB:=kB.later bC
        replace u20:=u20.later bC
        replace ky:=ky.later bC
        replace kq:=kq.later bC
        replace hHeld:=(⟨below_cell bC hHeld.1,below_cell bC hHeld.2.1,below_cell bC hHeld.2.2.1,below_cell bC hHeld.2.2.2⟩:_∧_∧_∧_)
        clear bC
        go_wp2_with fail
        clear b1
        refine hKK.out _ _ hHeld ?_
        clear hHeld
        intro hHeld
        clear hKK KK
        try simp only [pP,pN,pS,pZ,pC]
        refine wpAnyH_ready (rs:=[14]) (by kernel_rfl) (by simp) ?_
        refine cons' rfl (fun KK hKK=>?_)
        have z0:=u20.cell 0
        have z1:=u20.cell 1
        have z2:=u20.cell 2
        simp only [List.getElem?_toArray,List.getElem?_cons_zero,List.getElem?_cons_succ] at z0 z1 z2
        have fz:=fun o=>u20.frozen o
        obtain ⟨c9,q9⟩:=u20.set3 (.bool (ng rb.num)) (.slice p20 (ln (am rb.num)) (ln (am rb.num))) (.slice q20 (ln rb.den) (ln rb.den))
        have hno:=u20.no (by simp)
        replace k7:=k7.ch c9 hno
        replace k9:=k9.ch c9 hno
        replace s8:=s8.ch c9 hno
        replace s10:=s10.ch c9 hno
        replace kT:=kT.ch c9 hno
        replace kz:=kz.ch c9 hno
        replace kB:=kB.ch c9 hno
        replace ky:=ky.ch c9 hno
        replace kq:=kq.ch c9 hno
        replace o20:=o20.ch c9 hno
        replace bT:=bT.trans (c9.below (by omega))
        have hH2:=(⟨(World.cell?_of_block (w:=w30) (a:=⟨e7,0,none⟩) (c9.other (e7) (by omega))).trans hHeld.1,(World.cell?_of_block (w:=w30) (a:=⟨e7,1,none⟩) (c9.other (e7) (by omega))).trans hHeld.2.1,(World.cell?_of_block (w:=w30) (a:=⟨e9,0,none⟩) (c9.other (e9) (by omega))).trans hHeld.2.2.1,(World.cell?_of_block (w:=w30) (a:=⟨e9,1,none⟩) (c9.other (e9) (by omega))).trans hHeld.2.2.2⟩:_∧_∧_∧_)
        go_simp
        clear z0 z1 z2 fz hno c9
        replace u20:=q9
        refine hKK.out _ _ hH2 ?_
        clear hHeld
        intro hHeld
        clear hKK KK
        try simp only [pP,pN,pS,pZ,pC]
        clear hH2
        generalize (((w30.setCell ⟨cu20,0,none⟩ (.bool (ng rb.num))).setCell ⟨cu20,1,none⟩ (.slice p20 (ln (am rb.num)) (ln (am rb.num)))).setCell ⟨cu20,2,none⟩ (.slice q20 (ln rb.den) (ln rb.den)))=w31 at bT k7 k9 s8 s10 kT kz kB u20 ky kq o20 hHeld ⊢
        refine wpAnyH_done (by kernel_rfl) ?_ _
        go_wp2_with fail
        go_meet
        exact ⟨_,cu20,p20,q20,rfl,rfl,hu20ge,u20,o20,bT⟩
       exact AllReadyH.nil
      refine consT rfl (fun KK hKK=>?_) ?_
      ·skip
       go_simp
       have u20:=Blk.new w13 #[.bool false,.slice none 0 0,.slice none 0 0] 27
       have bA:=below_alloc (w:=w13) (.cells #[.bool false,.slice none 0 0,.slice none 0 0] 27)
       have hu20ge:=bT.size
       have hu20c0:=cell_ltB hHeld.1
       have hu20c1:=cell_ltB hHeld.2.1
       have hu20c2:=cell_ltB hHeld.2.2.1
       have hu20c3:=cell_ltB hHeld.2.2.2
       generalize w13.alloc (.cells #[.bool false,.slice none 0 0,.slice none 0 0] 27)=w32 at u20 bA ⊢
       replace bT:=bT.trans (bA.mono bT.size)
       replace k7:=k7.later bA
       replace k9:=k9.later bA
       replace s8:=s8.later bA
       replace s10:=s10.later bA
       replace kT:=kT.later bA
       replace kz:=kz.later bA
       replace hHeld:=(⟨below_cell bA hHeld.1,below_cell bA hHeld.2.1,below_cell bA hHeld.2.2.1,below_cell bA hHeld.2.2.2⟩:_∧_∧_∧_)
       clear bA
       refine hKK.out _ _ hHeld ?_
       clear hHeld
       intro hHeld
       clear hKK KK
       try simp only [pP,pN,pS,pZ,pC]
       obtain ⟨cu20,hcc⟩:∃ cc,w13.heap.size=cc:=⟨_,rfl⟩
       rw [hcc] at u20 hu20ge hu20c0 hu20c1 hu20c2 hu20c3
       try rw [hcc]
       clear hcc
       refine wpAnyH_ready (rs:=[5]) (by kernel_rfl) (by simp) ?_
       refine cons' rfl (fun KK hKK=>?_)
       go_simp
       refine (GAd.out _ pz k7 kz).mono ?_
       rintro e w33 ⟨pB,rfl,n1⟩
       have bC:=n1.below
       replace bT:=bT.trans (bC.mono bT.size)
       replace k7:=k7.later bC
       replace k9:=k9.later bC
       replace s8:=s8.later bC
       replace s10:=s10.later bC
       replace kT:=kT.later bC
       replace kz:=kz.later bC
       replace u20:=u20.later bC
       replace hHeld:=(⟨below_cell bC hHeld.1,below_cell bC hHeld.2.1,below_cell bC hHeld.2.2.1,below_cell bC hHeld.2.2.2⟩:_∧_∧_∧_)
       clear bC
       go_wp2_with fail
       have kB:=n1.seg
       clear n1
       refine hKK.out _ _ hHeld ?_
       clear hHeld
       intro hHeld
       clear hKK KK
       try simp only [pP,pN,pS,pZ,pC]
       refine wpAnyH_ready (rs:=[9]) (by kernel_rfl) (by simp) ?_
       refine cons' rfl (fun KK hKK=>?_)
       go_simp
       refine (GM2.out _ pT kT s10).mono ?_
       rintro e w34 ⟨py,rfl,n1⟩
       have bC:=n1.below
       replace bT:=bT.trans (bC.mono bT.size)
       replace k7:=k7.later bC
       replace k9:=k9.later bC
       replace s8:=s8.later bC
       replace s10:=s10.later bC
       replace kT:=kT.later bC
       replace kz:=kz.later bC
       replace u20:=u20.later bC
       replace kB:=kB.later bC
       replace hHeld:=(⟨below_cell bC hHeld.1,below_cell bC hHeld.2.1,below_cell bC hHeld.2.2.1,below_cell bC hHeld.2.2.2⟩:_∧_∧_∧_)
       clear bC
       go_wp2_with fail
       have ky:=n1.seg
       clear n1
       refine hKK.out _ _ hHeld ?_
       clear hHeld
       intro hHeld
       clear hKK KK
       try simp only [pP,pN,pS,pZ,pC]
       refine wpAnyH_ready (rs:=[10]) (by kernel_rfl) (by simp) ?_
       refine cons' rfl (fun KK hKK=>?_)
       go_simp
       refine (GA2.out _ py s8 ky).mono ?_
       rintro e w35 ⟨qB,rfl,n1⟩
       have bC:=n1.below
       replace bT:=bT.trans (bC.mono bT.size)
       replace k7:=k7.later bC
       replace k9:=k9.later bC
       replace s8:=s8.later bC
       replace s10:=s10.later bC
       replace kT:=kT.later bC
       replace kz:=kz.later bC
       replace u20:=u20.later bC
       replace kB:=kB.later bC
       replace ky:=ky.later bC
       replace hHeld:=(⟨below_cell bC hHeld.1,below_cell bC hHeld.2.1,below_cell bC hHeld.2.2.1,below_cell bC hHeld.2.2.2⟩:_∧_∧_∧_)
       clear bC
       go_wp2_with fail
       have kq:=n1.seg
       clear n1
       refine hKK.out _ _ hHeld ?_
       clear hHeld
       intro hHeld
       clear hKK KK
       try simp only [pP,pN,pS,pZ,pC]
       refine tk 11 (v:=?_) rfl (Or.inl ⟨by rfl,?_⟩) ?_
       rotate_left
       ·intro w9 hSw
        go_simp
        first | done | with_reducible rfl
       simp only [pP,pN,pS,pZ,pC]
       refine wpAnyH_ready (rs:=[12]) (by kernel_rfl) (by simp) ?_
       refine cons' rfl (fun KK hKK=>?_)
       go_simp
       refine (GN2.out _ pB qB kB kq).mono ?_
       rintro e w36 ⟨p20,q20,rfl,b1,o20⟩
       have bC:=b1
       replace bT:=bT.trans (bC.mono bT.size)
       replace k7:=k7.later bC
       replace k9:=k9.later bC
       replace s8:=s8.later bC
       replace s10:=s10.later bC
       replace kT:=kT.later bC
       replace kz:=kz.later bC
       replace u20:=u20.later bC
       replace kB:=kB.later bC
       replace ky:=ky.later bC
       replace kq:=kq.later bC
       replace hHeld:=(⟨below_cell bC hHeld.1,below_cell bC hHeld.2.1,below_cell bC hHeld.2.2.1,below_cell bC hHeld.2.2.2⟩:_∧_∧_∧_)
       clear bC
       go_wp2_with fail
       clear b1
       refine hKK.out _ _ hHeld ?_
       clear hHeld
       intro hHeld
       clear hKK KK
       try simp only [pP,pN,pS,pZ,pC]
       refine wpAnyH_ready (rs:=[14]) (by kernel_rfl) (by simp) ?_
       refine cons' rfl (fun KK hKK=>?_)
       have z0:=u20.cell 0
       have z1:=u20.cell 1
       have z2:=u20.cell 2
       simp only [List.getElem?_toArray,List.getElem?_cons_zero,List.getElem?_cons_succ] at z0 z1 z2
       have fz:=fun o=>u20.frozen o
       obtain ⟨c9,q9⟩:=u20.set3 (.bool (ng rb.num)) (.slice p20 (ln (am rb.num)) (ln (am rb.num))) (.slice q20 (ln rb.den) (ln rb.den))
       have hno:=u20.no (by simp)
       replace k7:=k7.ch c9 hno
       replace k9:=k9.ch c9 hno
       replace s8:=s8.ch c9 hno
       replace s10:=s10.ch c9 hno
       replace kT:=kT.ch c9 hno
       replace kz:=kz.ch c9 hno
       replace kB:=kB.ch c9 hno
       replace ky:=ky.ch c9 hno
       replace kq:=kq.ch c9 hno
       replace o20:=o20.ch c9 hno
       replace bT:=bT.trans (c9.below (by omega))
       have hH2:=(⟨(World.cell?_of_block (w:=w36) (a:=⟨e7,0,none⟩) (c9.other (e7) (by omega))).trans hHeld.1,(World.cell?_of_block (w:=w36) (a:=⟨e7,1,none⟩) (c9.other (e7) (by omega))).trans hHeld.2.1,(World.cell?_of_block (w:=w36) (a:=⟨e9,0,none⟩) (c9.other (e9) (by omega))).trans hHeld.2.2.1,(World.cell?_of_block (w:=w36) (a:=⟨e9,1,none⟩) (c9.other (e9) (by omega))).trans hHeld.2.2.2⟩:_∧_∧_∧_)
       go_simp
       clear z0 z1 z2 fz hno c9
       replace u20:=q9
       refine hKK.out _ _ hH2 ?_
       clear hHeld
       intro hHeld
       clear hKK KK
       try simp only [pP,pN,pS,pZ,pC]
       clear hH2
       generalize (((w36.setCell ⟨cu20,0,none⟩ (.bool (ng rb.num))).setCell ⟨cu20,1,none⟩ (.slice p20 (ln (am rb.num)) (ln (am rb.num)))).setCell ⟨cu20,2,none⟩ (.slice q20 (ln rb.den) (ln rb.den)))=w37 at bT k7 k9 s8 s10 kT kz u20 kB ky kq o20 hHeld ⊢
       refine wpAnyH_done (by kernel_rfl) ?_ _
       go_wp2_with fail
       go_meet
       exact ⟨_,cu20,p20,q20,rfl,rfl,hu20ge,u20,o20,bT⟩
      exact AllReadyH.nil
     refine consT rfl (fun KK hKK=>?_) ?_
     ·skip
      go_simp
      have u20:=Blk.new w12 #[.bool false,.slice none 0 0,.slice none 0 0] 27
      have bA:=below_alloc (w:=w12) (.cells #[.bool false,.slice none 0 0,.slice none 0 0] 27)
      have hu20ge:=bT.size
      have hu20c0:=cell_ltB hHeld.1
      have hu20c1:=cell_ltB hHeld.2.1
      have hu20c2:=cell_ltB hHeld.2.2.1
      have hu20c3:=cell_ltB hHeld.2.2.2
      generalize w12.alloc (.cells #[.bool false,.slice none 0 0,.slice none 0 0] 27)=w38 at u20 bA ⊢
      replace bT:=bT.trans (bA.mono bT.size)
      replace k7:=k7.later bA
      replace k9:=k9.later bA
      replace s8:=s8.later bA
      replace s10:=s10.later bA
      replace kT:=kT.later bA
      replace hHeld:=(⟨below_cell bA hHeld.1,below_cell bA hHeld.2.1,below_cell bA hHeld.2.2.1,below_cell bA hHeld.2.2.2⟩:_∧_∧_∧_)
      clear bA
      refine hKK.out _ _ hHeld ?_
      clear hHeld
      intro hHeld
      clear hKK KK
      try simp only [pP,pN,pS,pZ,pC]
      obtain ⟨cu20,hcc⟩:∃ cc,w12.heap.size=cc:=⟨_,rfl⟩
      rw [hcc] at u20 hu20ge hu20c0 hu20c1 hu20c2 hu20c3
      try rw [hcc]
      clear hcc
      refine wpAnyH_ready (rs:=[4]) (by kernel_rfl) (by simp) ?_
      refine cons' rfl (fun KK hKK=>?_)
      go_simp
      refine (GMu.out _ pT kT k9).mono ?_
      rintro e w39 ⟨pz,rfl,n1⟩
      have bC:=n1.below
      replace bT:=bT.trans (bC.mono bT.size)
      replace k7:=k7.later bC
      replace k9:=k9.later bC
      replace s8:=s8.later bC
      replace s10:=s10.later bC
      replace kT:=kT.later bC
      replace u20:=u20.later bC
      replace hHeld:=(⟨below_cell bC hHeld.1,below_cell bC hHeld.2.1,below_cell bC hHeld.2.2.1,below_cell bC hHeld.2.2.2⟩:_∧_∧_∧_)
      clear bC
      go_wp2_with fail
      have kz:=n1.seg
      clear n1
      refine hKK.out _ _ hHeld ?_
      clear hHeld
      intro hHeld
      clear hKK KK
      try simp only [pP,pN,pS,pZ,pC]
      refine wpAnyH_ready (rs:=[5]) (by kernel_rfl) (by simp) ?_
      refine cons' rfl (fun KK hKK=>?_)
      go_simp
      refine (GAd.out _ pz k7 kz).mono ?_
      rintro e w40 ⟨pB,rfl,n1⟩
      have bC:=n1.below
      replace bT:=bT.trans (bC.mono bT.size)
      replace k7:=k7.later bC
      replace k9:=k9.later bC
      replace s8:=s8.later bC
      replace s10:=s10.later bC
      replace kT:=kT.later bC
      replace u20:=u20.later bC
      replace kz:=kz.later bC
      replace hHeld:=(⟨below_cell bC hHeld.1,below_cell bC hHeld.2.1,below_cell bC hHeld.2.2.1,below_cell bC hHeld.2.2.2⟩:_∧_∧_∧_)
      clear bC
      go_wp2_with fail
      have kB:=n1.seg
      clear n1
      refine hKK.out _ _ hHeld ?_
      clear hHeld
      intro hHeld
      clear hKK KK
      try simp only [pP,pN,pS,pZ,pC]
      refine wpAnyH_ready (rs:=[9]) (by kernel_rfl) (by simp) ?_
      refine cons' rfl (fun KK hKK=>?_)
      go_simp
      refine (GM2.out _ pT kT s10).mono ?_
      rintro e w41 ⟨py,rfl,n1⟩
      have bC:=n1.below
      replace bT:=bT.trans (bC.mono bT.size)
      replace k7:=k7.later bC
      replace k9:=k9.later bC
      replace s8:=s8.later bC
      replace s10:=s10.later bC
      replace kT:=kT.later bC
      replace u20:=u20.later bC
      replace kz:=kz.later bC
      replace kB:=kB.later bC
      replace hHeld:=(⟨below_cell bC hHeld.1,below_cell bC hHeld.2.1,below_cell bC hHeld.2.2.1,below_cell bC hHeld.2.2.2⟩:_∧_∧_∧_)
      clear bC
      go_wp2_with fail
      have ky:=n1.seg
      clear n1
      refine hKK.out _ _ hHeld ?_
      clear hHeld
      intro hHeld
      clear hKK KK
      try simp only [pP,pN,pS,pZ,pC]
      refine wpAnyH_ready (rs:=[10]) (by kernel_rfl) (by simp) ?_
      refine cons' rfl (fun KK hKK=>?_)
      go_simp
      refine (GA2.out _ py s8 ky).mono ?_
      rintro e w42 ⟨qB,rfl,n1⟩
      have bC:=n1.below
      replace bT:=bT.trans (bC.mono bT.size)
      replace k7:=k7.later bC
      replace k9:=k9.later bC
      replace s8:=s8.later bC
      replace s10:=s10.later bC
      replace kT:=kT.later bC
      replace u20:=u20.later bC
      replace kz:=kz.later bC
      replace kB:=kB.later bC
      replace ky:=ky.later bC
      replace hHeld:=(⟨below_cell bC hHeld.1,below_cell bC hHeld.2.1,below_cell bC hHeld.2.2.1,below_cell bC hHeld.2.2.2⟩:_∧_∧_∧_)
      clear bC
      go_wp2_with fail
      have kq:=n1.seg
      clear n1
      refine hKK.out _ _ hHeld ?_
      clear hHeld
      intro hHeld
      clear hKK KK
      try simp only [pP,pN,pS,pZ,pC]
      refine tk 11 (v:=?_) rfl (Or.inl ⟨by rfl,?_⟩) ?_
      rotate_left
      ·intro w9 hSw
       go_simp
       first | done | with_reducible rfl
      simp only [pP,pN,pS,pZ,pC]
      refine wpAnyH_ready (rs:=[12]) (by kernel_rfl) (by simp) ?_
      refine cons' rfl (fun KK hKK=>?_)
      go_simp
      refine (GN2.out _ pB qB kB kq).mono ?_
      rintro e w43 ⟨p20,q20,rfl,b1,o20⟩
      have bC:=b1
      replace bT:=bT.trans (bC.mono bT.size)
      replace k7:=k7.later bC
      replace k9:=k9.later bC
      replace s8:=s8.later bC
      replace s10:=s10.later bC
      replace kT:=kT.later bC
      replace u20:=u20.later bC
      replace kz:=kz.later bC
      replace kB:=kB.later bC
      replace ky:=ky.later bC
      replace kq:=kq.later bC
      replace hHeld:=(⟨below_cell bC hHeld.1,below_cell bC hHeld.2.1,below_cell bC hHeld.2.2.1,below_cell bC hHeld.2.2.2⟩:_∧_∧_∧_)
      clear bC
      go_wp2_with fail
      clear b1
      refine hKK.out _ _ hHeld ?_
      clear hHeld
      intro hHeld
      clear hKK KK
      try simp only [pP,pN,pS,pZ,pC]
      refine wpAnyH_ready (rs:=[14]) (by kernel_rfl) (by simp) ?_
      refine cons' rfl (fun KK hKK=>?_)
      have z0:=u20.cell 0
      have z1:=u20.cell 1
      have z2:=u20.cell 2
      simp only [List.getElem?_toArray,List.getElem?_cons_zero,List.getElem?_cons_succ] at z0 z1 z2
      have fz:=fun o=>u20.frozen o
      obtain ⟨c9,q9⟩:=u20.set3 (.bool (ng rb.num)) (.slice p20 (ln (am rb.num)) (ln (am rb.num))) (.slice q20 (ln rb.den) (ln rb.den))
      have hno:=u20.no (by simp)
      replace k7:=k7.ch c9 hno
      replace k9:=k9.ch c9 hno
      replace s8:=s8.ch c9 hno
      replace s10:=s10.ch c9 hno
      replace kT:=kT.ch c9 hno
      replace kz:=kz.ch c9 hno
      replace kB:=kB.ch c9 hno
      replace ky:=ky.ch c9 hno
      replace kq:=kq.ch c9 hno
      replace o20:=o20.ch c9 hno
      replace bT:=bT.trans (c9.below (by omega))
      have hH2:=(⟨(World.cell?_of_block (w:=w43) (a:=⟨e7,0,none⟩) (c9.other (e7) (by omega))).trans hHeld.1,(World.cell?_of_block (w:=w43) (a:=⟨e7,1,none⟩) (c9.other (e7) (by omega))).trans hHeld.2.1,(World.cell?_of_block (w:=w43) (a:=⟨e9,0,none⟩) (c9.other (e9) (by omega))).trans hHeld.2.2.1,(World.cell?_of_block (w:=w43) (a:=⟨e9,1,none⟩) (c9.other (e9) (by omega))).trans hHeld.2.2.2⟩:_∧_∧_∧_)
      go_simp
      clear z0 z1 z2 fz hno c9
      replace u20:=q9
      refine hKK.out _ _ hH2 ?_
      clear hHeld
      intro hHeld
      clear hKK KK
      try simp only [pP,pN,pS,pZ,pC]
      clear hH2
      generalize (((w43.setCell ⟨cu20,0,none⟩ (.bool (ng rb.num))).setCell ⟨cu20,1,none⟩ (.slice p20 (ln (am rb.num)) (ln (am rb.num)))).setCell ⟨cu20,2,none⟩ (.slice q20 (ln rb.den) (ln rb.den)))=w44 at bT k7 k9 s8 s10 kT u20 kz kB ky kq o20 hHeld ⊢
      refine wpAnyH_done (by kernel_rfl) ?_ _
      go_wp2_with fail
      go_meet
      exact ⟨_,cu20,p20,q20,rfl,rfl,hu20ge,u20,o20,bT⟩
     exact AllReadyH.nil
    refine consT rfl (fun KK hKK=>?_) ?_
    ·skip
     go_simp
     have u20:=Blk.new w0H #[.bool false,.slice none 0 0,.slice none 0 0] 27
     have bA:=below_alloc (w:=w0H) (.cells #[.bool false,.slice none 0 0,.slice none 0 0] 27)
     have hu20ge:=bT.size
     have hu20c0:=cell_ltB hHeld.1
     have hu20c1:=cell_ltB hHeld.2.1
     have hu20c2:=cell_ltB hHeld.2.2.1
     have hu20c3:=cell_ltB hHeld.2.2.2
     generalize w0H.alloc (.cells #[.bool false,.slice none 0 0,.slice none 0 0] 27)=w45 at u20 bA ⊢
     replace bT:=bT.trans (bA.mono bT.size)
     replace k7:=k7.later bA
     replace k9:=k9.later bA
     replace s8:=s8.later bA
     replace s10:=s10.later bA
     replace kT:=kT.later bA
     replace hHeld:=(⟨below_cell bA hHeld.1,below_cell bA hHeld.2.1,below_cell bA hHeld.2.2.1,below_cell bA hHeld.2.2.2⟩:_∧_∧_∧_)
     clear bA
     refine hKK.out _ _ hHeld ?_
     clear hHeld
     intro hHeld
     clear hKK KK
     try simp only [pP,pN,pS,pZ,pC]
     obtain ⟨cu20,hcc⟩:∃ cc,w0H.heap.size=cc:=⟨_,rfl⟩
     rw [hcc] at u20 hu20ge hu20c0 hu20c1 hu20c2 hu20c3
     try rw [hcc]
     clear hcc
     refine wpAnyH_ready (rs:=[2]) (by kernel_rfl) (by simp) ?_
     refine cons' rfl (fun KK hKK=>?_)
     go_simp
     refine (positive_is pT (ln TT) (ln TT) _).mono ?_
     rintro e w46 ⟨rfl,b1⟩
     have bC:=b1
     replace bT:=bT.trans (bC.mono bT.size)
     replace k7:=k7.later bC
     replace k9:=k9.later bC
     replace s8:=s8.later bC
     replace s10:=s10.later bC
     replace kT:=kT.later bC
     replace u20:=u20.later bC
     replace hHeld:=(⟨below_cell bC hHeld.1,below_cell bC hHeld.2.1,below_cell bC hHeld.2.2.1,below_cell bC hHeld.2.2.2⟩:_∧_∧_∧_)
     clear bC
     go_wp2_with fail
     clear b1
     refine hKK.out _ _ hHeld ?_
     clear hHeld
     intro hHeld
     clear hKK KK
     try simp only [pP,pN,pS,pZ,pC]
     refine wpAnyH_ready (rs:=[4]) (by kernel_rfl) (by simp) ?_
     refine cons' rfl (fun KK hKK=>?_)
     go_simp
     refine (GMu.out _ pT kT k9).mono ?_
     rintro e w47 ⟨pz,rfl,n1⟩
     have bC:=n1.below
     replace bT:=bT.trans (bC.mono bT.size)
     replace k7:=k7.later bC
     replace k9:=k9.later bC
     replace s8:=s8.later bC
     replace s10:=s10.later bC
     replace kT:=kT.later bC
     replace u20:=u20.later bC
     replace hHeld:=(⟨below_cell bC hHeld.1,below_cell bC hHeld.2.1,below_cell bC hHeld.2.2.1,below_cell bC hHeld.2.2.2⟩:_∧_∧_∧_)
     clear bC
     go_wp2_with fail
     have kz:=n1.seg
     clear n1
     refine hKK.out _ _ hHeld ?_
     clear hHeld
     intro hHeld
     clear hKK KK
     try simp only [pP,pN,pS,pZ,pC]
     refine wpAnyH_ready (rs:=[5]) (by kernel_rfl) (by simp) ?_
     refine cons' rfl (fun KK hKK=>?_)
     go_simp
     refine (GAd.out _ pz k7 kz).mono ?_
     rintro e w48 ⟨pB,rfl,n1⟩
     have bC:=n1.below
     replace bT:=bT.trans (bC.mono bT.size)
     replace k7:=k7.later bC
     replace k9:=k9.later bC
     replace s8:=s8.later bC
     replace s10:=s10.later bC
     replace kT:=kT.later bC
     replace u20:=u20.later bC
     replace kz:=kz.later bC
     replace hHeld:=(⟨below_cell bC hHeld.1,below_cell bC hHeld.2.1,below_cell bC hHeld.2.2.1,below_cell bC hHeld.2.2.2⟩:_∧_∧_∧_)
     clear bC
     go_wp2_with fail
     have kB:=n1.seg
     clear n1
     refine hKK.out _ _ hHeld ?_
     clear hHeld
     intro hHeld
     clear hKK KK
     try simp only [pP,pN,pS,pZ,pC]
     refine wpAnyH_ready (rs:=[9]) (by kernel_rfl) (by simp) ?_
     refine cons' rfl (fun KK hKK=>?_)
     go_simp
     refine (GM2.out _ pT kT s10).mono ?_
     rintro e w49 ⟨py,rfl,n1⟩
     have bC:=n1.below
     replace bT:=bT.trans (bC.mono bT.size)
     replace k7:=k7.later bC
     replace k9:=k9.later bC
     replace s8:=s8.later bC
     replace s10:=s10.later bC
     replace kT:=kT.later bC
     replace u20:=u20.later bC
     replace kz:=kz.later bC
     replace kB:=kB.later bC
     replace hHeld:=(⟨below_cell bC hHeld.1,below_cell bC hHeld.2.1,below_cell bC hHeld.2.2.1,below_cell bC hHeld.2.2.2⟩:_∧_∧_∧_)
     clear bC
     go_wp2_with fail
     have ky:=n1.seg
     clear n1
     refine hKK.out _ _ hHeld ?_
     clear hHeld
     intro hHeld
     clear hKK KK
     try simp only [pP,pN,pS,pZ,pC]
     refine wpAnyH_ready (rs:=[10]) (by kernel_rfl) (by simp) ?_
     refine cons' rfl (fun KK hKK=>?_)
     go_simp
     refine (GA2.out _ py s8 ky).mono ?_
     rintro e w50 ⟨qB,rfl,n1⟩
     have bC:=n1.below
     replace bT:=bT.trans (bC.mono bT.size)
     replace k7:=k7.later bC
     replace k9:=k9.later bC
     replace s8:=s8.later bC
     replace s10:=s10.later bC
     replace kT:=kT.later bC
     replace u20:=u20.later bC
     replace kz:=kz.later bC
     replace kB:=kB.later bC
     replace ky:=ky.later bC
     replace hHeld:=(⟨below_cell bC hHeld.1,below_cell bC hHeld.2.1,below_cell bC hHeld.2.2.1,below_cell bC hHeld.2.2.2⟩:_∧_∧_∧_)
     clear bC
     go_wp2_with fail
     have kq:=n1.seg
     clear n1
     refine hKK.out _ _ hHeld ?_
     clear hHeld
     intro hHeld
     clear hKK KK
     try simp only [pP,pN,pS,pZ,pC]
     refine tk 11 (v:=?_) rfl (Or.inl ⟨by rfl,?_⟩) ?_
     rotate_left
     ·intro w9 hSw
      go_simp
      first | done | with_reducible rfl
     simp only [pP,pN,pS,pZ,pC]
     refine wpAnyH_ready (rs:=[12]) (by kernel_rfl) (by simp) ?_
     refine cons' rfl (fun KK hKK=>?_)
     go_simp
     refine (GN2.out _ pB qB kB kq).mono ?_
     rintro e w51 ⟨p20,q20,rfl,b1,o20⟩
     have bC:=b1
     replace bT:=bT.trans (bC.mono bT.size)
     replace k7:=k7.later bC
     replace k9:=k9.later bC
     replace s8:=s8.later bC
     replace s10:=s10.later bC
     replace kT:=kT.later bC
     replace u20:=u20.later bC
     replace kz:=kz.later bC
     replace kB:=kB.later bC
     replace ky:=ky.later bC
     replace kq:=kq.later bC
     replace hHeld:=(⟨below_cell bC hHeld.1,below_cell bC hHeld.2.1,below_cell bC hHeld.2.2.1,below_cell bC hHeld.2.2.2⟩:_∧_∧_∧_)
     clear bC
     go_wp2_with fail
     clear b1
     refine hKK.out _ _ hHeld ?_
     clear hHeld
     intro hHeld
     clear hKK KK
     try simp only [pP,pN,pS,pZ,pC]
     refine wpAnyH_ready (rs:=[14]) (by kernel_rfl) (by simp) ?_
     refine cons' rfl (fun KK hKK=>?_)
     have z0:=u20.cell 0
     have z1:=u20.cell 1
     have z2:=u20.cell 2
     simp only [List.getElem?_toArray,List.getElem?_cons_zero,List.getElem?_cons_succ] at z0 z1 z2
     have fz:=fun o=>u20.frozen o
     obtain ⟨c9,q9⟩:=u20.set3 (.bool (ng rb.num)) (.slice p20 (ln (am rb.num)) (ln (am rb.num))) (.slice q20 (ln rb.den) (ln rb.den))
     have hno:=u20.no (by simp)
     replace k7:=k7.ch c9 hno
     replace k9:=k9.ch c9 hno
     replace s8:=s8.ch c9 hno
     replace s10:=s10.ch c9 hno
     replace kT:=kT.ch c9 hno
     replace kz:=kz.ch c9 hno
     replace kB:=kB.ch c9 hno
     replace ky:=ky.ch c9 hno
     replace kq:=kq.ch c9 hno
     replace o20:=o20.ch c9 hno
     replace bT:=bT.trans (c9.below (by omega))
     have hH2:=(⟨(World.cell?_of_block (w:=w51) (a:=⟨e7,0,none⟩) (c9.other (e7) (by omega))).trans hHeld.1,(World.cell?_of_block (w:=w51) (a:=⟨e7,1,none⟩) (c9.other (e7) (by omega))).trans hHeld.2.1,(World.cell?_of_block (w:=w51) (a:=⟨e9,0,none⟩) (c9.other (e9) (by omega))).trans hHeld.2.2.1,(World.cell?_of_block (w:=w51) (a:=⟨e9,1,none⟩) (c9.other (e9) (by omega))).trans hHeld.2.2.2⟩:_∧_∧_∧_)
     go_simp
     clear z0 z1 z2 fz hno c9
     replace u20:=q9
     refine hKK.out _ _ hH2 ?_
     clear hHeld
     intro hHeld
     clear hKK KK
     try simp only [pP,pN,pS,pZ,pC]
     clear hH2
     generalize (((w51.setCell ⟨cu20,0,none⟩ (.bool (ng rb.num))).setCell ⟨cu20,1,none⟩ (.slice p20 (ln (am rb.num)) (ln (am rb.num)))).setCell ⟨cu20,2,none⟩ (.slice q20 (ln rb.den) (ln rb.den)))=w52 at bT k7 k9 s8 s10 kT u20 kz kB ky kq o20 hHeld ⊢
     refine wpAnyH_done (by kernel_rfl) ?_ _
     go_wp2_with fail
     go_meet
     exact ⟨_,cu20,p20,q20,rfl,rfl,hu20ge,u20,o20,bT⟩
    exact AllReadyH.nil
   case rest =>
    obtain ⟨wc53,e20,p20,q20,hwv,rfl,g20,u20,o20,bT⟩:=hcut
    subst hwv
    replace u7:=u7.later bT
    replace u9:=u9.later bT
    replace k7:=k7.later bT
    replace k9:=k9.later bT
    replace s8:=s8.later bT
    replace s10:=s10.later bT
    replace qr:=qr.later bT
    replace qo:=qo.later bT
    replace hS:=hS.later bT
    replace kT:=kT.later bT
    replace u19:=u19.later bT
    replace oS:=oS.on bT
    replace oA:=oA.on bT
    replace bel:=bel.trans (bT.mono bel.size)
    clear bT
    clear GMu GAd GM2 GA2 GN2 hbs
    clear u7 u9 k7 k9 s8 s10 kT hS
    have GV:=hide' (fun w' (t:Bool) (ht:t=true↔ahd S rb ra) k1 k2 k3=>vnearer_is (nR S pS9 qS) (nR rb p20 q20) (nR ra p19 q19) w' k1 k2 k3 ⟨Nat.le_trans HZ.out.1 (by omega),Nat.le_trans HZ.out.2 (by omega),HG.out.2.2.2.1,HG.out.2.2.2.2,HG.out.2.2.1.1,HG.out.2.2.1.2⟩ (by rw [nR_val];exact HZ.out.mono (by omega)) (by rw [nR_val];exact HG.out.2.2.2.mono (by omega)) (by rw [nR_val];exact HG.out.2.2.1.mono (by omega)) t (by rw [nR_val,nR_val,nR_val];exact ht))
    have qr_0:=qr.cell 0
    have qr_1:=qr.cell 1
    have qr_2:=qr.cell 2
    have u20_0:=u20.cell 0
    have u20_1:=u20.cell 1
    have u20_2:=u20.cell 2
    have u19_0:=u19.cell 0
    have u19_1:=u19.cell 1
    have u19_2:=u19.cell 2
    simp only [List.getElem?_toArray,List.getElem?_cons_zero,List.getElem?_cons_succ] at qr_0 qr_1 qr_2 u20_0 u20_1 u20_2 u19_0 u19_1 u19_2
    go_wp2_with fail
    clear qr_0 qr_1 qr_2 u20_0 u20_1 u20_2 u19_0 u19_1 u19_2
    rcases Classical.em (ahd S rb ra) with hah | hah
    ·skip
     have HA:=hide' hah
     clear hah
     refine (GV.out _ true (by exact ⟨fun _=>HA.out,fun _=>rfl⟩) oS o20 oA).mono ?_
     rintro e w54 ⟨rfl,b1⟩
     have bb:=b1
     replace qr:=qr.later bb
     replace qo:=qo.later bb
     replace u19:=u19.later bb
     replace u20:=u20.later bb
     replace oS:=oS.on bb
     replace oA:=oA.on bb
     replace o20:=o20.on bb
     replace bel:=bel.trans (bb.mono bel.size)
     clear bb
     clear b1
     have u20_0:=u20.cell 0
     have u20_1:=u20.cell 1
     have u20_2:=u20.cell 2
     simp only [List.getElem?_toArray,List.getElem?_cons_zero,List.getElem?_cons_succ] at u20_0 u20_1 u20_2
     have qo_0:=qo.cell 0
     have qo_1:=qo.cell 1
     have qo_2:=qo.cell 2
     simp only [List.getElem?_toArray,List.getElem?_cons_zero,List.getElem?_cons_succ] at qo_0 qo_1 qo_2
     have fz:=fun o=>qo.frozen o
     go_wp2
     obtain ⟨c9,q9⟩:=qo.set3 (.bool (ng rb.num)) (.slice p20 (ln (am rb.num)) (ln (am rb.num))) (.slice q20 (ln rb.den) (ln rb.den))
     have hno:=qo.no (by simp)
     replace qr:=qr.ch c9 (by omega)
     replace u19:=u19.ch c9 (by omega)
     replace u20:=u20.ch c9 (by omega)
     replace oS:=oS.ch c9 hno
     replace oA:=oA.ch c9 hno
     replace o20:=o20.ch c9 hno
     replace bel:=bel.trans (c9.below (by omega))
     clear qo_0 qo_1 qo_2
     clear fz hno
     replace qo:=q9
     have qo_0:=qo.cell 0
     have qo_1:=qo.cell 1
     have qo_2:=qo.cell 2
     simp only [List.getElem?_toArray,List.getElem?_cons_zero,List.getElem?_cons_succ] at qo_0 qo_1 qo_2
     refine bodyPost_ret (v:=.tuple #[.agg #[.bool (ng rb.num),.slice p20 (ln (am rb.num)) (ln (am rb.num)),.slice q20 (ln rb.den) (ln rb.den)],.int .i64 0]) (by rw [results_ct rfl];go_simp) rfl ?_
     exact Or.inr ⟨h0,rb,p20,q20,HG.out.1 HA.out,HG.out.2.2.2,rfl,bel,o20⟩
    ·skip
     have HA:=hide' hah
     clear hah
     refine (GV.out _ false (by exact ⟨fun h=>Bool.noConfusion h,fun h=>absurd h HA.out⟩) oS o20 oA).mono ?_
     rintro e w55 ⟨rfl,b1⟩
     have bb:=b1
     replace qr:=qr.later bb
     replace qo:=qo.later bb
     replace u19:=u19.later bb
     replace u20:=u20.later bb
     replace oS:=oS.on bb
     replace oA:=oA.on bb
     replace o20:=o20.on bb
     replace bel:=bel.trans (bb.mono bel.size)
     clear bb
     clear b1
     have u19_0:=u19.cell 0
     have u19_1:=u19.cell 1
     have u19_2:=u19.cell 2
     simp only [List.getElem?_toArray,List.getElem?_cons_zero,List.getElem?_cons_succ] at u19_0 u19_1 u19_2
     have qo_0:=qo.cell 0
     have qo_1:=qo.cell 1
     have qo_2:=qo.cell 2
     simp only [List.getElem?_toArray,List.getElem?_cons_zero,List.getElem?_cons_succ] at qo_0 qo_1 qo_2
     have fz:=fun o=>qo.frozen o
     go_wp2
     obtain ⟨c9,q9⟩:=qo.set3 (.bool (ng ra.num)) (.slice p19 (ln (am ra.num)) (ln (am ra.num))) (.slice q19 (ln ra.den) (ln ra.den))
     have hno:=qo.no (by simp)
     replace qr:=qr.ch c9 (by omega)
     replace u19:=u19.ch c9 (by omega)
     replace u20:=u20.ch c9 (by omega)
     replace oS:=oS.ch c9 hno
     replace oA:=oA.ch c9 hno
     replace o20:=o20.ch c9 hno
     replace bel:=bel.trans (c9.below (by omega))
     clear qo_0 qo_1 qo_2
     clear fz hno
     replace qo:=q9
     have qo_0:=qo.cell 0
     have qo_1:=qo.cell 1
     have qo_2:=qo.cell 2
     simp only [List.getElem?_toArray,List.getElem?_cons_zero,List.getElem?_cons_succ] at qo_0 qo_1 qo_2
     refine bodyPost_ret (v:=.tuple #[.agg #[.bool (ng ra.num),.slice p19 (ln (am ra.num)) (ln (am ra.num)),.slice q19 (ln ra.den) (ln ra.den)],.int .i64 0]) (by rw [results_ct rfl];go_simp) rfl ?_
     exact Or.inr ⟨h0,ra,p19,q19,HG.out.2.1 HA.out,HG.out.2.2.1,rfl,bel,oA⟩
  ·skip
   obtain ⟨C2,hC2⟩:∃ C,cmpI Q2 M=C:=⟨_,rfl⟩
   have hC2n:¬ (0 < C2):=by
    rcases cmpI_tri Q2 M with ⟨_,h⟩ | ⟨_,h⟩ | ⟨h,_⟩ <;> omega
   rw [hC2] at GC
   clear hC2
   refine (GC.out _ pQ kQ hS).mono ?_
   rintro e w56 ⟨rfl,b1⟩
   have bb:=b1
   replace u7:=u7.later bb
   replace u9:=u9.later bb
   replace k7:=k7.later bb
   replace k9:=k9.later bb
   replace s8:=s8.later bb
   replace s10:=s10.later bb
   replace qr:=qr.later bb
   replace qo:=qo.later bb
   replace qL:=qL.later bb
   replace hSg:=hSg.later bb
   replace hS:=hS.later bb
   replace kx:=kx.later bb
   replace kQ:=kQ.later bb
   replace oS:=oS.on bb
   replace bel:=bel.trans (bb.mono bel.size)
   clear bb
   clear b1
   clear GC
   go_upto_region 13 with fail
   obtain ⟨ZP,hZP⟩:∃ Z,x*P1=Z:=⟨_,rfl⟩
   have lZP:ln (am ZP)≤3000000:=by rw [←hZP,am_mul];have:=ln_prod (ln_lt (am x)) (ln_lt (am P1));omega
   have GMI:=hide' (fun w' (k1:Seg w' (av k) (am x) (ln (am x))) (k2:Seg w' p9 (am P1) (ln (am P1)))=>vMul_is (ng x) (av k) (ln (am x)) (ln (am x)) (am x) (ng P1) p9 (ln (am P1)) (ln (am P1)) (am P1) ZP w' (by omega) k1 k2 (by rw [sg_na,sg_na];exact hZP))
   have lP0:ln (am P0)≤1048579:=by
    obtain ⟨hcv,_⟩:=HK.out
    exact lP0_of hL hDn hkl hk1 sS1 hcv
   have GAI:=hide' (fun w' p (k1:Seg w' p7 (am P0) (ln (am P0))) (k2:Seg w' p (am ZP) (ln (am ZP)))=>vAdd_is (ng P0) p7 (ln (am P0)) (ln (am P0)) (am P0) (ng ZP) p (ln (am ZP)) (ln (am ZP)) (am ZP) P2 w' (by omega) k1 (by omega) k2 (by rw [sg_na,sg_na,←hZP];obtain ⟨_,_,_,_,hP2⟩:=HK.out;rw [←hP2];grind))
   clear hZP
   have l7c:=u7.lt
   have l9c:=u9.lt
   have hbs:=bel.size
   have bT:Below w56.heap.size w56 w56:=Below.refl _ _
   go_cut [13] from 57 to 64 (fun s13_ wx=>∃ (wh9:World) (e13:Nat) (p13:Option Addr),wh9=wx∧s13_=.pointer (some ⟨e13,0,none⟩)∧w56.heap.size≤e13∧Blk wx e13 #[.bool (ng P2),.slice p13 (ln (am P2)) (ln (am P2))] 25∧Seg wx p13 (am P2) (ln (am P2))∧Below w56.heap.size w56 wx)
   case first =>
    have y0:=(qL.cell (k*2)).trans hc0
    have y1:=(qL.cell (k*2+1)).trans hc1
    have u7_0:=u7.cell 0
    have u7_1:=u7.cell 1
    simp only [List.getElem?_toArray,List.getElem?_cons_zero,List.getElem?_cons_succ] at u7_0 u7_1
    have u9_0:=u9.cell 0
    have u9_1:=u9.cell 1
    simp only [List.getElem?_toArray,List.getElem?_cons_zero,List.getElem?_cons_succ] at u9_0 u9_1
    clear u7 u9 s8 s10 qr qo qL hSg hS kQ oS
    have bD:Below w56.heap.size w56 w56.drew:=(Below.refl _ _).drew
    have ku7_0:=below_cell bD u7_0
    have ku7_1:=below_cell bD u7_1
    have ku9_0:=below_cell bD u9_0
    have ku9_1:=below_cell bD u9_1
    have ky0:=below_cell bD y0
    have ky1:=below_cell bD y1
    replace bT:=bT.trans (bD.mono bT.size)
    replace k7:=k7.later bD
    replace k9:=k9.later bD
    replace kx:=kx.later bD
    refine wp_region_held_drew (S:=fun w'=>w'.cell? ⟨e7,0,none⟩=some (.bool (ng P0))∧w'.cell? ⟨e7,1,none⟩=some (.slice p7 (ln (am P0)) (ln (am P0)))∧w'.cell? ⟨e9,0,none⟩=some (.bool (ng P1))∧w'.cell? ⟨e9,1,none⟩=some (.slice p9 (ln (am P1)) (ln (am P1)))∧w'.cell? ⟨g,k*2,none⟩=some (.bool (ng x))∧w'.cell? ⟨g,k*2+1,none⟩=some (.slice (av k) (ln (am x)) (ln (am x)))) (by kernel_rfl) ⟨ku7_0,ku7_1,ku9_0,ku9_1,ky0,ky1⟩ (fun hHeld=>?_)
    clear ku7_0 ku7_1 ku9_0 ku9_1 ky0 ky1
    generalize w56.drew=w0F at bD k7 k9 kx bT hHeld ⊢
    clear bD u7_0 u7_1 u9_0 u9_1 y0 y1
    refine tk 0 (v:=?_) rfl (Or.inl ⟨by rfl,?_⟩) ?_
    rotate_left
    ·intro w9 hSw
     go_simp
     first | done | with_reducible rfl
    simp only [pP,pN,pS,pZ,pC]
    refine tk 1 (v:=?_) rfl (Or.inl ⟨by rfl,?_⟩) ?_
    rotate_left
    ·intro w9 hSw
     go_simp
     first | done | with_reducible rfl
    simp only [pP,pN,pS,pZ,pC]
    refine tk 2 (v:=?_) rfl (Or.inl ⟨by rfl,?_⟩) ?_
    rotate_left
    ·intro w9 hSw
     go_simp
     first | done | with_reducible rfl
    simp only [pP,pN,pS,pZ,pC]
    refine tk 3 (v:=?_) rfl (Or.inl ⟨by rfl,?_⟩) ?_
    rotate_left
    ·intro w9 hSw
     go_simp
     first | done | with_reducible rfl
    simp only [pP,pN,pS,pZ,pC]
    refine tk 4 (v:=?_) rfl (Or.inl ⟨by rfl,?_⟩) ?_
    rotate_left
    ·intro w9 hSw
     go_simp
     first | done | with_reducible rfl
    simp only [pP,pN,pS,pZ,pC]
    refine tk 5 (v:=?_) rfl (Or.inl ⟨by rfl,?_⟩) ?_
    rotate_left
    ·intro w9 hSw
     go_simp
     first | done | with_reducible rfl
    simp only [pP,pN,pS,pZ,pC]
    refine wpAnyH_ready (rs:=[6,8]) (by kernel_rfl) (by simp) ?_
    refine consT rfl (fun KK hKK=>?_) ?_
    ·skip
     go_simp
     refine (GMI.out _ kx k9).mono ?_
     rintro e w57 ⟨pz,rfl,n1⟩
     have bC:=n1.below
     replace bT:=bT.trans (bC.mono bT.size)
     replace k7:=k7.later bC
     replace k9:=k9.later bC
     replace kx:=kx.later bC
     replace hHeld:=(⟨below_cell bC hHeld.1,below_cell bC hHeld.2.1,below_cell bC hHeld.2.2.1,below_cell bC hHeld.2.2.2.1,below_cell bC hHeld.2.2.2.2.1,below_cell bC hHeld.2.2.2.2.2⟩:_∧_∧_∧_∧_∧_)
     clear bC
     go_wp2_with fail
     have kz:=n1.seg
     clear n1
     refine hKK.out _ _ hHeld ?_
     clear hHeld
     intro hHeld
     clear hKK KK
     try simp only [pP,pN,pS,pZ,pC]
     refine wpAnyH_ready (rs:=[7,8]) (by kernel_rfl) (by simp) ?_
     refine consT rfl (fun KK hKK=>?_) ?_
     ·skip
      go_simp
      refine (GAI.out _ pz k7 kz).mono ?_
      rintro e w58 ⟨p13,rfl,n1⟩
      have bC:=n1.below
      replace bT:=bT.trans (bC.mono bT.size)
      replace k7:=k7.later bC
      replace k9:=k9.later bC
      replace kx:=kx.later bC
      replace kz:=kz.later bC
      replace hHeld:=(⟨below_cell bC hHeld.1,below_cell bC hHeld.2.1,below_cell bC hHeld.2.2.1,below_cell bC hHeld.2.2.2.1,below_cell bC hHeld.2.2.2.2.1,below_cell bC hHeld.2.2.2.2.2⟩:_∧_∧_∧_∧_∧_)
      clear bC
      go_wp2_with fail
      have k13:=n1.seg
      clear n1
      refine hKK.out _ _ hHeld ?_
      clear hHeld
      intro hHeld
      clear hKK KK
      try simp only [pP,pN,pS,pZ,pC]
      refine wpAnyH_ready (rs:=[8]) (by kernel_rfl) (by simp) ?_
      refine cons' rfl (fun KK hKK=>?_)
      go_simp
      have u13:=Blk.new w58 #[.bool false,.slice none 0 0] 25
      have bA:=below_alloc (w:=w58) (.cells #[.bool false,.slice none 0 0] 25)
      have hu13ge:=bT.size
      have hu13c0:=cell_ltB hHeld.1
      have hu13c1:=cell_ltB hHeld.2.1
      have hu13c2:=cell_ltB hHeld.2.2.1
      have hu13c3:=cell_ltB hHeld.2.2.2.1
      have hu13c4:=cell_ltB hHeld.2.2.2.2.1
      have hu13c5:=cell_ltB hHeld.2.2.2.2.2
      generalize w58.alloc (.cells #[.bool false,.slice none 0 0] 25)=w59 at u13 bA ⊢
      replace bT:=bT.trans (bA.mono bT.size)
      replace k7:=k7.later bA
      replace k9:=k9.later bA
      replace kx:=kx.later bA
      replace kz:=kz.later bA
      replace k13:=k13.later bA
      replace hHeld:=(⟨below_cell bA hHeld.1,below_cell bA hHeld.2.1,below_cell bA hHeld.2.2.1,below_cell bA hHeld.2.2.2.1,below_cell bA hHeld.2.2.2.2.1,below_cell bA hHeld.2.2.2.2.2⟩:_∧_∧_∧_∧_∧_)
      clear bA
      refine hKK.out _ _ hHeld ?_
      clear hHeld
      intro hHeld
      clear hKK KK
      try simp only [pP,pN,pS,pZ,pC]
      obtain ⟨cu13,hcc⟩:∃ cc,w58.heap.size=cc:=⟨_,rfl⟩
      rw [hcc] at u13 hu13ge hu13c0 hu13c1 hu13c2 hu13c3 hu13c4 hu13c5
      try rw [hcc]
      clear hcc
      refine wpAnyH_ready (rs:=[9]) (by kernel_rfl) (by simp) ?_
      refine cons' rfl (fun KK hKK=>?_)
      have z0:=u13.cell 0
      have z1:=u13.cell 1
      simp only [List.getElem?_toArray,List.getElem?_cons_zero,List.getElem?_cons_succ] at z0 z1
      have fz:=fun o=>u13.frozen o
      obtain ⟨c9,q9⟩:=u13.set2s (.bool (ng P2)) (.slice p13 (ln (am P2)) (ln (am P2)))
      have hno:=u13.no (by simp)
      replace k7:=k7.ch c9 hno
      replace k9:=k9.ch c9 hno
      replace kx:=kx.ch c9 hno
      replace kz:=kz.ch c9 hno
      replace k13:=k13.ch c9 hno
      replace bT:=bT.trans (c9.below (by omega))
      have hH2:=(⟨(World.cell?_of_block (w:=w59) (a:=⟨e7,0,none⟩) (c9.other (e7) (by omega))).trans hHeld.1,(World.cell?_of_block (w:=w59) (a:=⟨e7,1,none⟩) (c9.other (e7) (by omega))).trans hHeld.2.1,(World.cell?_of_block (w:=w59) (a:=⟨e9,0,none⟩) (c9.other (e9) (by omega))).trans hHeld.2.2.1,(World.cell?_of_block (w:=w59) (a:=⟨e9,1,none⟩) (c9.other (e9) (by omega))).trans hHeld.2.2.2.1,(World.cell?_of_block (w:=w59) (a:=⟨g,k*2,none⟩) (c9.other (g) (by omega))).trans hHeld.2.2.2.2.1,(World.cell?_of_block (w:=w59) (a:=⟨g,k*2+1,none⟩) (c9.other (g) (by omega))).trans hHeld.2.2.2.2.2⟩:_∧_∧_∧_∧_∧_)
      go_simp
      clear z0 z1 fz hno c9
      replace u13:=q9
      refine hKK.out _ _ hH2 ?_
      clear hHeld
      intro hHeld
      clear hKK KK
      try simp only [pP,pN,pS,pZ,pC]
      clear hH2
      generalize ((w59.setCell ⟨cu13,0,none⟩ (.bool (ng P2))).setCell ⟨cu13,1,none⟩ (.slice p13 (ln (am P2)) (ln (am P2))))=w60 at bT k7 k9 kx kz k13 u13 hHeld ⊢
      refine wpAnyH_done (by kernel_rfl) ?_ _
      go_wp2_with fail
      go_meet
      exact ⟨_,cu13,p13,rfl,rfl,hu13ge,u13,k13,bT⟩
     refine consT rfl (fun KK hKK=>?_) ?_
     ·skip
      go_simp
      have u13:=Blk.new w57 #[.bool false,.slice none 0 0] 25
      have bA:=below_alloc (w:=w57) (.cells #[.bool false,.slice none 0 0] 25)
      have hu13ge:=bT.size
      have hu13c0:=cell_ltB hHeld.1
      have hu13c1:=cell_ltB hHeld.2.1
      have hu13c2:=cell_ltB hHeld.2.2.1
      have hu13c3:=cell_ltB hHeld.2.2.2.1
      have hu13c4:=cell_ltB hHeld.2.2.2.2.1
      have hu13c5:=cell_ltB hHeld.2.2.2.2.2
      generalize w57.alloc (.cells #[.bool false,.slice none 0 0] 25)=w61 at u13 bA ⊢
      replace bT:=bT.trans (bA.mono bT.size)
      replace k7:=k7.later bA
      replace k9:=k9.later bA
      replace kx:=kx.later bA
      replace kz:=kz.later bA
      replace hHeld:=(⟨below_cell bA hHeld.1,below_cell bA hHeld.2.1,below_cell bA hHeld.2.2.1,below_cell bA hHeld.2.2.2.1,below_cell bA hHeld.2.2.2.2.1,below_cell bA hHeld.2.2.2.2.2⟩:_∧_∧_∧_∧_∧_)
      clear bA
      refine hKK.out _ _ hHeld ?_
      clear hHeld
      intro hHeld
      clear hKK KK
      try simp only [pP,pN,pS,pZ,pC]
      obtain ⟨cu13,hcc⟩:∃ cc,w57.heap.size=cc:=⟨_,rfl⟩
      rw [hcc] at u13 hu13ge hu13c0 hu13c1 hu13c2 hu13c3 hu13c4 hu13c5
      try rw [hcc]
      clear hcc
      refine wpAnyH_ready (rs:=[7]) (by kernel_rfl) (by simp) ?_
      refine cons' rfl (fun KK hKK=>?_)
      go_simp
      refine (GAI.out _ pz k7 kz).mono ?_
      rintro e w62 ⟨p13,rfl,n1⟩
      have bC:=n1.below
      replace bT:=bT.trans (bC.mono bT.size)
      replace k7:=k7.later bC
      replace k9:=k9.later bC
      replace kx:=kx.later bC
      replace kz:=kz.later bC
      replace u13:=u13.later bC
      replace hHeld:=(⟨below_cell bC hHeld.1,below_cell bC hHeld.2.1,below_cell bC hHeld.2.2.1,below_cell bC hHeld.2.2.2.1,below_cell bC hHeld.2.2.2.2.1,below_cell bC hHeld.2.2.2.2.2⟩:_∧_∧_∧_∧_∧_)
      clear bC
      go_wp2_with fail
      have k13:=n1.seg
      clear n1
      refine hKK.out _ _ hHeld ?_
      clear hHeld
      intro hHeld
      clear hKK KK
      try simp only [pP,pN,pS,pZ,pC]
      refine wpAnyH_ready (rs:=[9]) (by kernel_rfl) (by simp) ?_
      refine cons' rfl (fun KK hKK=>?_)
      have z0:=u13.cell 0
      have z1:=u13.cell 1
      simp only [List.getElem?_toArray,List.getElem?_cons_zero,List.getElem?_cons_succ] at z0 z1
      have fz:=fun o=>u13.frozen o
      obtain ⟨c9,q9⟩:=u13.set2s (.bool (ng P2)) (.slice p13 (ln (am P2)) (ln (am P2)))
      have hno:=u13.no (by simp)
      replace k7:=k7.ch c9 hno
      replace k9:=k9.ch c9 hno
      replace kx:=kx.ch c9 hno
      replace kz:=kz.ch c9 hno
      replace k13:=k13.ch c9 hno
      replace bT:=bT.trans (c9.below (by omega))
      have hH2:=(⟨(World.cell?_of_block (w:=w62) (a:=⟨e7,0,none⟩) (c9.other (e7) (by omega))).trans hHeld.1,(World.cell?_of_block (w:=w62) (a:=⟨e7,1,none⟩) (c9.other (e7) (by omega))).trans hHeld.2.1,(World.cell?_of_block (w:=w62) (a:=⟨e9,0,none⟩) (c9.other (e9) (by omega))).trans hHeld.2.2.1,(World.cell?_of_block (w:=w62) (a:=⟨e9,1,none⟩) (c9.other (e9) (by omega))).trans hHeld.2.2.2.1,(World.cell?_of_block (w:=w62) (a:=⟨g,k*2,none⟩) (c9.other (g) (by omega))).trans hHeld.2.2.2.2.1,(World.cell?_of_block (w:=w62) (a:=⟨g,k*2+1,none⟩) (c9.other (g) (by omega))).trans hHeld.2.2.2.2.2⟩:_∧_∧_∧_∧_∧_)
      go_simp
      clear z0 z1 fz hno c9
      replace u13:=q9
      refine hKK.out _ _ hH2 ?_
      clear hHeld
      intro hHeld
      clear hKK KK
      try simp only [pP,pN,pS,pZ,pC]
      clear hH2
      generalize ((w62.setCell ⟨cu13,0,none⟩ (.bool (ng P2))).setCell ⟨cu13,1,none⟩ (.slice p13 (ln (am P2)) (ln (am P2))))=w63 at bT k7 k9 kx kz u13 k13 hHeld ⊢
      refine wpAnyH_done (by kernel_rfl) ?_ _
      go_wp2_with fail
      go_meet
      exact ⟨_,cu13,p13,rfl,rfl,hu13ge,u13,k13,bT⟩
     exact AllReadyH.nil
    refine consT rfl (fun KK hKK=>?_) ?_
    ·skip
     go_simp
     have u13:=Blk.new w0F #[.bool false,.slice none 0 0] 25
     have bA:=below_alloc (w:=w0F) (.cells #[.bool false,.slice none 0 0] 25)
     have hu13ge:=bT.size
     have hu13c0:=cell_ltB hHeld.1
     have hu13c1:=cell_ltB hHeld.2.1
     have hu13c2:=cell_ltB hHeld.2.2.1
     have hu13c3:=cell_ltB hHeld.2.2.2.1
     have hu13c4:=cell_ltB hHeld.2.2.2.2.1
     have hu13c5:=cell_ltB hHeld.2.2.2.2.2
     generalize w0F.alloc (.cells #[.bool false,.slice none 0 0] 25)=w64 at u13 bA ⊢
     replace bT:=bT.trans (bA.mono bT.size)
     replace k7:=k7.later bA
     replace k9:=k9.later bA
     replace kx:=kx.later bA
     replace hHeld:=(⟨below_cell bA hHeld.1,below_cell bA hHeld.2.1,below_cell bA hHeld.2.2.1,below_cell bA hHeld.2.2.2.1,below_cell bA hHeld.2.2.2.2.1,below_cell bA hHeld.2.2.2.2.2⟩:_∧_∧_∧_∧_∧_)
     clear bA
     refine hKK.out _ _ hHeld ?_
     clear hHeld
     intro hHeld
     clear hKK KK
     try simp only [pP,pN,pS,pZ,pC]
     obtain ⟨cu13,hcc⟩:∃ cc,w0F.heap.size=cc:=⟨_,rfl⟩
     rw [hcc] at u13 hu13ge hu13c0 hu13c1 hu13c2 hu13c3 hu13c4 hu13c5
     try rw [hcc]
     clear hcc
     refine wpAnyH_ready (rs:=[6]) (by kernel_rfl) (by simp) ?_
     refine cons' rfl (fun KK hKK=>?_)
     go_simp
     refine (GMI.out _ kx k9).mono ?_
     rintro e w65 ⟨pz,rfl,n1⟩
     have bC:=n1.below
     replace bT:=bT.trans (bC.mono bT.size)
     replace k7:=k7.later bC
     replace k9:=k9.later bC
     replace kx:=kx.later bC
     replace u13:=u13.later bC
     replace hHeld:=(⟨below_cell bC hHeld.1,below_cell bC hHeld.2.1,below_cell bC hHeld.2.2.1,below_cell bC hHeld.2.2.2.1,below_cell bC hHeld.2.2.2.2.1,below_cell bC hHeld.2.2.2.2.2⟩:_∧_∧_∧_∧_∧_)
     clear bC
     go_wp2_with fail
     have kz:=n1.seg
     clear n1
     refine hKK.out _ _ hHeld ?_
     clear hHeld
     intro hHeld
     clear hKK KK
     try simp only [pP,pN,pS,pZ,pC]
     refine wpAnyH_ready (rs:=[7]) (by kernel_rfl) (by simp) ?_
     refine cons' rfl (fun KK hKK=>?_)
     go_simp
     refine (GAI.out _ pz k7 kz).mono ?_
     rintro e w66 ⟨p13,rfl,n1⟩
     have bC:=n1.below
     replace bT:=bT.trans (bC.mono bT.size)
     replace k7:=k7.later bC
     replace k9:=k9.later bC
     replace kx:=kx.later bC
     replace u13:=u13.later bC
     replace kz:=kz.later bC
     replace hHeld:=(⟨below_cell bC hHeld.1,below_cell bC hHeld.2.1,below_cell bC hHeld.2.2.1,below_cell bC hHeld.2.2.2.1,below_cell bC hHeld.2.2.2.2.1,below_cell bC hHeld.2.2.2.2.2⟩:_∧_∧_∧_∧_∧_)
     clear bC
     go_wp2_with fail
     have k13:=n1.seg
     clear n1
     refine hKK.out _ _ hHeld ?_
     clear hHeld
     intro hHeld
     clear hKK KK
     try simp only [pP,pN,pS,pZ,pC]
     refine wpAnyH_ready (rs:=[9]) (by kernel_rfl) (by simp) ?_
     refine cons' rfl (fun KK hKK=>?_)
     have z0:=u13.cell 0
     have z1:=u13.cell 1
     simp only [List.getElem?_toArray,List.getElem?_cons_zero,List.getElem?_cons_succ] at z0 z1
     have fz:=fun o=>u13.frozen o
     obtain ⟨c9,q9⟩:=u13.set2s (.bool (ng P2)) (.slice p13 (ln (am P2)) (ln (am P2)))
     have hno:=u13.no (by simp)
     replace k7:=k7.ch c9 hno
     replace k9:=k9.ch c9 hno
     replace kx:=kx.ch c9 hno
     replace kz:=kz.ch c9 hno
     replace k13:=k13.ch c9 hno
     replace bT:=bT.trans (c9.below (by omega))
     have hH2:=(⟨(World.cell?_of_block (w:=w66) (a:=⟨e7,0,none⟩) (c9.other (e7) (by omega))).trans hHeld.1,(World.cell?_of_block (w:=w66) (a:=⟨e7,1,none⟩) (c9.other (e7) (by omega))).trans hHeld.2.1,(World.cell?_of_block (w:=w66) (a:=⟨e9,0,none⟩) (c9.other (e9) (by omega))).trans hHeld.2.2.1,(World.cell?_of_block (w:=w66) (a:=⟨e9,1,none⟩) (c9.other (e9) (by omega))).trans hHeld.2.2.2.1,(World.cell?_of_block (w:=w66) (a:=⟨g,k*2,none⟩) (c9.other (g) (by omega))).trans hHeld.2.2.2.2.1,(World.cell?_of_block (w:=w66) (a:=⟨g,k*2+1,none⟩) (c9.other (g) (by omega))).trans hHeld.2.2.2.2.2⟩:_∧_∧_∧_∧_∧_)
     go_simp
     clear z0 z1 fz hno c9
     replace u13:=q9
     refine hKK.out _ _ hH2 ?_
     clear hHeld
     intro hHeld
     clear hKK KK
     try simp only [pP,pN,pS,pZ,pC]
     clear hH2
     generalize ((w66.setCell ⟨cu13,0,none⟩ (.bool (ng P2))).setCell ⟨cu13,1,none⟩ (.slice p13 (ln (am P2)) (ln (am P2))))=w67 at bT k7 k9 kx u13 kz k13 hHeld ⊢
     refine wpAnyH_done (by kernel_rfl) ?_ _
     go_wp2_with fail
     go_meet
     exact ⟨_,cu13,p13,rfl,rfl,hu13ge,u13,k13,bT⟩
    exact AllReadyH.nil
   case rest =>
    obtain ⟨wc68,e13,p13,hwv,rfl,g13,u13,k13,bT⟩:=hcut
    subst hwv
    replace u7:=u7.later bT
    replace u9:=u9.later bT
    replace k7:=k7.later bT
    replace k9:=k9.later bT
    replace s8:=s8.later bT
    replace s10:=s10.later bT
    replace qr:=qr.later bT
    replace qo:=qo.later bT
    replace qL:=qL.later bT
    replace hSg:=hSg.later bT
    replace hS:=hS.later bT
    replace kx:=kx.later bT
    replace kQ:=kQ.later bT
    replace oS:=oS.on bT
    replace bel:=bel.trans (bT.mono bel.size)
    clear bT
    clear GMI GAI hbs
    have l97:=u9.lt
    have l77:=u7.lt
    have l37:=u13.lt
    go_upto_region 14 with fail
    have u13_0:=u13.cell 0
    have u13_1:=u13.cell 1
    simp only [List.getElem?_toArray,List.getElem?_cons_zero,List.getElem?_cons_succ] at u13_0 u13_1
    have bD:Below wc68.heap.size wc68 wc68.drew:=(Below.refl _ _).drew
    have ku13_0:=below_cell bD u13_0
    have ku13_1:=below_cell bD u13_1
    replace oS:=oS.on bD
    replace bel:=bel.trans (bD.mono bel.size)
    replace u7:=u7.later bD
    replace u9:=u9.later bD
    replace k7:=k7.later bD
    replace k9:=k9.later bD
    replace s8:=s8.later bD
    replace s10:=s10.later bD
    replace qr:=qr.later bD
    replace qo:=qo.later bD
    replace qL:=qL.later bD
    replace hSg:=hSg.later bD
    replace hS:=hS.later bD
    replace kx:=kx.later bD
    replace kQ:=kQ.later bD
    replace k13:=k13.later bD
    replace u13:=u13.later bD
    refine wp_region_held_drew (S:=fun w'=>w'.cell? ⟨e13,0,none⟩=some (.bool (ng P2))∧w'.cell? ⟨e13,1,none⟩=some (.slice p13 (ln (am P2)) (ln (am P2)))) (by kernel_rfl) ⟨ku13_0,ku13_1⟩ (fun hHeld=>?_)
    clear ku13_0 ku13_1
    generalize wc68.drew=w0G at bD oS u7 u9 k7 k9 s8 s10 qr qo qL hSg hS kx kQ k13 u13 bel hHeld ⊢
    clear bD u13_0 u13_1
    refine tk 1 (v:=?_) rfl (Or.inl ⟨by rfl,?_⟩) ?_
    rotate_left
    ·intro w9 hSw
     go_simp
     first | done | with_reducible rfl
    simp only [pP,pN,pS,pZ,pC]
    refine tk 2 (v:=?_) rfl (Or.inl ⟨by rfl,?_⟩) ?_
    rotate_left
    ·intro w9 hSw
     go_simp
     first | done | with_reducible rfl
    simp only [pP,pN,pS,pZ,pC]
    refine tk 3 (v:=?_) rfl (Or.inl ⟨by rfl,?_⟩) ?_
    rotate_left
    ·intro w9 hSw
     go_simp
     first | done | with_reducible rfl
    simp only [pP,pN,pS,pZ,pC]
    refine wpAnyH_ready (rs:=[0]) (by kernel_rfl) (by simp) ?_
    refine cons' rfl (fun KK hKK=>?_)
    have z0:=u9.cell 0
    have z1:=u9.cell 1
    simp only [List.getElem?_toArray,List.getElem?_cons_zero,List.getElem?_cons_succ] at z0 z1
    go_simp
    clear z0 z1
    refine hKK.out _ _ hHeld ?_
    clear hHeld
    intro hHeld
    clear hKK KK
    try simp only [pP,pN,pS,pZ,pC]
    refine wpAnyH_ready (rs:=[4]) (by kernel_rfl) (by simp) ?_
    refine cons' rfl (fun KK hKK=>?_)
    have z0:=u7.cell 0
    have z1:=u7.cell 1
    simp only [List.getElem?_toArray,List.getElem?_cons_zero,List.getElem?_cons_succ] at z0 z1
    have fz:=fun o=>u7.frozen o
    obtain ⟨c9,q9⟩:=u7.set2s (.bool (ng P1)) (.slice p9 (ln (am P1)) (ln (am P1)))
    have hno:=u7.no (by simp)
    replace u9:=u9.ch c9 (by omega)
    replace k7:=k7.ch c9 hno
    replace k9:=k9.ch c9 hno
    replace s8:=s8.ch c9 hno
    replace s10:=s10.ch c9 hno
    replace qr:=qr.ch c9 (by omega)
    replace qo:=qo.ch c9 (by omega)
    replace qL:=qL.ch c9 (by omega)
    replace hSg:=hSg.ch c9 hno
    replace hS:=hS.ch c9 hno
    replace kx:=kx.ch c9 hno
    replace kQ:=kQ.ch c9 hno
    replace k13:=k13.ch c9 hno
    replace u13:=u13.ch c9 (by omega)
    replace oS:=oS.ch c9 hno
    replace bel:=bel.trans (c9.below (by omega))
    have hH2:=(⟨(World.cell?_of_block (w:=w0G) (a:=⟨e13,0,none⟩) (c9.other (e13) (by omega))).trans hHeld.1,(World.cell?_of_block (w:=w0G) (a:=⟨e13,1,none⟩) (c9.other (e13) (by omega))).trans hHeld.2⟩:_∧_)
    go_simp
    clear z0 z1 fz hno c9
    replace u7:=q9
    refine hKK.out _ _ hH2 ?_
    clear hHeld
    intro hHeld
    clear hKK KK
    try simp only [pP,pN,pS,pZ,pC]
    clear hH2
    generalize ((w0G.setCell ⟨e7,0,none⟩ (.bool (ng P1))).setCell ⟨e7,1,none⟩ (.slice p9 (ln (am P1)) (ln (am P1))))=w69 at bel u7 u9 k7 k9 s8 s10 qr qo qL hSg hS kx kQ k13 u13 oS hHeld ⊢
    refine tk 5 (v:=?_) rfl (Or.inl ⟨by rfl,?_⟩) ?_
    rotate_left
    ·intro w9 hSw
     go_simp
     first | done | with_reducible rfl
    simp only [pP,pN,pS,pZ,pC]
    refine wpAnyH_ready (rs:=[6]) (by kernel_rfl) (by simp) ?_
    refine cons' rfl (fun KK hKK=>?_)
    have z0:=u9.cell 0
    have z1:=u9.cell 1
    simp only [List.getElem?_toArray,List.getElem?_cons_zero,List.getElem?_cons_succ] at z0 z1
    have fz:=fun o=>u9.frozen o
    obtain ⟨c9,q9⟩:=u9.set2s (.bool (ng P2)) (.slice p13 (ln (am P2)) (ln (am P2)))
    have hno:=u9.no (by simp)
    replace u7:=u7.ch c9 (by omega)
    replace k7:=k7.ch c9 hno
    replace k9:=k9.ch c9 hno
    replace s8:=s8.ch c9 hno
    replace s10:=s10.ch c9 hno
    replace qr:=qr.ch c9 (by omega)
    replace qo:=qo.ch c9 (by omega)
    replace qL:=qL.ch c9 (by omega)
    replace hSg:=hSg.ch c9 hno
    replace hS:=hS.ch c9 hno
    replace kx:=kx.ch c9 hno
    replace kQ:=kQ.ch c9 hno
    replace k13:=k13.ch c9 hno
    replace u13:=u13.ch c9 (by omega)
    replace oS:=oS.ch c9 hno
    replace bel:=bel.trans (c9.below (by omega))
    have hH2:=(⟨(World.cell?_of_block (w:=w69) (a:=⟨e13,0,none⟩) (c9.other (e13) (by omega))).trans hHeld.1,(World.cell?_of_block (w:=w69) (a:=⟨e13,1,none⟩) (c9.other (e13) (by omega))).trans hHeld.2⟩:_∧_)
    go_simp
    clear z0 z1 fz hno c9
    replace u9:=q9
    refine hKK.out _ _ hH2 ?_
    clear hHeld
    intro hHeld
    clear hKK KK
    try simp only [pP,pN,pS,pZ,pC]
    clear hH2
    generalize ((w69.setCell ⟨e9,0,none⟩ (.bool (ng P2))).setCell ⟨e9,1,none⟩ (.slice p13 (ln (am P2)) (ln (am P2))))=w70 at bel u7 u9 k7 k9 s8 s10 qr qo qL hSg hS kx kQ k13 u13 oS hHeld ⊢
    refine tk 7 (v:=?_) rfl (Or.inl ⟨by rfl,?_⟩) ?_
    rotate_left
    ·intro w9 hSw
     go_simp
     first | done | with_reducible rfl
    simp only [pP,pN,pS,pZ,pC]
    refine wpAnyH_done (by kernel_rfl) ?_ _
    go_wp2
    obtain ⟨hcv,hcv2,hin,eQ2,hP2⟩:=HK.out
    go_roundg (L.length - (k+1))
    case measure=>omega
    case rel =>
     exact ⟨k+1,P1,P2,Q1,Q2,a10,n10,c10,pQ,ln Q2,ln Q2,p9,p13,rfl,rfl,by go_num,u7,u9,k9,k13,s10,kQ,qr,qo,qL,hSg,hS,oS,bel,⟨z10,lQ2,by omega,rfl,by omega⟩,hcv2,hQ1,by omega⟩
theorem vBest_is (A:RatV) (a:Option Addr) (n c M:Nat) (w:World) (hA:A.ok w) (hn:A.n≤1048576∧A.m≤1048576) (hm:n≤1048576) (hS:Seg w a M n):Calls Tryz.prog 19 #[.agg #[.bool A.s,.slice A.a A.n A.c,.slice A.b A.m A.e],.slice a n c] w (BestA w A.val M):=by
 by_cases h0:M=0
 ·exact vBest_zero A a n c M w hA hn hm hS h0
 ·rcases Nat.lt_or_ge M A.val.den with h1 | h1
  ·exact vBest_loop A a n c M w hA hn hm hS h0 h1
  ·exact vBest_self A a n c M w hA hn hm hS h0 h1
end Go.Proofs.YtejlnodillnoaaaGreatDoor
