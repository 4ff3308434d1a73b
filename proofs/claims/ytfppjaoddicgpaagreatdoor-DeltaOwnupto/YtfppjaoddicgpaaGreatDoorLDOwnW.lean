import Derived.Test.YtfppjaoddicgpaaGreatDoorOWN
import Derived.Test.YtfppjaoddicgpaaGreatDoorWV8
import Derived.Test.YtfppjaoddicgpaaGreatDoorRegS
set_option linter.unusedSimpArgs false
namespace Go.Proofs.YtfppjaoddicgpaaGreatDoor.deltaOwn
open Go.ChangeShapes Go.WideShapes Go.ChangeAt Go.RowKit Go.Proofs.YtfppjaoddicgpaaGreatDoor
set_option linter.unusedVariables false
theorem _root_.Go.Proofs.YtfppjaoddicgpaaGreatDoor.SM.app {W:World} {xs ys:List (Option Addr × Nat × Nat)} (h:SM W xs) (k:SM W ys):SM W (xs ++ ys):=fun x hx=>by
 rcases List.mem_append.1 hx with c | c
 ·exact h x c
 ·exact k x c
theorem sm_left {W:World} {xs ys:List (Option Addr × Nat × Nat)} (h:SM W (xs ++ ys)):SM W xs:=fun x hx=>h x (List.mem_append_left _ hx)
theorem sm_right {W:World} {xs ys:List (Option Addr × Nat × Nat)} (h:SM W (xs ++ ys)):SM W ys:=fun x hx=>h x (List.mem_append_right _ hx)
set_option maxHeartbeats 8000000 in
set_option maxRecDepth 100000 in
theorem walk (s0:Bool) (a0:Option Addr) (n0 c0 X0:Nat) (b0:Option Addr) (m0 d0 Y0:Nat) (s1:Bool) (a1:Option Addr) (n1 c1 X1:Nat) (b1:Option Addr) (m1 d1 Y1:Nat) (s2:Bool) (a2:Option Addr) (n2 c2 X2:Nat) (b2:Option Addr) (m2 d2 Y2:Nat) (s3:Bool) (a3:Option Addr) (n3 c3 X3:Nat) (b3:Option Addr) (m3 d3 Y3:Nat) (s4:Bool) (a4:Option Addr) (n4 c4 X4:Nat) (b4:Option Addr) (m4 d4 Y4:Nat) (w:World) (hc0:n0≤c0) (hm0:n0≤1048576) (hS0:Seg w a0 X0 n0) (hd0:m0≤d0) (hk0:m0≤1048576) (hT0:Seg w b0 Y0 m0) (hc1:n1≤c1) (hm1:n1≤1048576) (hS1:Seg w a1 X1 n1) (hd1:m1≤d1) (hk1:m1≤1048576) (hT1:Seg w b1 Y1 m1) (hc2:n2≤c2) (hm2:n2≤1048576) (hS2:Seg w a2 X2 n2) (hd2:m2≤d2) (hk2:m2≤1048576) (hT2:Seg w b2 Y2 m2) (hc3:n3≤c3) (hm3:n3≤1048576) (hS3:Seg w a3 X3 n3) (hd3:m3≤d3) (hk3:m3≤1048576) (hT3:Seg w b3 Y3 m3) (hc4:n4≤c4) (hm4:n4≤1048576) (hS4:Seg w a4 X4 n4) (hd4:m4≤d4) (hk4:m4≤1048576) (hT4:Seg w b4 Y4 m4) (hDg:Digits w) :
  Calls Tryz.prog 3 #[Value.agg #[Value.bool s0,Value.slice a0 n0 c0,Value.slice b0 m0 d0,Value.bool s1,Value.slice a1 n1 c1,Value.slice b1 m1 d1],Value.agg #[Value.bool s2,Value.slice a2 n2 c2,Value.slice b2 m2 d2,Value.bool s3,Value.slice a3 n3 c3,Value.slice b3 m3 d3],Value.agg #[Value.bool s4,Value.slice a4 n4 c4,Value.slice b4 m4 d4]] w fun e w'=>e=.returned (.bool true)∧Below w.heap.size w w':=by
 obtain ⟨N,hsm,HW,HA⟩:=own_nums s0 a0 n0 c0 X0 b0 m0 d0 Y0 s1 a1 n1 c1 X1 b1 m1 d1 Y1 s2 a2 n2 c2 X2 b2 m2 d2 Y2 s3 a3 n3 c3 X3 b3 m3 d3 Y3 s4 a4 n4 c4 X4 b4 m4 d4 Y4 w hc0 hm0 hS0 hd0 hk0 hT0 hc1 hm1 hS1 hd1 hk1 hT1 hc2 hm2 hS2 hd2 hk2 hT2 hc3 hm3 hS3 hd3 hk3 hT3 hc4 hm4 hS4 hd4 hk4 hT4
 have HSM:=hide' hsm
 have GW:=hide' HW
 have GA:=hide' HA
 clear hsm HW HA
 have GT0:=hide' (fun w' (h:SM w' [(a0,X0,n0),(b0,Y0,m0),(a1,X1,n1),(b1,Y1,m1),(a2,X2,n2),(b2,Y2,m2),(a3,X3,n3),(b3,Y3,m3),(a4,X4,n4),(b4,Y4,m4)])=>twin_sm s0 a0 n0 c0 X0 b0 m0 d0 Y0 s1 a1 n1 c1 X1 b1 m1 d1 Y1 w' hc0 hm0 (h.head) hd0 hk0 (h.tail.head) hc1 hm1 (h.tail.tail.head) hd1 hk1 (h.tail.tail.tail.head))
 have GT1:=hide' (fun w' (h:SM w' [(a0,X0,n0),(b0,Y0,m0),(a1,X1,n1),(b1,Y1,m1),(a2,X2,n2),(b2,Y2,m2),(a3,X3,n3),(b3,Y3,m3),(a4,X4,n4),(b4,Y4,m4)])=>twin_sn s2 a2 n2 c2 X2 b2 m2 d2 Y2 s3 a3 n3 c3 X3 b3 m3 d3 Y3 w' hc2 hm2 (h.tail.tail.tail.tail.head) hd2 hk2 (h.tail.tail.tail.tail.tail.head) hc3 hm3 (h.tail.tail.tail.tail.tail.tail.head) hd3 hk3 (h.tail.tail.tail.tail.tail.tail.tail.head))
 have GT2:=hide' (fun w' (h:SM w' [(a0,X0,n0),(b0,Y0,m0),(a1,X1,n1),(b1,Y1,m1),(a2,X2,n2),(b2,Y2,m2),(a3,X3,n3),(b3,Y3,m3),(a4,X4,n4),(b4,Y4,m4)])=>rat_sm s4 a4 n4 c4 X4 b4 m4 d4 Y4 w' hc4 hm4 (h.tail.tail.tail.tail.tail.tail.tail.tail.head) hd4 hk4 (h.tail.tail.tail.tail.tail.tail.tail.tail.tail.head))
 have hI:SM w [(a0,X0,n0),(b0,Y0,m0),(a1,X1,n1),(b1,Y1,m1),(a2,X2,n2),(b2,Y2,m2),(a3,X3,n3),(b3,Y3,m3),(a4,X4,n4),(b4,Y4,m4)]:=SM.cons hS0 (SM.cons hT0 (SM.cons hS1 (SM.cons hT1 (SM.cons hS2 (SM.cons hT2 (SM.cons hS3 (SM.cons hT3 (SM.cons hS4 (SM.cons hT4 (SM.nil _))))))))))
 have GD:=hide' hDg
 clear hDg hS0 hT0 hS1 hT1 hS2 hT2 hS3 hT3 hS4 hT4
 have bel:Below w.heap.size w w:=Below.refl _ _
 have bb:=below_alloc (w:=w) (.cells #[.bool s0,.slice a0 n0 c0,.slice b0 m0 d0,.bool s1,.slice a1 n1 c1,.slice b1 m1 d1] 29)
 replace hI:=hI.later bb
 replace GD:=hide' (GD.out.below bb)
 replace bel:=bel.trans (bb.mono bel.size)
 clear bb
 have qa:=Blk.new w #[.bool s0,.slice a0 n0 c0,.slice b0 m0 d0,.bool s1,.slice a1 n1 c1,.slice b1 m1 d1] 29
 have bb:=below_alloc (w:=(w.alloc (.cells #[.bool s0,.slice a0 n0 c0,.slice b0 m0 d0,.bool s1,.slice a1 n1 c1,.slice b1 m1 d1] 29))) (.cells #[.bool s2,.slice a2 n2 c2,.slice b2 m2 d2,.bool s3,.slice a3 n3 c3,.slice b3 m3 d3] 29)
 replace hI:=hI.later bb
 replace qa:=qa.later bb
 replace GD:=hide' (GD.out.below bb)
 replace bel:=bel.trans (bb.mono bel.size)
 clear bb
 have qb:=Blk.new (w.alloc (.cells #[.bool s0,.slice a0 n0 c0,.slice b0 m0 d0,.bool s1,.slice a1 n1 c1,.slice b1 m1 d1] 29)) #[.bool s2,.slice a2 n2 c2,.slice b2 m2 d2,.bool s3,.slice a3 n3 c3,.slice b3 m3 d3] 29
 simp only [World.size_alloc] at qb
 have bb:=below_alloc (w:=((w.alloc (.cells #[.bool s0,.slice a0 n0 c0,.slice b0 m0 d0,.bool s1,.slice a1 n1 c1,.slice b1 m1 d1] 29)).alloc (.cells #[.bool s2,.slice a2 n2 c2,.slice b2 m2 d2,.bool s3,.slice a3 n3 c3,.slice b3 m3 d3] 29))) (.cells #[.bool s4,.slice a4 n4 c4,.slice b4 m4 d4] 27)
 replace hI:=hI.later bb
 replace qa:=qa.later bb
 replace qb:=qb.later bb
 replace GD:=hide' (GD.out.below bb)
 replace bel:=bel.trans (bb.mono bel.size)
 clear bb
 have qc:=Blk.new ((w.alloc (.cells #[.bool s0,.slice a0 n0 c0,.slice b0 m0 d0,.bool s1,.slice a1 n1 c1,.slice b1 m1 d1] 29)).alloc (.cells #[.bool s2,.slice a2 n2 c2,.slice b2 m2 d2,.bool s3,.slice a3 n3 c3,.slice b3 m3 d3] 29)) #[.bool s4,.slice a4 n4 c4,.slice b4 m4 d4] 27
 simp only [World.size_alloc] at qc
 go_enter Tryz.func3,Tryz.ntmps3
 go_wp2_with fail
 obtain ⟨W0,hW⟩:∃ W,(((w.alloc (.cells #[.bool s0,.slice a0 n0 c0,.slice b0 m0 d0,.bool s1,.slice a1 n1 c1,.slice b1 m1 d1] 29)).alloc (.cells #[.bool s2,.slice a2 n2 c2,.slice b2 m2 d2,.bool s3,.slice a3 n3 c3,.slice b3 m3 d3] 29)).alloc (.cells #[.bool s4,.slice a4 n4 c4,.slice b4 m4 d4] 27))=W:=⟨_,rfl⟩
 rw [hW] at bel hI qa qb qc GD ⊢
 clear hW
 have hbs:=bel.size
 have bT:Below W0.heap.size W0 W0:=Below.refl _ _
 go_cut [7,8,9] from 15 to 20 (fun s7_ s8_ s9_ wx=>∃ wh9 cx cy cz p0 q0 r0 t0 p1 q1 r1 t1 p2 q2,wh9=wx∧s7_=.pointer (some ⟨cx,0,none⟩)∧s8_=.pointer (some ⟨cy,0,none⟩)∧s9_=.pointer (some ⟨cz,0,none⟩)∧Blk wx cx #[.bool s0,.slice p0 n0 n0,.slice q0 m0 m0,.bool s1,.slice r0 n1 n1,.slice t0 m1 m1] 29∧Blk wx cy #[.bool s2,.slice p1 n2 n2,.slice q1 m2 m2,.bool s3,.slice r1 n3 n3,.slice t1 m3 m3] 29∧Blk wx cz #[.bool s4,.slice p2 n4 n4,.slice q2 m4 m4] 27∧SM wx [(p0,X0,n0),(q0,Y0,m0),(r0,X1,n1),(t0,Y1,m1),(p1,X2,n2),(q1,Y2,m2),(r1,X3,n3),(t1,Y3,m3),(p2,X4,n4),(q2,Y4,m4)]∧Below W0.heap.size W0 wx)
 case first =>
  have lqa:=qa.lt
  have lqb:=qb.lt
  have lqc:=qc.lt
  clear GD GW GA HSM bel hbs
  have qa_0:=qa.cell 0
  have qa_1:=qa.cell 1
  have qa_2:=qa.cell 2
  have qa_3:=qa.cell 3
  have qa_4:=qa.cell 4
  have qa_5:=qa.cell 5
  have qb_0:=qb.cell 0
  have qb_1:=qb.cell 1
  have qb_2:=qb.cell 2
  have qb_3:=qb.cell 3
  have qb_4:=qb.cell 4
  have qb_5:=qb.cell 5
  have qc_0:=qc.cell 0
  have qc_1:=qc.cell 1
  have qc_2:=qc.cell 2
  simp only [List.getElem?_toArray,List.getElem?_cons_zero,List.getElem?_cons_succ] at qa_0 qa_1 qa_2 qa_3 qa_4 qa_5 qb_0 qb_1 qb_2 qb_3 qb_4 qb_5 qc_0 qc_1 qc_2
  have bD:Below W0.heap.size W0 W0.drew:=(Below.refl _ _).drew
  have kqa_0:=below_cell bD qa_0
  have kqa_1:=below_cell bD qa_1
  have kqa_2:=below_cell bD qa_2
  have kqa_3:=below_cell bD qa_3
  have kqa_4:=below_cell bD qa_4
  have kqa_5:=below_cell bD qa_5
  have kqb_0:=below_cell bD qb_0
  have kqb_1:=below_cell bD qb_1
  have kqb_2:=below_cell bD qb_2
  have kqb_3:=below_cell bD qb_3
  have kqb_4:=below_cell bD qb_4
  have kqb_5:=below_cell bD qb_5
  have kqc_0:=below_cell bD qc_0
  have kqc_1:=below_cell bD qc_1
  have kqc_2:=below_cell bD qc_2
  replace bT:=bT.trans (bD.mono bT.size)
  replace hI:=hI.later bD
  replace qa:=qa.later bD
  replace qb:=qb.later bD
  replace qc:=qc.later bD
  refine wp_region_held_drew (S:=fun w'=>w'.cell? ⟨w.heap.size,0,none⟩=some (.bool s0)∧w'.cell? ⟨w.heap.size,1,none⟩=some (.slice a0 n0 c0)∧w'.cell? ⟨w.heap.size,2,none⟩=some (.slice b0 m0 d0)∧w'.cell? ⟨w.heap.size,3,none⟩=some (.bool s1)∧w'.cell? ⟨w.heap.size,4,none⟩=some (.slice a1 n1 c1)∧w'.cell? ⟨w.heap.size,5,none⟩=some (.slice b1 m1 d1)∧w'.cell? ⟨w.heap.size+1,0,none⟩=some (.bool s2)∧w'.cell? ⟨w.heap.size+1,1,none⟩=some (.slice a2 n2 c2)∧w'.cell? ⟨w.heap.size+1,2,none⟩=some (.slice b2 m2 d2)∧w'.cell? ⟨w.heap.size+1,3,none⟩=some (.bool s3)∧w'.cell? ⟨w.heap.size+1,4,none⟩=some (.slice a3 n3 c3)∧w'.cell? ⟨w.heap.size+1,5,none⟩=some (.slice b3 m3 d3)∧w'.cell? ⟨w.heap.size+1+1,0,none⟩=some (.bool s4)∧w'.cell? ⟨w.heap.size+1+1,1,none⟩=some (.slice a4 n4 c4)∧w'.cell? ⟨w.heap.size+1+1,2,none⟩=some (.slice b4 m4 d4)) (by kernel_rfl) ⟨kqa_0,kqa_1,kqa_2,kqa_3,kqa_4,kqa_5,kqb_0,kqb_1,kqb_2,kqb_3,kqb_4,kqb_5,kqc_0,kqc_1,kqc_2⟩ (fun hHeld=>?_)
  clear kqa_0 kqa_1 kqa_2 kqa_3 kqa_4 kqa_5 kqb_0 kqb_1 kqb_2 kqb_3 kqb_4 kqb_5 kqc_0 kqc_1 kqc_2
  generalize W0.drew=w0F at bD hI qa qb qc bT hHeld ⊢
  clear bD qa_0 qa_1 qa_2 qa_3 qa_4 qa_5 qb_0 qb_1 qb_2 qb_3 qb_4 qb_5 qc_0 qc_1 qc_2
  have lt0:=bT.size
  have bS:=bT
  clear bT qa qb qc
  refine tk 0 (v:=?_) rfl (Or.inl ⟨by rfl,?_⟩) ?_
  rotate_left
  ·intro w9 hSw
   go_simp
   first | done | with_reducible rfl
  simp only [pP,pN,pS,pZ,pC]
  refine tk 2 (v:=?_) rfl (Or.inl ⟨by rfl,?_⟩) ?_
  rotate_left
  ·intro w9 hSw
   go_simp
   first | done | with_reducible rfl
  simp only [pP,pN,pS,pZ,pC]
  refine tk 4 (v:=?_) rfl (Or.inl ⟨by rfl,?_⟩) ?_
  rotate_left
  ·intro w9 hSw
   go_simp
   first | done | with_reducible rfl
  simp only [pP,pN,pS,pZ,pC]
  obtain ⟨va,hva⟩:∃ v,Value.agg #[.bool s0,.slice a0 n0 c0,.slice b0 m0 d0,.bool s1,.slice a1 n1 c1,.slice b1 m1 d1]=v:=⟨_,rfl⟩
  obtain ⟨vb,hvb⟩:∃ v,Value.agg #[.bool s2,.slice a2 n2 c2,.slice b2 m2 d2,.bool s3,.slice a3 n3 c3,.slice b3 m3 d3]=v:=⟨_,rfl⟩
  obtain ⟨vc,hvc⟩:∃ v,Value.agg #[.bool s4,.slice a4 n4 c4,.slice b4 m4 d4]=v:=⟨_,rfl⟩
  rw [hva] at GT0
  rw [hvb] at GT1
  rw [hvc] at GT2
  rw [hva,hvb,hvc]
  obtain ⟨P0,hP0⟩:∃ P:World→Value→Prop,P=fun W v=>∃ p0 q0 r0 t0,v=.agg #[.bool s0,.slice p0 n0 n0,.slice q0 m0 m0,.bool s1,.slice r0 n1 n1,.slice t0 m1 m1]∧SM W [(p0,X0,n0),(q0,Y0,m0),(r0,X1,n1),(t0,Y1,m1)]:=⟨_,rfl⟩
  have P0_b:∀ {W W':World} {v:Value},Below W.heap.size W W'→P0 W v→P0 W' v:=fun {W W' v} hb h=>by
   rw [hP0] at h ⊢
   obtain ⟨p0,q0,r0,t0,e,k⟩:=h
   exact ⟨p0,q0,r0,t0,e,k.later hb⟩
  have GC0:∀ W:World,Below w0F.heap.size w0F W→Calls Tryz.prog 4 #[va] W fun e w'=>∃ v,e=.returned v∧Below W.heap.size W w'∧P0 w' v:=fun W hb=>by
   refine (GT0.out _ (hI.later hb)).mono ?_
   rintro e W2 ⟨p0,q0,r0,t0,rfl,bC,k⟩
   exact ⟨_,rfl,bC,by rw [hP0];exact ⟨p0,q0,r0,t0,rfl,k⟩⟩
  obtain ⟨P1,hP1⟩:∃ P:World→Value→Prop,P=fun W v=>∃ p1 q1 r1 t1,v=.agg #[.bool s2,.slice p1 n2 n2,.slice q1 m2 m2,.bool s3,.slice r1 n3 n3,.slice t1 m3 m3]∧SM W [(p1,X2,n2),(q1,Y2,m2),(r1,X3,n3),(t1,Y3,m3)]:=⟨_,rfl⟩
  have P1_b:∀ {W W':World} {v:Value},Below W.heap.size W W'→P1 W v→P1 W' v:=fun {W W' v} hb h=>by
   rw [hP1] at h ⊢
   obtain ⟨p1,q1,r1,t1,e,k⟩:=h
   exact ⟨p1,q1,r1,t1,e,k.later hb⟩
  have GC1:∀ W:World,Below w0F.heap.size w0F W→Calls Tryz.prog 4 #[vb] W fun e w'=>∃ v,e=.returned v∧Below W.heap.size W w'∧P1 w' v:=fun W hb=>by
   refine (GT1.out _ (hI.later hb)).mono ?_
   rintro e W2 ⟨p1,q1,r1,t1,rfl,bC,k⟩
   exact ⟨_,rfl,bC,by rw [hP1];exact ⟨p1,q1,r1,t1,rfl,k⟩⟩
  obtain ⟨P2,hP2⟩:∃ P:World→Value→Prop,P=fun W v=>∃ p2 q2,v=.agg #[.bool s4,.slice p2 n4 n4,.slice q2 m4 m4]∧SM W [(p2,X4,n4),(q2,Y4,m4)]:=⟨_,rfl⟩
  have P2_b:∀ {W W':World} {v:Value},Below W.heap.size W W'→P2 W v→P2 W' v:=fun {W W' v} hb h=>by
   rw [hP2] at h ⊢
   obtain ⟨p2,q2,e,k⟩:=h
   exact ⟨p2,q2,e,k.later hb⟩
  have GC2:∀ W:World,Below w0F.heap.size w0F W→Calls Tryz.prog 5 #[vc] W fun e w'=>∃ v,e=.returned v∧Below W.heap.size W w'∧P2 w' v:=fun W hb=>by
   refine (GT2.out _ (hI.later hb)).mono ?_
   rintro e W2 ⟨p2,q2,rfl,bC,k⟩
   exact ⟨_,rfl,bC,by rw [hP2];exact ⟨p2,q2,rfl,k⟩⟩
  have bZ:Below w0F.heap.size w0F w0F:=Below.refl _ _
  refine nameH w0F.heap.size (fun W1 W2 hb h=>(⟨below_cell hb h.1,below_cell hb h.2.1,below_cell hb h.2.2.1,below_cell hb h.2.2.2.1,below_cell hb h.2.2.2.2.1,below_cell hb h.2.2.2.2.2.1,below_cell hb h.2.2.2.2.2.2.1,below_cell hb h.2.2.2.2.2.2.2.1,below_cell hb h.2.2.2.2.2.2.2.2.1,below_cell hb h.2.2.2.2.2.2.2.2.2.1,below_cell hb h.2.2.2.2.2.2.2.2.2.2.1,below_cell hb h.2.2.2.2.2.2.2.2.2.2.2.1,below_cell hb h.2.2.2.2.2.2.2.2.2.2.2.2.1,below_cell hb h.2.2.2.2.2.2.2.2.2.2.2.2.2.1,below_cell hb h.2.2.2.2.2.2.2.2.2.2.2.2.2.2⟩:_∧_∧_∧_∧_∧_∧_∧_∧_∧_∧_∧_∧_∧_∧_)) (fun W1 W2 c hg hk h=>(⟨cellsT hk (by omega) h.1,cellsT hk (by omega) h.2.1,cellsT hk (by omega) h.2.2.1,cellsT hk (by omega) h.2.2.2.1,cellsT hk (by omega) h.2.2.2.2.1,cellsT hk (by omega) h.2.2.2.2.2.1,cellsT hk (by omega) h.2.2.2.2.2.2.1,cellsT hk (by omega) h.2.2.2.2.2.2.2.1,cellsT hk (by omega) h.2.2.2.2.2.2.2.2.1,cellsT hk (by omega) h.2.2.2.2.2.2.2.2.2.1,cellsT hk (by omega) h.2.2.2.2.2.2.2.2.2.2.1,cellsT hk (by omega) h.2.2.2.2.2.2.2.2.2.2.2.1,cellsT hk (by omega) h.2.2.2.2.2.2.2.2.2.2.2.2.1,cellsT hk (by omega) h.2.2.2.2.2.2.2.2.2.2.2.2.2.1,cellsT hk (by omega) h.2.2.2.2.2.2.2.2.2.2.2.2.2.2⟩:_∧_∧_∧_∧_∧_∧_∧_∧_∧_∧_∧_∧_∧_∧_)) ?_
  intro G SS F hG hS0 hSB hSC hF
  replace hHeld:=hS0 _ hHeld
  clear hS0
  obtain ⟨z0V,hz0V⟩:∃ z:Array Value,#[.bool false,.slice none 0 0,.slice none 0 0,.bool false,.slice none 0 0,.slice none 0 0]=z:=⟨_,rfl⟩
  have b0V:∀ W:World,Below W.heap.size W (W.alloc (.cells z0V 29)):=fun W=>below_alloc _
  obtain ⟨z2V,hz2V⟩:∃ z:Array Value,#[.bool false,.slice none 0 0,.slice none 0 0]=z:=⟨_,rfl⟩
  have b2V:∀ W:World,Below W.heap.size W (W.alloc (.cells z2V 27)):=fun W=>below_alloc _
  have st3xyz:∀ (W:World) (v0 v1 v2:Value) (cx cy cz:Nat),P0 W v0→P1 W v1→P2 W v2→Vb w0F.heap.size z0V 29 W cx→Vb w0F.heap.size z0V 29 W cy→Vb w0F.heap.size z2V 27 W cz→cx≠cy→cx≠cz→cy≠cz→Below w0F.heap.size w0F W→SS W→G 3 #[true,true,true,true,true,true,true,true,true,false,false,false] (F [(16,v0),(18,v1),(20,v2),(7,.pointer (some ⟨cx,0,none⟩)),(8,.pointer (some ⟨cy,0,none⟩)),(9,.pointer (some ⟨cz,0,none⟩))]) W:=by
   intro W v0 v1 v2 cx cy cz k0 k1 k2 qx qy qz nxy nxz nyz bT hH
   rw [hF]
   simp only [List.foldl_cons,List.foldl_nil,List.setIfInBounds_toArray,List.set_cons_zero,List.set_cons_succ]
   refine (hG _ _ _ _).2 ?_
   rw [hP0] at k0
   obtain ⟨p0,q0,r0,t0,rfl,k0⟩:=k0
   rw [hP1] at k1
   obtain ⟨p1,q1,r1,t1,rfl,k1⟩:=k1
   rw [hP2] at k2
   obtain ⟨p2,q2,rfl,k2⟩:=k2
   obtain ⟨qx,gx⟩:=qx
   obtain ⟨qy,gy⟩:=qy
   obtain ⟨qz,gz⟩:=qz
   subst hva hvb hvc hz0V hz2V
   refine wpAnyH_ready (rs:=[9]) (by kernel_rfl) (by simp) ?_
   refine cons' rfl (fun KK hKK=>?_)
   have z0:=qx.cell 0
   have z1:=qx.cell 1
   have z2:=qx.cell 2
   have z3:=qx.cell 3
   have z4:=qx.cell 4
   have z5:=qx.cell 5
   simp only [List.getElem?_toArray,List.getElem?_cons_zero,List.getElem?_cons_succ] at z0 z1 z2 z3 z4 z5
   have fz:=fun o=>qx.frozen o
   obtain ⟨c9,q9⟩:=qx.set6 (.bool s0) (.slice p0 n0 n0) (.slice q0 m0 m0) (.bool s1) (.slice r0 n1 n1) (.slice t0 m1 m1)
   have hno:=qx.no (by simp)
   replace k0:=k0.ch c9 hno
   replace k1:=k1.ch c9 hno
   replace k2:=k2.ch c9 hno
   replace qy:=qy.ch c9 (by omega)
   replace qz:=qz.ch c9 (by omega)
   replace bT:=bT.trans (c9.below gx)
   replace hH:=hSC _ _ _ gx c9 hH
   go_simp
   clear z0 z1 z2 z3 z4 z5 fz hno c9
   replace qx:=q9
   refine hKK.out _ _ hH ?_
   intro _
   clear hKK KK
   try simp only [pP,pN,pS,pZ,pC]
   generalize ((((((W.setCell ⟨cx,0,none⟩ (.bool s0)).setCell ⟨cx,1,none⟩ (.slice p0 n0 n0)).setCell ⟨cx,2,none⟩ (.slice q0 m0 m0)).setCell ⟨cx,3,none⟩ (.bool s1)).setCell ⟨cx,4,none⟩ (.slice r0 n1 n1)).setCell ⟨cx,5,none⟩ (.slice t0 m1 m1))=wLx at k0 k1 k2 qx qy qz bT hH ⊢
   refine wpAnyH_ready (rs:=[10]) (by kernel_rfl) (by simp) ?_
   refine cons' rfl (fun KK hKK=>?_)
   have z0:=qy.cell 0
   have z1:=qy.cell 1
   have z2:=qy.cell 2
   have z3:=qy.cell 3
   have z4:=qy.cell 4
   have z5:=qy.cell 5
   simp only [List.getElem?_toArray,List.getElem?_cons_zero,List.getElem?_cons_succ] at z0 z1 z2 z3 z4 z5
   have fz:=fun o=>qy.frozen o
   obtain ⟨c9,q9⟩:=qy.set6 (.bool s2) (.slice p1 n2 n2) (.slice q1 m2 m2) (.bool s3) (.slice r1 n3 n3) (.slice t1 m3 m3)
   have hno:=qy.no (by simp)
   replace k0:=k0.ch c9 hno
   replace k1:=k1.ch c9 hno
   replace k2:=k2.ch c9 hno
   replace qx:=qx.ch c9 (by omega)
   replace qz:=qz.ch c9 (by omega)
   replace bT:=bT.trans (c9.below gy)
   replace hH:=hSC _ _ _ gy c9 hH
   go_simp
   clear z0 z1 z2 z3 z4 z5 fz hno c9
   replace qy:=q9
   refine hKK.out _ _ hH ?_
   intro _
   clear hKK KK
   try simp only [pP,pN,pS,pZ,pC]
   generalize ((((((wLx.setCell ⟨cy,0,none⟩ (.bool s2)).setCell ⟨cy,1,none⟩ (.slice p1 n2 n2)).setCell ⟨cy,2,none⟩ (.slice q1 m2 m2)).setCell ⟨cy,3,none⟩ (.bool s3)).setCell ⟨cy,4,none⟩ (.slice r1 n3 n3)).setCell ⟨cy,5,none⟩ (.slice t1 m3 m3))=wLy at k0 k1 k2 qx qy qz bT hH ⊢
   refine wpAnyH_ready (rs:=[11]) (by kernel_rfl) (by simp) ?_
   refine cons' rfl (fun KK hKK=>?_)
   have z0:=qz.cell 0
   have z1:=qz.cell 1
   have z2:=qz.cell 2
   simp only [List.getElem?_toArray,List.getElem?_cons_zero,List.getElem?_cons_succ] at z0 z1 z2
   have fz:=fun o=>qz.frozen o
   obtain ⟨c9,q9⟩:=qz.set3 (.bool s4) (.slice p2 n4 n4) (.slice q2 m4 m4)
   have hno:=qz.no (by simp)
   replace k0:=k0.ch c9 hno
   replace k1:=k1.ch c9 hno
   replace k2:=k2.ch c9 hno
   replace qx:=qx.ch c9 (by omega)
   replace qy:=qy.ch c9 (by omega)
   replace bT:=bT.trans (c9.below gz)
   replace hH:=hSC _ _ _ gz c9 hH
   go_simp
   clear z0 z1 z2 fz hno c9
   replace qz:=q9
   refine hKK.out _ _ hH ?_
   intro _
   clear hKK KK
   try simp only [pP,pN,pS,pZ,pC]
   generalize (((wLy.setCell ⟨cz,0,none⟩ (.bool s4)).setCell ⟨cz,1,none⟩ (.slice p2 n4 n4)).setCell ⟨cz,2,none⟩ (.slice q2 m4 m4))=wLz at k0 k1 k2 qx qy qz bT hH ⊢
   refine wpAnyH_done (by kernel_rfl) ?_ _
   go_wp2_with fail
   go_meet
   exact ⟨_,cx,cy,cz,p0,q0,r0,t0,p1,q1,r1,t1,p2,q2,rfl,rfl,rfl,rfl,qx,qy,qz,k0.app (k1.app k2),bS.trans (bT.mono bS.size)⟩
  have st3xy:∀ (W:World) (v0 v1 v2:Value) (cx cy:Nat),P0 W v0→P1 W v1→P2 W v2→Vb w0F.heap.size z0V 29 W cx→Vb w0F.heap.size z0V 29 W cy→cx≠cy→Below w0F.heap.size w0F W→SS W→G 4 #[true,true,true,true,true,true,true,true,false,false,false,false] (F [(16,v0),(18,v1),(20,v2),(7,.pointer (some ⟨cx,0,none⟩)),(8,.pointer (some ⟨cy,0,none⟩))]) W:=by
   intro W v0 v1 v2 cx cy k0 k1 k2 qx qy nxy bT hH
   rw [hF]
   simp only [List.foldl_cons,List.foldl_nil,List.setIfInBounds_toArray,List.set_cons_zero,List.set_cons_succ]
   refine (hG _ _ _ _).2 ?_
   refine wpAnyH_ready (rs:=[8]) (by kernel_rfl) (by simp) ?_
   refine consT rfl (fun KK hKK=>?_) ?_
   ·go_simp
    try rw [hz2V]
    refine hKK.out _ _ (hSB _ _ (b2V W) hH) ?_
    intro _
    try simp only [pP,pN,pS,pZ,pC]
    exact (hG _ _ _ _).1 (Geq (by kernel_rfl) (by kernel_rfl) (by rw [hF];kernel_rfl) (st3xyz _ v0 v1 v2 cx cy W.heap.size (P0_b (b2V W) k0) (P1_b (b2V W) k1) (P2_b (b2V W) k2) (qx.later (b2V W)) (qy.later (b2V W)) (Vb.new _ _ bT (Nat.le_refl _)) nxy (Nat.ne_of_lt qx.1.lt) (Nat.ne_of_lt qy.1.lt) (blw bT (b2V W)) (hSB _ _ (b2V W) hH)))
   exact AllReadyH.nil
  have st3xz:∀ (W:World) (v0 v1 v2:Value) (cx cz:Nat),P0 W v0→P1 W v1→P2 W v2→Vb w0F.heap.size z0V 29 W cx→Vb w0F.heap.size z2V 27 W cz→cx≠cz→Below w0F.heap.size w0F W→SS W→G 4 #[true,true,true,true,true,true,true,false,true,false,false,false] (F [(16,v0),(18,v1),(20,v2),(7,.pointer (some ⟨cx,0,none⟩)),(9,.pointer (some ⟨cz,0,none⟩))]) W:=by
   intro W v0 v1 v2 cx cz k0 k1 k2 qx qz nxz bT hH
   rw [hF]
   simp only [List.foldl_cons,List.foldl_nil,List.setIfInBounds_toArray,List.set_cons_zero,List.set_cons_succ]
   refine (hG _ _ _ _).2 ?_
   refine wpAnyH_ready (rs:=[7]) (by kernel_rfl) (by simp) ?_
   refine consT rfl (fun KK hKK=>?_) ?_
   ·go_simp
    try rw [hz0V]
    refine hKK.out _ _ (hSB _ _ (b0V W) hH) ?_
    intro _
    try simp only [pP,pN,pS,pZ,pC]
    exact (hG _ _ _ _).1 (Geq (by kernel_rfl) (by kernel_rfl) (by rw [hF];kernel_rfl) (st3xyz _ v0 v1 v2 cx W.heap.size cz (P0_b (b0V W) k0) (P1_b (b0V W) k1) (P2_b (b0V W) k2) (qx.later (b0V W)) (Vb.new _ _ bT (Nat.le_refl _)) (qz.later (b0V W)) (Nat.ne_of_lt qx.1.lt) nxz (Nat.ne_of_gt qz.1.lt) (blw bT (b0V W)) (hSB _ _ (b0V W) hH)))
   exact AllReadyH.nil
  have st3yz:∀ (W:World) (v0 v1 v2:Value) (cy cz:Nat),P0 W v0→P1 W v1→P2 W v2→Vb w0F.heap.size z0V 29 W cy→Vb w0F.heap.size z2V 27 W cz→cy≠cz→Below w0F.heap.size w0F W→SS W→G 4 #[true,true,true,true,true,true,false,true,true,false,false,false] (F [(16,v0),(18,v1),(20,v2),(8,.pointer (some ⟨cy,0,none⟩)),(9,.pointer (some ⟨cz,0,none⟩))]) W:=by
   intro W v0 v1 v2 cy cz k0 k1 k2 qy qz nyz bT hH
   rw [hF]
   simp only [List.foldl_cons,List.foldl_nil,List.setIfInBounds_toArray,List.set_cons_zero,List.set_cons_succ]
   refine (hG _ _ _ _).2 ?_
   refine wpAnyH_ready (rs:=[6]) (by kernel_rfl) (by simp) ?_
   refine consT rfl (fun KK hKK=>?_) ?_
   ·go_simp
    try rw [hz0V]
    refine hKK.out _ _ (hSB _ _ (b0V W) hH) ?_
    intro _
    try simp only [pP,pN,pS,pZ,pC]
    exact (hG _ _ _ _).1 (Geq (by kernel_rfl) (by kernel_rfl) (by rw [hF];kernel_rfl) (st3xyz _ v0 v1 v2 W.heap.size cy cz (P0_b (b0V W) k0) (P1_b (b0V W) k1) (P2_b (b0V W) k2) (Vb.new _ _ bT (Nat.le_refl _)) (qy.later (b0V W)) (qz.later (b0V W)) (Nat.ne_of_gt qy.1.lt) (Nat.ne_of_gt qz.1.lt) nyz (blw bT (b0V W)) (hSB _ _ (b0V W) hH)))
   exact AllReadyH.nil
  have st3x:∀ (W:World) (v0 v1 v2:Value) (cx:Nat),P0 W v0→P1 W v1→P2 W v2→Vb w0F.heap.size z0V 29 W cx→Below w0F.heap.size w0F W→SS W→G 5 #[true,true,true,true,true,true,true,false,false,false,false,false] (F [(16,v0),(18,v1),(20,v2),(7,.pointer (some ⟨cx,0,none⟩))]) W:=by
   intro W v0 v1 v2 cx k0 k1 k2 qx bT hH
   rw [hF]
   simp only [List.foldl_cons,List.foldl_nil,List.setIfInBounds_toArray,List.set_cons_zero,List.set_cons_succ]
   refine (hG _ _ _ _).2 ?_
   refine wpAnyH_ready (rs:=[7,8]) (by kernel_rfl) (by simp) ?_
   refine consT rfl (fun KK hKK=>?_) ?_
   ·go_simp
    try rw [hz0V]
    refine hKK.out _ _ (hSB _ _ (b0V W) hH) ?_
    intro _
    try simp only [pP,pN,pS,pZ,pC]
    exact (hG _ _ _ _).1 (Geq (by kernel_rfl) (by kernel_rfl) (by rw [hF];kernel_rfl) (st3xy _ v0 v1 v2 cx W.heap.size (P0_b (b0V W) k0) (P1_b (b0V W) k1) (P2_b (b0V W) k2) (qx.later (b0V W)) (Vb.new _ _ bT (Nat.le_refl _)) (Nat.ne_of_lt qx.1.lt) (blw bT (b0V W)) (hSB _ _ (b0V W) hH)))
   refine consT rfl (fun KK hKK=>?_) ?_
   ·go_simp
    try rw [hz2V]
    refine hKK.out _ _ (hSB _ _ (b2V W) hH) ?_
    intro _
    try simp only [pP,pN,pS,pZ,pC]
    exact (hG _ _ _ _).1 (Geq (by kernel_rfl) (by kernel_rfl) (by rw [hF];kernel_rfl) (st3xz _ v0 v1 v2 cx W.heap.size (P0_b (b2V W) k0) (P1_b (b2V W) k1) (P2_b (b2V W) k2) (qx.later (b2V W)) (Vb.new _ _ bT (Nat.le_refl _)) (Nat.ne_of_lt qx.1.lt) (blw bT (b2V W)) (hSB _ _ (b2V W) hH)))
   exact AllReadyH.nil
  have st3y:∀ (W:World) (v0 v1 v2:Value) (cy:Nat),P0 W v0→P1 W v1→P2 W v2→Vb w0F.heap.size z0V 29 W cy→Below w0F.heap.size w0F W→SS W→G 5 #[true,true,true,true,true,true,false,true,false,false,false,false] (F [(16,v0),(18,v1),(20,v2),(8,.pointer (some ⟨cy,0,none⟩))]) W:=by
   intro W v0 v1 v2 cy k0 k1 k2 qy bT hH
   rw [hF]
   simp only [List.foldl_cons,List.foldl_nil,List.setIfInBounds_toArray,List.set_cons_zero,List.set_cons_succ]
   refine (hG _ _ _ _).2 ?_
   refine wpAnyH_ready (rs:=[6,8]) (by kernel_rfl) (by simp) ?_
   refine consT rfl (fun KK hKK=>?_) ?_
   ·go_simp
    try rw [hz0V]
    refine hKK.out _ _ (hSB _ _ (b0V W) hH) ?_
    intro _
    try simp only [pP,pN,pS,pZ,pC]
    exact (hG _ _ _ _).1 (Geq (by kernel_rfl) (by kernel_rfl) (by rw [hF];kernel_rfl) (st3xy _ v0 v1 v2 W.heap.size cy (P0_b (b0V W) k0) (P1_b (b0V W) k1) (P2_b (b0V W) k2) (Vb.new _ _ bT (Nat.le_refl _)) (qy.later (b0V W)) (Nat.ne_of_gt qy.1.lt) (blw bT (b0V W)) (hSB _ _ (b0V W) hH)))
   refine consT rfl (fun KK hKK=>?_) ?_
   ·go_simp
    try rw [hz2V]
    refine hKK.out _ _ (hSB _ _ (b2V W) hH) ?_
    intro _
    try simp only [pP,pN,pS,pZ,pC]
    exact (hG _ _ _ _).1 (Geq (by kernel_rfl) (by kernel_rfl) (by rw [hF];kernel_rfl) (st3yz _ v0 v1 v2 cy W.heap.size (P0_b (b2V W) k0) (P1_b (b2V W) k1) (P2_b (b2V W) k2) (qy.later (b2V W)) (Vb.new _ _ bT (Nat.le_refl _)) (Nat.ne_of_lt qy.1.lt) (blw bT (b2V W)) (hSB _ _ (b2V W) hH)))
   exact AllReadyH.nil
  have st3z:∀ (W:World) (v0 v1 v2:Value) (cz:Nat),P0 W v0→P1 W v1→P2 W v2→Vb w0F.heap.size z2V 27 W cz→Below w0F.heap.size w0F W→SS W→G 5 #[true,true,true,true,true,true,false,false,true,false,false,false] (F [(16,v0),(18,v1),(20,v2),(9,.pointer (some ⟨cz,0,none⟩))]) W:=by
   intro W v0 v1 v2 cz k0 k1 k2 qz bT hH
   rw [hF]
   simp only [List.foldl_cons,List.foldl_nil,List.setIfInBounds_toArray,List.set_cons_zero,List.set_cons_succ]
   refine (hG _ _ _ _).2 ?_
   refine wpAnyH_ready (rs:=[6,7]) (by kernel_rfl) (by simp) ?_
   refine consT rfl (fun KK hKK=>?_) ?_
   ·go_simp
    try rw [hz0V]
    refine hKK.out _ _ (hSB _ _ (b0V W) hH) ?_
    intro _
    try simp only [pP,pN,pS,pZ,pC]
    exact (hG _ _ _ _).1 (Geq (by kernel_rfl) (by kernel_rfl) (by rw [hF];kernel_rfl) (st3xz _ v0 v1 v2 W.heap.size cz (P0_b (b0V W) k0) (P1_b (b0V W) k1) (P2_b (b0V W) k2) (Vb.new _ _ bT (Nat.le_refl _)) (qz.later (b0V W)) (Nat.ne_of_gt qz.1.lt) (blw bT (b0V W)) (hSB _ _ (b0V W) hH)))
   refine consT rfl (fun KK hKK=>?_) ?_
   ·go_simp
    try rw [hz0V]
    refine hKK.out _ _ (hSB _ _ (b0V W) hH) ?_
    intro _
    try simp only [pP,pN,pS,pZ,pC]
    exact (hG _ _ _ _).1 (Geq (by kernel_rfl) (by kernel_rfl) (by rw [hF];kernel_rfl) (st3yz _ v0 v1 v2 W.heap.size cz (P0_b (b0V W) k0) (P1_b (b0V W) k1) (P2_b (b0V W) k2) (Vb.new _ _ bT (Nat.le_refl _)) (qz.later (b0V W)) (Nat.ne_of_gt qz.1.lt) (blw bT (b0V W)) (hSB _ _ (b0V W) hH)))
   exact AllReadyH.nil
  have st3:∀ (W:World) (v0 v1 v2:Value),P0 W v0→P1 W v1→P2 W v2→Below w0F.heap.size w0F W→SS W→G 6 #[true,true,true,true,true,true,false,false,false,false,false,false] (F [(16,v0),(18,v1),(20,v2)]) W:=by
   intro W v0 v1 v2 k0 k1 k2 bT hH
   rw [hF]
   simp only [List.foldl_cons,List.foldl_nil,List.setIfInBounds_toArray,List.set_cons_zero,List.set_cons_succ]
   refine (hG _ _ _ _).2 ?_
   refine wpAnyH_ready (rs:=[6,7,8]) (by kernel_rfl) (by simp) ?_
   refine consT rfl (fun KK hKK=>?_) ?_
   ·go_simp
    try rw [hz0V]
    refine hKK.out _ _ (hSB _ _ (b0V W) hH) ?_
    intro _
    try simp only [pP,pN,pS,pZ,pC]
    exact (hG _ _ _ _).1 (Geq (by kernel_rfl) (by kernel_rfl) (by rw [hF];kernel_rfl) (st3x _ v0 v1 v2 W.heap.size (P0_b (b0V W) k0) (P1_b (b0V W) k1) (P2_b (b0V W) k2) (Vb.new _ _ bT (Nat.le_refl _)) (blw bT (b0V W)) (hSB _ _ (b0V W) hH)))
   refine consT rfl (fun KK hKK=>?_) ?_
   ·go_simp
    try rw [hz0V]
    refine hKK.out _ _ (hSB _ _ (b0V W) hH) ?_
    intro _
    try simp only [pP,pN,pS,pZ,pC]
    exact (hG _ _ _ _).1 (Geq (by kernel_rfl) (by kernel_rfl) (by rw [hF];kernel_rfl) (st3y _ v0 v1 v2 W.heap.size (P0_b (b0V W) k0) (P1_b (b0V W) k1) (P2_b (b0V W) k2) (Vb.new _ _ bT (Nat.le_refl _)) (blw bT (b0V W)) (hSB _ _ (b0V W) hH)))
   refine consT rfl (fun KK hKK=>?_) ?_
   ·go_simp
    try rw [hz2V]
    refine hKK.out _ _ (hSB _ _ (b2V W) hH) ?_
    intro _
    try simp only [pP,pN,pS,pZ,pC]
    exact (hG _ _ _ _).1 (Geq (by kernel_rfl) (by kernel_rfl) (by rw [hF];kernel_rfl) (st3z _ v0 v1 v2 W.heap.size (P0_b (b2V W) k0) (P1_b (b2V W) k1) (P2_b (b2V W) k2) (Vb.new _ _ bT (Nat.le_refl _)) (blw bT (b2V W)) (hSB _ _ (b2V W) hH)))
   exact AllReadyH.nil
  have st2xyz:∀ (W:World) (v0 v1:Value) (cx cy cz:Nat),P0 W v0→P1 W v1→Vb w0F.heap.size z0V 29 W cx→Vb w0F.heap.size z0V 29 W cy→Vb w0F.heap.size z2V 27 W cz→cx≠cy→cx≠cz→cy≠cz→Below w0F.heap.size w0F W→SS W→G 4 #[true,true,true,true,true,false,true,true,true,false,false,false] (F [(16,v0),(18,v1),(7,.pointer (some ⟨cx,0,none⟩)),(8,.pointer (some ⟨cy,0,none⟩)),(9,.pointer (some ⟨cz,0,none⟩))]) W:=by
   intro W v0 v1 cx cy cz k0 k1 qx qy qz nxy nxz nyz bT hH
   rw [hF]
   simp only [List.foldl_cons,List.foldl_nil,List.setIfInBounds_toArray,List.set_cons_zero,List.set_cons_succ]
   refine (hG _ _ _ _).2 ?_
   refine wpAnyH_ready (rs:=[5]) (by kernel_rfl) (by simp) ?_
   refine consT rfl (fun KK hKK=>?_) ?_
   ·go_simp
    refine (GC2 _ bT).mono ?_
    rintro e W2 ⟨v2,rfl,bC,k2⟩
    go_wp2_with fail
    refine hKK.out _ _ (hSB _ _ bC hH) ?_
    intro _
    try simp only [pP,pN,pS,pZ,pC]
    exact (hG _ _ _ _).1 (Geq (by kernel_rfl) (by kernel_rfl) (by rw [hF];kernel_rfl) (st3xyz W2 v0 v1 v2 cx cy cz (P0_b bC k0) (P1_b bC k1) k2 (qx.later bC) (qy.later bC) (qz.later bC) nxy nxz nyz (blw bT bC) (hSB _ _ bC hH)))
   exact AllReadyH.nil
  have st2xy:∀ (W:World) (v0 v1:Value) (cx cy:Nat),P0 W v0→P1 W v1→Vb w0F.heap.size z0V 29 W cx→Vb w0F.heap.size z0V 29 W cy→cx≠cy→Below w0F.heap.size w0F W→SS W→G 5 #[true,true,true,true,true,false,true,true,false,false,false,false] (F [(16,v0),(18,v1),(7,.pointer (some ⟨cx,0,none⟩)),(8,.pointer (some ⟨cy,0,none⟩))]) W:=by
   intro W v0 v1 cx cy k0 k1 qx qy nxy bT hH
   rw [hF]
   simp only [List.foldl_cons,List.foldl_nil,List.setIfInBounds_toArray,List.set_cons_zero,List.set_cons_succ]
   refine (hG _ _ _ _).2 ?_
   refine wpAnyH_ready (rs:=[5,8]) (by kernel_rfl) (by simp) ?_
   refine consT rfl (fun KK hKK=>?_) ?_
   ·go_simp
    refine (GC2 _ bT).mono ?_
    rintro e W2 ⟨v2,rfl,bC,k2⟩
    go_wp2_with fail
    refine hKK.out _ _ (hSB _ _ bC hH) ?_
    intro _
    try simp only [pP,pN,pS,pZ,pC]
    exact (hG _ _ _ _).1 (Geq (by kernel_rfl) (by kernel_rfl) (by rw [hF];kernel_rfl) (st3xy W2 v0 v1 v2 cx cy (P0_b bC k0) (P1_b bC k1) k2 (qx.later bC) (qy.later bC) nxy (blw bT bC) (hSB _ _ bC hH)))
   refine consT rfl (fun KK hKK=>?_) ?_
   ·go_simp
    try rw [hz2V]
    refine hKK.out _ _ (hSB _ _ (b2V W) hH) ?_
    intro _
    try simp only [pP,pN,pS,pZ,pC]
    exact (hG _ _ _ _).1 (Geq (by kernel_rfl) (by kernel_rfl) (by rw [hF];kernel_rfl) (st2xyz _ v0 v1 cx cy W.heap.size (P0_b (b2V W) k0) (P1_b (b2V W) k1) (qx.later (b2V W)) (qy.later (b2V W)) (Vb.new _ _ bT (Nat.le_refl _)) nxy (Nat.ne_of_lt qx.1.lt) (Nat.ne_of_lt qy.1.lt) (blw bT (b2V W)) (hSB _ _ (b2V W) hH)))
   exact AllReadyH.nil
  have st2xz:∀ (W:World) (v0 v1:Value) (cx cz:Nat),P0 W v0→P1 W v1→Vb w0F.heap.size z0V 29 W cx→Vb w0F.heap.size z2V 27 W cz→cx≠cz→Below w0F.heap.size w0F W→SS W→G 5 #[true,true,true,true,true,false,true,false,true,false,false,false] (F [(16,v0),(18,v1),(7,.pointer (some ⟨cx,0,none⟩)),(9,.pointer (some ⟨cz,0,none⟩))]) W:=by
   intro W v0 v1 cx cz k0 k1 qx qz nxz bT hH
   rw [hF]
   simp only [List.foldl_cons,List.foldl_nil,List.setIfInBounds_toArray,List.set_cons_zero,List.set_cons_succ]
   refine (hG _ _ _ _).2 ?_
   refine wpAnyH_ready (rs:=[5,7]) (by kernel_rfl) (by simp) ?_
   refine consT rfl (fun KK hKK=>?_) ?_
   ·go_simp
    refine (GC2 _ bT).mono ?_
    rintro e W2 ⟨v2,rfl,bC,k2⟩
    go_wp2_with fail
    refine hKK.out _ _ (hSB _ _ bC hH) ?_
    intro _
    try simp only [pP,pN,pS,pZ,pC]
    exact (hG _ _ _ _).1 (Geq (by kernel_rfl) (by kernel_rfl) (by rw [hF];kernel_rfl) (st3xz W2 v0 v1 v2 cx cz (P0_b bC k0) (P1_b bC k1) k2 (qx.later bC) (qz.later bC) nxz (blw bT bC) (hSB _ _ bC hH)))
   refine consT rfl (fun KK hKK=>?_) ?_
   ·go_simp
    try rw [hz0V]
    refine hKK.out _ _ (hSB _ _ (b0V W) hH) ?_
    intro _
    try simp only [pP,pN,pS,pZ,pC]
    exact (hG _ _ _ _).1 (Geq (by kernel_rfl) (by kernel_rfl) (by rw [hF];kernel_rfl) (st2xyz _ v0 v1 cx W.heap.size cz (P0_b (b0V W) k0) (P1_b (b0V W) k1) (qx.later (b0V W)) (Vb.new _ _ bT (Nat.le_refl _)) (qz.later (b0V W)) (Nat.ne_of_lt qx.1.lt) nxz (Nat.ne_of_gt qz.1.lt) (blw bT (b0V W)) (hSB _ _ (b0V W) hH)))
   exact AllReadyH.nil
  have st2yz:∀ (W:World) (v0 v1:Value) (cy cz:Nat),P0 W v0→P1 W v1→Vb w0F.heap.size z0V 29 W cy→Vb w0F.heap.size z2V 27 W cz→cy≠cz→Below w0F.heap.size w0F W→SS W→G 5 #[true,true,true,true,true,false,false,true,true,false,false,false] (F [(16,v0),(18,v1),(8,.pointer (some ⟨cy,0,none⟩)),(9,.pointer (some ⟨cz,0,none⟩))]) W:=by
   intro W v0 v1 cy cz k0 k1 qy qz nyz bT hH
   rw [hF]
   simp only [List.foldl_cons,List.foldl_nil,List.setIfInBounds_toArray,List.set_cons_zero,List.set_cons_succ]
   refine (hG _ _ _ _).2 ?_
   refine wpAnyH_ready (rs:=[5,6]) (by kernel_rfl) (by simp) ?_
   refine consT rfl (fun KK hKK=>?_) ?_
   ·go_simp
    refine (GC2 _ bT).mono ?_
    rintro e W2 ⟨v2,rfl,bC,k2⟩
    go_wp2_with fail
    refine hKK.out _ _ (hSB _ _ bC hH) ?_
    intro _
    try simp only [pP,pN,pS,pZ,pC]
    exact (hG _ _ _ _).1 (Geq (by kernel_rfl) (by kernel_rfl) (by rw [hF];kernel_rfl) (st3yz W2 v0 v1 v2 cy cz (P0_b bC k0) (P1_b bC k1) k2 (qy.later bC) (qz.later bC) nyz (blw bT bC) (hSB _ _ bC hH)))
   refine consT rfl (fun KK hKK=>?_) ?_
   ·go_simp
    try rw [hz0V]
    refine hKK.out _ _ (hSB _ _ (b0V W) hH) ?_
    intro _
    try simp only [pP,pN,pS,pZ,pC]
    exact (hG _ _ _ _).1 (Geq (by kernel_rfl) (by kernel_rfl) (by rw [hF];kernel_rfl) (st2xyz _ v0 v1 W.heap.size cy cz (P0_b (b0V W) k0) (P1_b (b0V W) k1) (Vb.new _ _ bT (Nat.le_refl _)) (qy.later (b0V W)) (qz.later (b0V W)) (Nat.ne_of_gt qy.1.lt) (Nat.ne_of_gt qz.1.lt) nyz (blw bT (b0V W)) (hSB _ _ (b0V W) hH)))
   exact AllReadyH.nil
  have st2x:∀ (W:World) (v0 v1:Value) (cx:Nat),P0 W v0→P1 W v1→Vb w0F.heap.size z0V 29 W cx→Below w0F.heap.size w0F W→SS W→G 6 #[true,true,true,true,true,false,true,false,false,false,false,false] (F [(16,v0),(18,v1),(7,.pointer (some ⟨cx,0,none⟩))]) W:=by
   intro W v0 v1 cx k0 k1 qx bT hH
   rw [hF]
   simp only [List.foldl_cons,List.foldl_nil,List.setIfInBounds_toArray,List.set_cons_zero,List.set_cons_succ]
   refine (hG _ _ _ _).2 ?_
   refine wpAnyH_ready (rs:=[5,7,8]) (by kernel_rfl) (by simp) ?_
   refine consT rfl (fun KK hKK=>?_) ?_
   ·go_simp
    refine (GC2 _ bT).mono ?_
    rintro e W2 ⟨v2,rfl,bC,k2⟩
    go_wp2_with fail
    refine hKK.out _ _ (hSB _ _ bC hH) ?_
    intro _
    try simp only [pP,pN,pS,pZ,pC]
    exact (hG _ _ _ _).1 (Geq (by kernel_rfl) (by kernel_rfl) (by rw [hF];kernel_rfl) (st3x W2 v0 v1 v2 cx (P0_b bC k0) (P1_b bC k1) k2 (qx.later bC) (blw bT bC) (hSB _ _ bC hH)))
   refine consT rfl (fun KK hKK=>?_) ?_
   ·go_simp
    try rw [hz0V]
    refine hKK.out _ _ (hSB _ _ (b0V W) hH) ?_
    intro _
    try simp only [pP,pN,pS,pZ,pC]
    exact (hG _ _ _ _).1 (Geq (by kernel_rfl) (by kernel_rfl) (by rw [hF];kernel_rfl) (st2xy _ v0 v1 cx W.heap.size (P0_b (b0V W) k0) (P1_b (b0V W) k1) (qx.later (b0V W)) (Vb.new _ _ bT (Nat.le_refl _)) (Nat.ne_of_lt qx.1.lt) (blw bT (b0V W)) (hSB _ _ (b0V W) hH)))
   refine consT rfl (fun KK hKK=>?_) ?_
   ·go_simp
    try rw [hz2V]
    refine hKK.out _ _ (hSB _ _ (b2V W) hH) ?_
    intro _
    try simp only [pP,pN,pS,pZ,pC]
    exact (hG _ _ _ _).1 (Geq (by kernel_rfl) (by kernel_rfl) (by rw [hF];kernel_rfl) (st2xz _ v0 v1 cx W.heap.size (P0_b (b2V W) k0) (P1_b (b2V W) k1) (qx.later (b2V W)) (Vb.new _ _ bT (Nat.le_refl _)) (Nat.ne_of_lt qx.1.lt) (blw bT (b2V W)) (hSB _ _ (b2V W) hH)))
   exact AllReadyH.nil
  have st2y:∀ (W:World) (v0 v1:Value) (cy:Nat),P0 W v0→P1 W v1→Vb w0F.heap.size z0V 29 W cy→Below w0F.heap.size w0F W→SS W→G 6 #[true,true,true,true,true,false,false,true,false,false,false,false] (F [(16,v0),(18,v1),(8,.pointer (some ⟨cy,0,none⟩))]) W:=by
   intro W v0 v1 cy k0 k1 qy bT hH
   rw [hF]
   simp only [List.foldl_cons,List.foldl_nil,List.setIfInBounds_toArray,List.set_cons_zero,List.set_cons_succ]
   refine (hG _ _ _ _).2 ?_
   refine wpAnyH_ready (rs:=[5,6,8]) (by kernel_rfl) (by simp) ?_
   refine consT rfl (fun KK hKK=>?_) ?_
   ·go_simp
    refine (GC2 _ bT).mono ?_
    rintro e W2 ⟨v2,rfl,bC,k2⟩
    go_wp2_with fail
    refine hKK.out _ _ (hSB _ _ bC hH) ?_
    intro _
    try simp only [pP,pN,pS,pZ,pC]
    exact (hG _ _ _ _).1 (Geq (by kernel_rfl) (by kernel_rfl) (by rw [hF];kernel_rfl) (st3y W2 v0 v1 v2 cy (P0_b bC k0) (P1_b bC k1) k2 (qy.later bC) (blw bT bC) (hSB _ _ bC hH)))
   refine consT rfl (fun KK hKK=>?_) ?_
   ·go_simp
    try rw [hz0V]
    refine hKK.out _ _ (hSB _ _ (b0V W) hH) ?_
    intro _
    try simp only [pP,pN,pS,pZ,pC]
    exact (hG _ _ _ _).1 (Geq (by kernel_rfl) (by kernel_rfl) (by rw [hF];kernel_rfl) (st2xy _ v0 v1 W.heap.size cy (P0_b (b0V W) k0) (P1_b (b0V W) k1) (Vb.new _ _ bT (Nat.le_refl _)) (qy.later (b0V W)) (Nat.ne_of_gt qy.1.lt) (blw bT (b0V W)) (hSB _ _ (b0V W) hH)))
   refine consT rfl (fun KK hKK=>?_) ?_
   ·go_simp
    try rw [hz2V]
    refine hKK.out _ _ (hSB _ _ (b2V W) hH) ?_
    intro _
    try simp only [pP,pN,pS,pZ,pC]
    exact (hG _ _ _ _).1 (Geq (by kernel_rfl) (by kernel_rfl) (by rw [hF];kernel_rfl) (st2yz _ v0 v1 cy W.heap.size (P0_b (b2V W) k0) (P1_b (b2V W) k1) (qy.later (b2V W)) (Vb.new _ _ bT (Nat.le_refl _)) (Nat.ne_of_lt qy.1.lt) (blw bT (b2V W)) (hSB _ _ (b2V W) hH)))
   exact AllReadyH.nil
  have st2z:∀ (W:World) (v0 v1:Value) (cz:Nat),P0 W v0→P1 W v1→Vb w0F.heap.size z2V 27 W cz→Below w0F.heap.size w0F W→SS W→G 6 #[true,true,true,true,true,false,false,false,true,false,false,false] (F [(16,v0),(18,v1),(9,.pointer (some ⟨cz,0,none⟩))]) W:=by
   intro W v0 v1 cz k0 k1 qz bT hH
   rw [hF]
   simp only [List.foldl_cons,List.foldl_nil,List.setIfInBounds_toArray,List.set_cons_zero,List.set_cons_succ]
   refine (hG _ _ _ _).2 ?_
   refine wpAnyH_ready (rs:=[5,6,7]) (by kernel_rfl) (by simp) ?_
   refine consT rfl (fun KK hKK=>?_) ?_
   ·go_simp
    refine (GC2 _ bT).mono ?_
    rintro e W2 ⟨v2,rfl,bC,k2⟩
    go_wp2_with fail
    refine hKK.out _ _ (hSB _ _ bC hH) ?_
    intro _
    try simp only [pP,pN,pS,pZ,pC]
    exact (hG _ _ _ _).1 (Geq (by kernel_rfl) (by kernel_rfl) (by rw [hF];kernel_rfl) (st3z W2 v0 v1 v2 cz (P0_b bC k0) (P1_b bC k1) k2 (qz.later bC) (blw bT bC) (hSB _ _ bC hH)))
   refine consT rfl (fun KK hKK=>?_) ?_
   ·go_simp
    try rw [hz0V]
    refine hKK.out _ _ (hSB _ _ (b0V W) hH) ?_
    intro _
    try simp only [pP,pN,pS,pZ,pC]
    exact (hG _ _ _ _).1 (Geq (by kernel_rfl) (by kernel_rfl) (by rw [hF];kernel_rfl) (st2xz _ v0 v1 W.heap.size cz (P0_b (b0V W) k0) (P1_b (b0V W) k1) (Vb.new _ _ bT (Nat.le_refl _)) (qz.later (b0V W)) (Nat.ne_of_gt qz.1.lt) (blw bT (b0V W)) (hSB _ _ (b0V W) hH)))
   refine consT rfl (fun KK hKK=>?_) ?_
   ·go_simp
    try rw [hz0V]
    refine hKK.out _ _ (hSB _ _ (b0V W) hH) ?_
    intro _
    try simp only [pP,pN,pS,pZ,pC]
    exact (hG _ _ _ _).1 (Geq (by kernel_rfl) (by kernel_rfl) (by rw [hF];kernel_rfl) (st2yz _ v0 v1 W.heap.size cz (P0_b (b0V W) k0) (P1_b (b0V W) k1) (Vb.new _ _ bT (Nat.le_refl _)) (qz.later (b0V W)) (Nat.ne_of_gt qz.1.lt) (blw bT (b0V W)) (hSB _ _ (b0V W) hH)))
   exact AllReadyH.nil
  have st2:∀ (W:World) (v0 v1:Value),P0 W v0→P1 W v1→Below w0F.heap.size w0F W→SS W→G 7 #[true,true,true,true,true,false,false,false,false,false,false,false] (F [(16,v0),(18,v1)]) W:=by
   intro W v0 v1 k0 k1 bT hH
   rw [hF]
   simp only [List.foldl_cons,List.foldl_nil,List.setIfInBounds_toArray,List.set_cons_zero,List.set_cons_succ]
   refine (hG _ _ _ _).2 ?_
   refine wpAnyH_ready (rs:=[5,6,7,8]) (by kernel_rfl) (by simp) ?_
   refine consT rfl (fun KK hKK=>?_) ?_
   ·go_simp
    refine (GC2 _ bT).mono ?_
    rintro e W2 ⟨v2,rfl,bC,k2⟩
    go_wp2_with fail
    refine hKK.out _ _ (hSB _ _ bC hH) ?_
    intro _
    try simp only [pP,pN,pS,pZ,pC]
    exact (hG _ _ _ _).1 (Geq (by kernel_rfl) (by kernel_rfl) (by rw [hF];kernel_rfl) (st3 W2 v0 v1 v2 (P0_b bC k0) (P1_b bC k1) k2 (blw bT bC) (hSB _ _ bC hH)))
   refine consT rfl (fun KK hKK=>?_) ?_
   ·go_simp
    try rw [hz0V]
    refine hKK.out _ _ (hSB _ _ (b0V W) hH) ?_
    intro _
    try simp only [pP,pN,pS,pZ,pC]
    exact (hG _ _ _ _).1 (Geq (by kernel_rfl) (by kernel_rfl) (by rw [hF];kernel_rfl) (st2x _ v0 v1 W.heap.size (P0_b (b0V W) k0) (P1_b (b0V W) k1) (Vb.new _ _ bT (Nat.le_refl _)) (blw bT (b0V W)) (hSB _ _ (b0V W) hH)))
   refine consT rfl (fun KK hKK=>?_) ?_
   ·go_simp
    try rw [hz0V]
    refine hKK.out _ _ (hSB _ _ (b0V W) hH) ?_
    intro _
    try simp only [pP,pN,pS,pZ,pC]
    exact (hG _ _ _ _).1 (Geq (by kernel_rfl) (by kernel_rfl) (by rw [hF];kernel_rfl) (st2y _ v0 v1 W.heap.size (P0_b (b0V W) k0) (P1_b (b0V W) k1) (Vb.new _ _ bT (Nat.le_refl _)) (blw bT (b0V W)) (hSB _ _ (b0V W) hH)))
   refine consT rfl (fun KK hKK=>?_) ?_
   ·go_simp
    try rw [hz2V]
    refine hKK.out _ _ (hSB _ _ (b2V W) hH) ?_
    intro _
    try simp only [pP,pN,pS,pZ,pC]
    exact (hG _ _ _ _).1 (Geq (by kernel_rfl) (by kernel_rfl) (by rw [hF];kernel_rfl) (st2z _ v0 v1 W.heap.size (P0_b (b2V W) k0) (P1_b (b2V W) k1) (Vb.new _ _ bT (Nat.le_refl _)) (blw bT (b2V W)) (hSB _ _ (b2V W) hH)))
   exact AllReadyH.nil
  have st1xyz:∀ (W:World) (v0:Value) (cx cy cz:Nat),P0 W v0→Vb w0F.heap.size z0V 29 W cx→Vb w0F.heap.size z0V 29 W cy→Vb w0F.heap.size z2V 27 W cz→cx≠cy→cx≠cz→cy≠cz→Below w0F.heap.size w0F W→SS W→G 5 #[true,true,true,false,true,false,true,true,true,false,false,false] (F [(16,v0),(7,.pointer (some ⟨cx,0,none⟩)),(8,.pointer (some ⟨cy,0,none⟩)),(9,.pointer (some ⟨cz,0,none⟩))]) W:=by
   intro W v0 cx cy cz k0 qx qy qz nxy nxz nyz bT hH
   rw [hF]
   simp only [List.foldl_cons,List.foldl_nil,List.setIfInBounds_toArray,List.set_cons_zero,List.set_cons_succ]
   refine (hG _ _ _ _).2 ?_
   refine wpAnyH_ready (rs:=[3]) (by kernel_rfl) (by simp) ?_
   refine consT rfl (fun KK hKK=>?_) ?_
   ·go_simp
    refine (GC1 _ bT).mono ?_
    rintro e W2 ⟨v1,rfl,bC,k1⟩
    go_wp2_with fail
    refine hKK.out _ _ (hSB _ _ bC hH) ?_
    intro _
    try simp only [pP,pN,pS,pZ,pC]
    exact (hG _ _ _ _).1 (Geq (by kernel_rfl) (by kernel_rfl) (by rw [hF];kernel_rfl) (st2xyz W2 v0 v1 cx cy cz (P0_b bC k0) k1 (qx.later bC) (qy.later bC) (qz.later bC) nxy nxz nyz (blw bT bC) (hSB _ _ bC hH)))
   exact AllReadyH.nil
  have st1xy:∀ (W:World) (v0:Value) (cx cy:Nat),P0 W v0→Vb w0F.heap.size z0V 29 W cx→Vb w0F.heap.size z0V 29 W cy→cx≠cy→Below w0F.heap.size w0F W→SS W→G 6 #[true,true,true,false,true,false,true,true,false,false,false,false] (F [(16,v0),(7,.pointer (some ⟨cx,0,none⟩)),(8,.pointer (some ⟨cy,0,none⟩))]) W:=by
   intro W v0 cx cy k0 qx qy nxy bT hH
   rw [hF]
   simp only [List.foldl_cons,List.foldl_nil,List.setIfInBounds_toArray,List.set_cons_zero,List.set_cons_succ]
   refine (hG _ _ _ _).2 ?_
   refine wpAnyH_ready (rs:=[3,8]) (by kernel_rfl) (by simp) ?_
   refine consT rfl (fun KK hKK=>?_) ?_
   ·go_simp
    refine (GC1 _ bT).mono ?_
    rintro e W2 ⟨v1,rfl,bC,k1⟩
    go_wp2_with fail
    refine hKK.out _ _ (hSB _ _ bC hH) ?_
    intro _
    try simp only [pP,pN,pS,pZ,pC]
    exact (hG _ _ _ _).1 (Geq (by kernel_rfl) (by kernel_rfl) (by rw [hF];kernel_rfl) (st2xy W2 v0 v1 cx cy (P0_b bC k0) k1 (qx.later bC) (qy.later bC) nxy (blw bT bC) (hSB _ _ bC hH)))
   refine consT rfl (fun KK hKK=>?_) ?_
   ·go_simp
    try rw [hz2V]
    refine hKK.out _ _ (hSB _ _ (b2V W) hH) ?_
    intro _
    try simp only [pP,pN,pS,pZ,pC]
    exact (hG _ _ _ _).1 (Geq (by kernel_rfl) (by kernel_rfl) (by rw [hF];kernel_rfl) (st1xyz _ v0 cx cy W.heap.size (P0_b (b2V W) k0) (qx.later (b2V W)) (qy.later (b2V W)) (Vb.new _ _ bT (Nat.le_refl _)) nxy (Nat.ne_of_lt qx.1.lt) (Nat.ne_of_lt qy.1.lt) (blw bT (b2V W)) (hSB _ _ (b2V W) hH)))
   exact AllReadyH.nil
  have st1xz:∀ (W:World) (v0:Value) (cx cz:Nat),P0 W v0→Vb w0F.heap.size z0V 29 W cx→Vb w0F.heap.size z2V 27 W cz→cx≠cz→Below w0F.heap.size w0F W→SS W→G 6 #[true,true,true,false,true,false,true,false,true,false,false,false] (F [(16,v0),(7,.pointer (some ⟨cx,0,none⟩)),(9,.pointer (some ⟨cz,0,none⟩))]) W:=by
   intro W v0 cx cz k0 qx qz nxz bT hH
   rw [hF]
   simp only [List.foldl_cons,List.foldl_nil,List.setIfInBounds_toArray,List.set_cons_zero,List.set_cons_succ]
   refine (hG _ _ _ _).2 ?_
   refine wpAnyH_ready (rs:=[3,7]) (by kernel_rfl) (by simp) ?_
   refine consT rfl (fun KK hKK=>?_) ?_
   ·go_simp
    refine (GC1 _ bT).mono ?_
    rintro e W2 ⟨v1,rfl,bC,k1⟩
    go_wp2_with fail
    refine hKK.out _ _ (hSB _ _ bC hH) ?_
    intro _
    try simp only [pP,pN,pS,pZ,pC]
    exact (hG _ _ _ _).1 (Geq (by kernel_rfl) (by kernel_rfl) (by rw [hF];kernel_rfl) (st2xz W2 v0 v1 cx cz (P0_b bC k0) k1 (qx.later bC) (qz.later bC) nxz (blw bT bC) (hSB _ _ bC hH)))
   refine consT rfl (fun KK hKK=>?_) ?_
   ·go_simp
    try rw [hz0V]
    refine hKK.out _ _ (hSB _ _ (b0V W) hH) ?_
    intro _
    try simp only [pP,pN,pS,pZ,pC]
    exact (hG _ _ _ _).1 (Geq (by kernel_rfl) (by kernel_rfl) (by rw [hF];kernel_rfl) (st1xyz _ v0 cx W.heap.size cz (P0_b (b0V W) k0) (qx.later (b0V W)) (Vb.new _ _ bT (Nat.le_refl _)) (qz.later (b0V W)) (Nat.ne_of_lt qx.1.lt) nxz (Nat.ne_of_gt qz.1.lt) (blw bT (b0V W)) (hSB _ _ (b0V W) hH)))
   exact AllReadyH.nil
  have st1yz:∀ (W:World) (v0:Value) (cy cz:Nat),P0 W v0→Vb w0F.heap.size z0V 29 W cy→Vb w0F.heap.size z2V 27 W cz→cy≠cz→Below w0F.heap.size w0F W→SS W→G 6 #[true,true,true,false,true,false,false,true,true,false,false,false] (F [(16,v0),(8,.pointer (some ⟨cy,0,none⟩)),(9,.pointer (some ⟨cz,0,none⟩))]) W:=by
   intro W v0 cy cz k0 qy qz nyz bT hH
   rw [hF]
   simp only [List.foldl_cons,List.foldl_nil,List.setIfInBounds_toArray,List.set_cons_zero,List.set_cons_succ]
   refine (hG _ _ _ _).2 ?_
   refine wpAnyH_ready (rs:=[3,6]) (by kernel_rfl) (by simp) ?_
   refine consT rfl (fun KK hKK=>?_) ?_
   ·go_simp
    refine (GC1 _ bT).mono ?_
    rintro e W2 ⟨v1,rfl,bC,k1⟩
    go_wp2_with fail
    refine hKK.out _ _ (hSB _ _ bC hH) ?_
    intro _
    try simp only [pP,pN,pS,pZ,pC]
    exact (hG _ _ _ _).1 (Geq (by kernel_rfl) (by kernel_rfl) (by rw [hF];kernel_rfl) (st2yz W2 v0 v1 cy cz (P0_b bC k0) k1 (qy.later bC) (qz.later bC) nyz (blw bT bC) (hSB _ _ bC hH)))
   refine consT rfl (fun KK hKK=>?_) ?_
   ·go_simp
    try rw [hz0V]
    refine hKK.out _ _ (hSB _ _ (b0V W) hH) ?_
    intro _
    try simp only [pP,pN,pS,pZ,pC]
    exact (hG _ _ _ _).1 (Geq (by kernel_rfl) (by kernel_rfl) (by rw [hF];kernel_rfl) (st1xyz _ v0 W.heap.size cy cz (P0_b (b0V W) k0) (Vb.new _ _ bT (Nat.le_refl _)) (qy.later (b0V W)) (qz.later (b0V W)) (Nat.ne_of_gt qy.1.lt) (Nat.ne_of_gt qz.1.lt) nyz (blw bT (b0V W)) (hSB _ _ (b0V W) hH)))
   exact AllReadyH.nil
  have st1x:∀ (W:World) (v0:Value) (cx:Nat),P0 W v0→Vb w0F.heap.size z0V 29 W cx→Below w0F.heap.size w0F W→SS W→G 7 #[true,true,true,false,true,false,true,false,false,false,false,false] (F [(16,v0),(7,.pointer (some ⟨cx,0,none⟩))]) W:=by
   intro W v0 cx k0 qx bT hH
   rw [hF]
   simp only [List.foldl_cons,List.foldl_nil,List.setIfInBounds_toArray,List.set_cons_zero,List.set_cons_succ]
   refine (hG _ _ _ _).2 ?_
   refine wpAnyH_ready (rs:=[3,7,8]) (by kernel_rfl) (by simp) ?_
   refine consT rfl (fun KK hKK=>?_) ?_
   ·go_simp
    refine (GC1 _ bT).mono ?_
    rintro e W2 ⟨v1,rfl,bC,k1⟩
    go_wp2_with fail
    refine hKK.out _ _ (hSB _ _ bC hH) ?_
    intro _
    try simp only [pP,pN,pS,pZ,pC]
    exact (hG _ _ _ _).1 (Geq (by kernel_rfl) (by kernel_rfl) (by rw [hF];kernel_rfl) (st2x W2 v0 v1 cx (P0_b bC k0) k1 (qx.later bC) (blw bT bC) (hSB _ _ bC hH)))
   refine consT rfl (fun KK hKK=>?_) ?_
   ·go_simp
    try rw [hz0V]
    refine hKK.out _ _ (hSB _ _ (b0V W) hH) ?_
    intro _
    try simp only [pP,pN,pS,pZ,pC]
    exact (hG _ _ _ _).1 (Geq (by kernel_rfl) (by kernel_rfl) (by rw [hF];kernel_rfl) (st1xy _ v0 cx W.heap.size (P0_b (b0V W) k0) (qx.later (b0V W)) (Vb.new _ _ bT (Nat.le_refl _)) (Nat.ne_of_lt qx.1.lt) (blw bT (b0V W)) (hSB _ _ (b0V W) hH)))
   refine consT rfl (fun KK hKK=>?_) ?_
   ·go_simp
    try rw [hz2V]
    refine hKK.out _ _ (hSB _ _ (b2V W) hH) ?_
    intro _
    try simp only [pP,pN,pS,pZ,pC]
    exact (hG _ _ _ _).1 (Geq (by kernel_rfl) (by kernel_rfl) (by rw [hF];kernel_rfl) (st1xz _ v0 cx W.heap.size (P0_b (b2V W) k0) (qx.later (b2V W)) (Vb.new _ _ bT (Nat.le_refl _)) (Nat.ne_of_lt qx.1.lt) (blw bT (b2V W)) (hSB _ _ (b2V W) hH)))
   exact AllReadyH.nil
  have st1y:∀ (W:World) (v0:Value) (cy:Nat),P0 W v0→Vb w0F.heap.size z0V 29 W cy→Below w0F.heap.size w0F W→SS W→G 7 #[true,true,true,false,true,false,false,true,false,false,false,false] (F [(16,v0),(8,.pointer (some ⟨cy,0,none⟩))]) W:=by
   intro W v0 cy k0 qy bT hH
   rw [hF]
   simp only [List.foldl_cons,List.foldl_nil,List.setIfInBounds_toArray,List.set_cons_zero,List.set_cons_succ]
   refine (hG _ _ _ _).2 ?_
   refine wpAnyH_ready (rs:=[3,6,8]) (by kernel_rfl) (by simp) ?_
   refine consT rfl (fun KK hKK=>?_) ?_
   ·go_simp
    refine (GC1 _ bT).mono ?_
    rintro e W2 ⟨v1,rfl,bC,k1⟩
    go_wp2_with fail
    refine hKK.out _ _ (hSB _ _ bC hH) ?_
    intro _
    try simp only [pP,pN,pS,pZ,pC]
    exact (hG _ _ _ _).1 (Geq (by kernel_rfl) (by kernel_rfl) (by rw [hF];kernel_rfl) (st2y W2 v0 v1 cy (P0_b bC k0) k1 (qy.later bC) (blw bT bC) (hSB _ _ bC hH)))
   refine consT rfl (fun KK hKK=>?_) ?_
   ·go_simp
    try rw [hz0V]
    refine hKK.out _ _ (hSB _ _ (b0V W) hH) ?_
    intro _
    try simp only [pP,pN,pS,pZ,pC]
    exact (hG _ _ _ _).1 (Geq (by kernel_rfl) (by kernel_rfl) (by rw [hF];kernel_rfl) (st1xy _ v0 W.heap.size cy (P0_b (b0V W) k0) (Vb.new _ _ bT (Nat.le_refl _)) (qy.later (b0V W)) (Nat.ne_of_gt qy.1.lt) (blw bT (b0V W)) (hSB _ _ (b0V W) hH)))
   refine consT rfl (fun KK hKK=>?_) ?_
   ·go_simp
    try rw [hz2V]
    refine hKK.out _ _ (hSB _ _ (b2V W) hH) ?_
    intro _
    try simp only [pP,pN,pS,pZ,pC]
    exact (hG _ _ _ _).1 (Geq (by kernel_rfl) (by kernel_rfl) (by rw [hF];kernel_rfl) (st1yz _ v0 cy W.heap.size (P0_b (b2V W) k0) (qy.later (b2V W)) (Vb.new _ _ bT (Nat.le_refl _)) (Nat.ne_of_lt qy.1.lt) (blw bT (b2V W)) (hSB _ _ (b2V W) hH)))
   exact AllReadyH.nil
  have st1z:∀ (W:World) (v0:Value) (cz:Nat),P0 W v0→Vb w0F.heap.size z2V 27 W cz→Below w0F.heap.size w0F W→SS W→G 7 #[true,true,true,false,true,false,false,false,true,false,false,false] (F [(16,v0),(9,.pointer (some ⟨cz,0,none⟩))]) W:=by
   intro W v0 cz k0 qz bT hH
   rw [hF]
   simp only [List.foldl_cons,List.foldl_nil,List.setIfInBounds_toArray,List.set_cons_zero,List.set_cons_succ]
   refine (hG _ _ _ _).2 ?_
   refine wpAnyH_ready (rs:=[3,6,7]) (by kernel_rfl) (by simp) ?_
   refine consT rfl (fun KK hKK=>?_) ?_
   ·go_simp
    refine (GC1 _ bT).mono ?_
    rintro e W2 ⟨v1,rfl,bC,k1⟩
    go_wp2_with fail
    refine hKK.out _ _ (hSB _ _ bC hH) ?_
    intro _
    try simp only [pP,pN,pS,pZ,pC]
    exact (hG _ _ _ _).1 (Geq (by kernel_rfl) (by kernel_rfl) (by rw [hF];kernel_rfl) (st2z W2 v0 v1 cz (P0_b bC k0) k1 (qz.later bC) (blw bT bC) (hSB _ _ bC hH)))
   refine consT rfl (fun KK hKK=>?_) ?_
   ·go_simp
    try rw [hz0V]
    refine hKK.out _ _ (hSB _ _ (b0V W) hH) ?_
    intro _
    try simp only [pP,pN,pS,pZ,pC]
    exact (hG _ _ _ _).1 (Geq (by kernel_rfl) (by kernel_rfl) (by rw [hF];kernel_rfl) (st1xz _ v0 W.heap.size cz (P0_b (b0V W) k0) (Vb.new _ _ bT (Nat.le_refl _)) (qz.later (b0V W)) (Nat.ne_of_gt qz.1.lt) (blw bT (b0V W)) (hSB _ _ (b0V W) hH)))
   refine consT rfl (fun KK hKK=>?_) ?_
   ·go_simp
    try rw [hz0V]
    refine hKK.out _ _ (hSB _ _ (b0V W) hH) ?_
    intro _
    try simp only [pP,pN,pS,pZ,pC]
    exact (hG _ _ _ _).1 (Geq (by kernel_rfl) (by kernel_rfl) (by rw [hF];kernel_rfl) (st1yz _ v0 W.heap.size cz (P0_b (b0V W) k0) (Vb.new _ _ bT (Nat.le_refl _)) (qz.later (b0V W)) (Nat.ne_of_gt qz.1.lt) (blw bT (b0V W)) (hSB _ _ (b0V W) hH)))
   exact AllReadyH.nil
  have st1:∀ (W:World) (v0:Value),P0 W v0→Below w0F.heap.size w0F W→SS W→G 8 #[true,true,true,false,true,false,false,false,false,false,false,false] (F [(16,v0)]) W:=by
   intro W v0 k0 bT hH
   rw [hF]
   simp only [List.foldl_cons,List.foldl_nil,List.setIfInBounds_toArray,List.set_cons_zero,List.set_cons_succ]
   refine (hG _ _ _ _).2 ?_
   refine wpAnyH_ready (rs:=[3,6,7,8]) (by kernel_rfl) (by simp) ?_
   refine consT rfl (fun KK hKK=>?_) ?_
   ·go_simp
    refine (GC1 _ bT).mono ?_
    rintro e W2 ⟨v1,rfl,bC,k1⟩
    go_wp2_with fail
    refine hKK.out _ _ (hSB _ _ bC hH) ?_
    intro _
    try simp only [pP,pN,pS,pZ,pC]
    exact (hG _ _ _ _).1 (Geq (by kernel_rfl) (by kernel_rfl) (by rw [hF];kernel_rfl) (st2 W2 v0 v1 (P0_b bC k0) k1 (blw bT bC) (hSB _ _ bC hH)))
   refine consT rfl (fun KK hKK=>?_) ?_
   ·go_simp
    try rw [hz0V]
    refine hKK.out _ _ (hSB _ _ (b0V W) hH) ?_
    intro _
    try simp only [pP,pN,pS,pZ,pC]
    exact (hG _ _ _ _).1 (Geq (by kernel_rfl) (by kernel_rfl) (by rw [hF];kernel_rfl) (st1x _ v0 W.heap.size (P0_b (b0V W) k0) (Vb.new _ _ bT (Nat.le_refl _)) (blw bT (b0V W)) (hSB _ _ (b0V W) hH)))
   refine consT rfl (fun KK hKK=>?_) ?_
   ·go_simp
    try rw [hz0V]
    refine hKK.out _ _ (hSB _ _ (b0V W) hH) ?_
    intro _
    try simp only [pP,pN,pS,pZ,pC]
    exact (hG _ _ _ _).1 (Geq (by kernel_rfl) (by kernel_rfl) (by rw [hF];kernel_rfl) (st1y _ v0 W.heap.size (P0_b (b0V W) k0) (Vb.new _ _ bT (Nat.le_refl _)) (blw bT (b0V W)) (hSB _ _ (b0V W) hH)))
   refine consT rfl (fun KK hKK=>?_) ?_
   ·go_simp
    try rw [hz2V]
    refine hKK.out _ _ (hSB _ _ (b2V W) hH) ?_
    intro _
    try simp only [pP,pN,pS,pZ,pC]
    exact (hG _ _ _ _).1 (Geq (by kernel_rfl) (by kernel_rfl) (by rw [hF];kernel_rfl) (st1z _ v0 W.heap.size (P0_b (b2V W) k0) (Vb.new _ _ bT (Nat.le_refl _)) (blw bT (b2V W)) (hSB _ _ (b2V W) hH)))
   exact AllReadyH.nil
  have st0xyz:∀ (W:World) (cx cy cz:Nat),Vb w0F.heap.size z0V 29 W cx→Vb w0F.heap.size z0V 29 W cy→Vb w0F.heap.size z2V 27 W cz→cx≠cy→cx≠cz→cy≠cz→Below w0F.heap.size w0F W→SS W→G 6 #[true,false,true,false,true,false,true,true,true,false,false,false] (F [(7,.pointer (some ⟨cx,0,none⟩)),(8,.pointer (some ⟨cy,0,none⟩)),(9,.pointer (some ⟨cz,0,none⟩))]) W:=by
   intro W cx cy cz qx qy qz nxy nxz nyz bT hH
   rw [hF]
   simp only [List.foldl_cons,List.foldl_nil,List.setIfInBounds_toArray,List.set_cons_zero,List.set_cons_succ]
   refine (hG _ _ _ _).2 ?_
   refine wpAnyH_ready (rs:=[1]) (by kernel_rfl) (by simp) ?_
   refine consT rfl (fun KK hKK=>?_) ?_
   ·go_simp
    refine (GC0 _ bT).mono ?_
    rintro e W2 ⟨v0,rfl,bC,k0⟩
    go_wp2_with fail
    refine hKK.out _ _ (hSB _ _ bC hH) ?_
    intro _
    try simp only [pP,pN,pS,pZ,pC]
    exact (hG _ _ _ _).1 (Geq (by kernel_rfl) (by kernel_rfl) (by rw [hF];kernel_rfl) (st1xyz W2 v0 cx cy cz k0 (qx.later bC) (qy.later bC) (qz.later bC) nxy nxz nyz (blw bT bC) (hSB _ _ bC hH)))
   exact AllReadyH.nil
  have st0xy:∀ (W:World) (cx cy:Nat),Vb w0F.heap.size z0V 29 W cx→Vb w0F.heap.size z0V 29 W cy→cx≠cy→Below w0F.heap.size w0F W→SS W→G 7 #[true,false,true,false,true,false,true,true,false,false,false,false] (F [(7,.pointer (some ⟨cx,0,none⟩)),(8,.pointer (some ⟨cy,0,none⟩))]) W:=by
   intro W cx cy qx qy nxy bT hH
   rw [hF]
   simp only [List.foldl_cons,List.foldl_nil,List.setIfInBounds_toArray,List.set_cons_zero,List.set_cons_succ]
   refine (hG _ _ _ _).2 ?_
   refine wpAnyH_ready (rs:=[1,8]) (by kernel_rfl) (by simp) ?_
   refine consT rfl (fun KK hKK=>?_) ?_
   ·go_simp
    refine (GC0 _ bT).mono ?_
    rintro e W2 ⟨v0,rfl,bC,k0⟩
    go_wp2_with fail
    refine hKK.out _ _ (hSB _ _ bC hH) ?_
    intro _
    try simp only [pP,pN,pS,pZ,pC]
    exact (hG _ _ _ _).1 (Geq (by kernel_rfl) (by kernel_rfl) (by rw [hF];kernel_rfl) (st1xy W2 v0 cx cy k0 (qx.later bC) (qy.later bC) nxy (blw bT bC) (hSB _ _ bC hH)))
   refine consT rfl (fun KK hKK=>?_) ?_
   ·go_simp
    try rw [hz2V]
    refine hKK.out _ _ (hSB _ _ (b2V W) hH) ?_
    intro _
    try simp only [pP,pN,pS,pZ,pC]
    exact (hG _ _ _ _).1 (Geq (by kernel_rfl) (by kernel_rfl) (by rw [hF];kernel_rfl) (st0xyz _ cx cy W.heap.size (qx.later (b2V W)) (qy.later (b2V W)) (Vb.new _ _ bT (Nat.le_refl _)) nxy (Nat.ne_of_lt qx.1.lt) (Nat.ne_of_lt qy.1.lt) (blw bT (b2V W)) (hSB _ _ (b2V W) hH)))
   exact AllReadyH.nil
  have st0xz:∀ (W:World) (cx cz:Nat),Vb w0F.heap.size z0V 29 W cx→Vb w0F.heap.size z2V 27 W cz→cx≠cz→Below w0F.heap.size w0F W→SS W→G 7 #[true,false,true,false,true,false,true,false,true,false,false,false] (F [(7,.pointer (some ⟨cx,0,none⟩)),(9,.pointer (some ⟨cz,0,none⟩))]) W:=by
   intro W cx cz qx qz nxz bT hH
   rw [hF]
   simp only [List.foldl_cons,List.foldl_nil,List.setIfInBounds_toArray,List.set_cons_zero,List.set_cons_succ]
   refine (hG _ _ _ _).2 ?_
   refine wpAnyH_ready (rs:=[1,7]) (by kernel_rfl) (by simp) ?_
   refine consT rfl (fun KK hKK=>?_) ?_
   ·go_simp
    refine (GC0 _ bT).mono ?_
    rintro e W2 ⟨v0,rfl,bC,k0⟩
    go_wp2_with fail
    refine hKK.out _ _ (hSB _ _ bC hH) ?_
    intro _
    try simp only [pP,pN,pS,pZ,pC]
    exact (hG _ _ _ _).1 (Geq (by kernel_rfl) (by kernel_rfl) (by rw [hF];kernel_rfl) (st1xz W2 v0 cx cz k0 (qx.later bC) (qz.later bC) nxz (blw bT bC) (hSB _ _ bC hH)))
   refine consT rfl (fun KK hKK=>?_) ?_
   ·go_simp
    try rw [hz0V]
    refine hKK.out _ _ (hSB _ _ (b0V W) hH) ?_
    intro _
    try simp only [pP,pN,pS,pZ,pC]
    exact (hG _ _ _ _).1 (Geq (by kernel_rfl) (by kernel_rfl) (by rw [hF];kernel_rfl) (st0xyz _ cx W.heap.size cz (qx.later (b0V W)) (Vb.new _ _ bT (Nat.le_refl _)) (qz.later (b0V W)) (Nat.ne_of_lt qx.1.lt) nxz (Nat.ne_of_gt qz.1.lt) (blw bT (b0V W)) (hSB _ _ (b0V W) hH)))
   exact AllReadyH.nil
  have st0yz:∀ (W:World) (cy cz:Nat),Vb w0F.heap.size z0V 29 W cy→Vb w0F.heap.size z2V 27 W cz→cy≠cz→Below w0F.heap.size w0F W→SS W→G 7 #[true,false,true,false,true,false,false,true,true,false,false,false] (F [(8,.pointer (some ⟨cy,0,none⟩)),(9,.pointer (some ⟨cz,0,none⟩))]) W:=by
   intro W cy cz qy qz nyz bT hH
   rw [hF]
   simp only [List.foldl_cons,List.foldl_nil,List.setIfInBounds_toArray,List.set_cons_zero,List.set_cons_succ]
   refine (hG _ _ _ _).2 ?_
   refine wpAnyH_ready (rs:=[1,6]) (by kernel_rfl) (by simp) ?_
   refine consT rfl (fun KK hKK=>?_) ?_
   ·go_simp
    refine (GC0 _ bT).mono ?_
    rintro e W2 ⟨v0,rfl,bC,k0⟩
    go_wp2_with fail
    refine hKK.out _ _ (hSB _ _ bC hH) ?_
    intro _
    try simp only [pP,pN,pS,pZ,pC]
    exact (hG _ _ _ _).1 (Geq (by kernel_rfl) (by kernel_rfl) (by rw [hF];kernel_rfl) (st1yz W2 v0 cy cz k0 (qy.later bC) (qz.later bC) nyz (blw bT bC) (hSB _ _ bC hH)))
   refine consT rfl (fun KK hKK=>?_) ?_
   ·go_simp
    try rw [hz0V]
    refine hKK.out _ _ (hSB _ _ (b0V W) hH) ?_
    intro _
    try simp only [pP,pN,pS,pZ,pC]
    exact (hG _ _ _ _).1 (Geq (by kernel_rfl) (by kernel_rfl) (by rw [hF];kernel_rfl) (st0xyz _ W.heap.size cy cz (Vb.new _ _ bT (Nat.le_refl _)) (qy.later (b0V W)) (qz.later (b0V W)) (Nat.ne_of_gt qy.1.lt) (Nat.ne_of_gt qz.1.lt) nyz (blw bT (b0V W)) (hSB _ _ (b0V W) hH)))
   exact AllReadyH.nil
  have st0x:∀ (W:World) (cx:Nat),Vb w0F.heap.size z0V 29 W cx→Below w0F.heap.size w0F W→SS W→G 8 #[true,false,true,false,true,false,true,false,false,false,false,false] (F [(7,.pointer (some ⟨cx,0,none⟩))]) W:=by
   intro W cx qx bT hH
   rw [hF]
   simp only [List.foldl_cons,List.foldl_nil,List.setIfInBounds_toArray,List.set_cons_zero,List.set_cons_succ]
   refine (hG _ _ _ _).2 ?_
   refine wpAnyH_ready (rs:=[1,7,8]) (by kernel_rfl) (by simp) ?_
   refine consT rfl (fun KK hKK=>?_) ?_
   ·go_simp
    refine (GC0 _ bT).mono ?_
    rintro e W2 ⟨v0,rfl,bC,k0⟩
    go_wp2_with fail
    refine hKK.out _ _ (hSB _ _ bC hH) ?_
    intro _
    try simp only [pP,pN,pS,pZ,pC]
    exact (hG _ _ _ _).1 (Geq (by kernel_rfl) (by kernel_rfl) (by rw [hF];kernel_rfl) (st1x W2 v0 cx k0 (qx.later bC) (blw bT bC) (hSB _ _ bC hH)))
   refine consT rfl (fun KK hKK=>?_) ?_
   ·go_simp
    try rw [hz0V]
    refine hKK.out _ _ (hSB _ _ (b0V W) hH) ?_
    intro _
    try simp only [pP,pN,pS,pZ,pC]
    exact (hG _ _ _ _).1 (Geq (by kernel_rfl) (by kernel_rfl) (by rw [hF];kernel_rfl) (st0xy _ cx W.heap.size (qx.later (b0V W)) (Vb.new _ _ bT (Nat.le_refl _)) (Nat.ne_of_lt qx.1.lt) (blw bT (b0V W)) (hSB _ _ (b0V W) hH)))
   refine consT rfl (fun KK hKK=>?_) ?_
   ·go_simp
    try rw [hz2V]
    refine hKK.out _ _ (hSB _ _ (b2V W) hH) ?_
    intro _
    try simp only [pP,pN,pS,pZ,pC]
    exact (hG _ _ _ _).1 (Geq (by kernel_rfl) (by kernel_rfl) (by rw [hF];kernel_rfl) (st0xz _ cx W.heap.size (qx.later (b2V W)) (Vb.new _ _ bT (Nat.le_refl _)) (Nat.ne_of_lt qx.1.lt) (blw bT (b2V W)) (hSB _ _ (b2V W) hH)))
   exact AllReadyH.nil
  have st0y:∀ (W:World) (cy:Nat),Vb w0F.heap.size z0V 29 W cy→Below w0F.heap.size w0F W→SS W→G 8 #[true,false,true,false,true,false,false,true,false,false,false,false] (F [(8,.pointer (some ⟨cy,0,none⟩))]) W:=by
   intro W cy qy bT hH
   rw [hF]
   simp only [List.foldl_cons,List.foldl_nil,List.setIfInBounds_toArray,List.set_cons_zero,List.set_cons_succ]
   refine (hG _ _ _ _).2 ?_
   refine wpAnyH_ready (rs:=[1,6,8]) (by kernel_rfl) (by simp) ?_
   refine consT rfl (fun KK hKK=>?_) ?_
   ·go_simp
    refine (GC0 _ bT).mono ?_
    rintro e W2 ⟨v0,rfl,bC,k0⟩
    go_wp2_with fail
    refine hKK.out _ _ (hSB _ _ bC hH) ?_
    intro _
    try simp only [pP,pN,pS,pZ,pC]
    exact (hG _ _ _ _).1 (Geq (by kernel_rfl) (by kernel_rfl) (by rw [hF];kernel_rfl) (st1y W2 v0 cy k0 (qy.later bC) (blw bT bC) (hSB _ _ bC hH)))
   refine consT rfl (fun KK hKK=>?_) ?_
   ·go_simp
    try rw [hz0V]
    refine hKK.out _ _ (hSB _ _ (b0V W) hH) ?_
    intro _
    try simp only [pP,pN,pS,pZ,pC]
    exact (hG _ _ _ _).1 (Geq (by kernel_rfl) (by kernel_rfl) (by rw [hF];kernel_rfl) (st0xy _ W.heap.size cy (Vb.new _ _ bT (Nat.le_refl _)) (qy.later (b0V W)) (Nat.ne_of_gt qy.1.lt) (blw bT (b0V W)) (hSB _ _ (b0V W) hH)))
   refine consT rfl (fun KK hKK=>?_) ?_
   ·go_simp
    try rw [hz2V]
    refine hKK.out _ _ (hSB _ _ (b2V W) hH) ?_
    intro _
    try simp only [pP,pN,pS,pZ,pC]
    exact (hG _ _ _ _).1 (Geq (by kernel_rfl) (by kernel_rfl) (by rw [hF];kernel_rfl) (st0yz _ cy W.heap.size (qy.later (b2V W)) (Vb.new _ _ bT (Nat.le_refl _)) (Nat.ne_of_lt qy.1.lt) (blw bT (b2V W)) (hSB _ _ (b2V W) hH)))
   exact AllReadyH.nil
  have st0z:∀ (W:World) (cz:Nat),Vb w0F.heap.size z2V 27 W cz→Below w0F.heap.size w0F W→SS W→G 8 #[true,false,true,false,true,false,false,false,true,false,false,false] (F [(9,.pointer (some ⟨cz,0,none⟩))]) W:=by
   intro W cz qz bT hH
   rw [hF]
   simp only [List.foldl_cons,List.foldl_nil,List.setIfInBounds_toArray,List.set_cons_zero,List.set_cons_succ]
   refine (hG _ _ _ _).2 ?_
   refine wpAnyH_ready (rs:=[1,6,7]) (by kernel_rfl) (by simp) ?_
   refine consT rfl (fun KK hKK=>?_) ?_
   ·go_simp
    refine (GC0 _ bT).mono ?_
    rintro e W2 ⟨v0,rfl,bC,k0⟩
    go_wp2_with fail
    refine hKK.out _ _ (hSB _ _ bC hH) ?_
    intro _
    try simp only [pP,pN,pS,pZ,pC]
    exact (hG _ _ _ _).1 (Geq (by kernel_rfl) (by kernel_rfl) (by rw [hF];kernel_rfl) (st1z W2 v0 cz k0 (qz.later bC) (blw bT bC) (hSB _ _ bC hH)))
   refine consT rfl (fun KK hKK=>?_) ?_
   ·go_simp
    try rw [hz0V]
    refine hKK.out _ _ (hSB _ _ (b0V W) hH) ?_
    intro _
    try simp only [pP,pN,pS,pZ,pC]
    exact (hG _ _ _ _).1 (Geq (by kernel_rfl) (by kernel_rfl) (by rw [hF];kernel_rfl) (st0xz _ W.heap.size cz (Vb.new _ _ bT (Nat.le_refl _)) (qz.later (b0V W)) (Nat.ne_of_gt qz.1.lt) (blw bT (b0V W)) (hSB _ _ (b0V W) hH)))
   refine consT rfl (fun KK hKK=>?_) ?_
   ·go_simp
    try rw [hz0V]
    refine hKK.out _ _ (hSB _ _ (b0V W) hH) ?_
    intro _
    try simp only [pP,pN,pS,pZ,pC]
    exact (hG _ _ _ _).1 (Geq (by kernel_rfl) (by kernel_rfl) (by rw [hF];kernel_rfl) (st0yz _ W.heap.size cz (Vb.new _ _ bT (Nat.le_refl _)) (qz.later (b0V W)) (Nat.ne_of_gt qz.1.lt) (blw bT (b0V W)) (hSB _ _ (b0V W) hH)))
   exact AllReadyH.nil
  have st0:∀ (W:World),Below w0F.heap.size w0F W→SS W→G 9 #[true,false,true,false,true,false,false,false,false,false,false,false] (F []) W:=by
   intro W bT hH
   rw [hF]
   simp only [List.foldl_cons,List.foldl_nil,List.setIfInBounds_toArray,List.set_cons_zero,List.set_cons_succ]
   refine (hG _ _ _ _).2 ?_
   refine wpAnyH_ready (rs:=[1,6,7,8]) (by kernel_rfl) (by simp) ?_
   refine consT rfl (fun KK hKK=>?_) ?_
   ·go_simp
    refine (GC0 _ bT).mono ?_
    rintro e W2 ⟨v0,rfl,bC,k0⟩
    go_wp2_with fail
    refine hKK.out _ _ (hSB _ _ bC hH) ?_
    intro _
    try simp only [pP,pN,pS,pZ,pC]
    exact (hG _ _ _ _).1 (Geq (by kernel_rfl) (by kernel_rfl) (by rw [hF];kernel_rfl) (st1 W2 v0 k0 (blw bT bC) (hSB _ _ bC hH)))
   refine consT rfl (fun KK hKK=>?_) ?_
   ·go_simp
    try rw [hz0V]
    refine hKK.out _ _ (hSB _ _ (b0V W) hH) ?_
    intro _
    try simp only [pP,pN,pS,pZ,pC]
    exact (hG _ _ _ _).1 (Geq (by kernel_rfl) (by kernel_rfl) (by rw [hF];kernel_rfl) (st0x _ W.heap.size (Vb.new _ _ bT (Nat.le_refl _)) (blw bT (b0V W)) (hSB _ _ (b0V W) hH)))
   refine consT rfl (fun KK hKK=>?_) ?_
   ·go_simp
    try rw [hz0V]
    refine hKK.out _ _ (hSB _ _ (b0V W) hH) ?_
    intro _
    try simp only [pP,pN,pS,pZ,pC]
    exact (hG _ _ _ _).1 (Geq (by kernel_rfl) (by kernel_rfl) (by rw [hF];kernel_rfl) (st0y _ W.heap.size (Vb.new _ _ bT (Nat.le_refl _)) (blw bT (b0V W)) (hSB _ _ (b0V W) hH)))
   refine consT rfl (fun KK hKK=>?_) ?_
   ·go_simp
    try rw [hz2V]
    refine hKK.out _ _ (hSB _ _ (b2V W) hH) ?_
    intro _
    try simp only [pP,pN,pS,pZ,pC]
    exact (hG _ _ _ _).1 (Geq (by kernel_rfl) (by kernel_rfl) (by rw [hF];kernel_rfl) (st0z _ W.heap.size (Vb.new _ _ bT (Nat.le_refl _)) (blw bT (b2V W)) (hSB _ _ (b2V W) hH)))
   exact AllReadyH.nil
  exact Geq (by kernel_rfl) (by kernel_rfl) (by rw [hF];kernel_rfl) (st0 _ bZ hHeld)
 case rest =>
  obtain ⟨wc1,cx,cy,cz,p0,q0,r0,t0,p1,q1,r1,t1,p2,q2,hwv,rfl,rfl,rfl,qx,qy,qz,hX,bT⟩:=hcut
  subst hwv
  replace hI:=hI.later bT
  replace qa:=qa.later bT
  replace qb:=qb.later bT
  replace qc:=qc.later bT
  replace GD:=hide' (GD.out.below bT)
  replace bel:=bel.trans (bT.mono bel.size)
  clear bT
  clear GT0 GT1 GT2 hbs
  have qa_0:=qa.cell 0
  have qa_1:=qa.cell 1
  have qa_2:=qa.cell 2
  have qa_3:=qa.cell 3
  have qa_4:=qa.cell 4
  have qa_5:=qa.cell 5
  have qb_0:=qb.cell 0
  have qb_1:=qb.cell 1
  have qb_2:=qb.cell 2
  have qb_3:=qb.cell 3
  have qb_4:=qb.cell 4
  have qb_5:=qb.cell 5
  have qc_0:=qc.cell 0
  have qc_1:=qc.cell 1
  have qc_2:=qc.cell 2
  simp only [List.getElem?_toArray,List.getElem?_cons_zero,List.getElem?_cons_succ] at qa_0 qa_1 qa_2 qa_3 qa_4 qa_5 qb_0 qb_1 qb_2 qb_3 qb_4 qb_5 qc_0 qc_1 qc_2
  go_wp2_with fail
  clear qa_0 qa_1 qa_2 qa_3 qa_4 qa_5 qb_0 qb_1 qb_2 qb_3 qb_4 qb_5 qc_0 qc_1 qc_2
  refine (GW.out _ hI).mono ?_
  rintro e wL ⟨bm,Q,rfl,b2,hWt⟩
  have bb:=b2
  replace hI:=hI.later bb
  replace qa:=qa.later bb
  replace qb:=qb.later bb
  replace qc:=qc.later bb
  replace hX:=hX.later bb
  replace qx:=qx.later bb
  replace qy:=qy.later bb
  replace qz:=qz.later bb
  replace GD:=hide' (GD.out.below bb)
  replace bel:=bel.trans (bb.mono bel.size)
  clear bb
  clear b2
  clear GW
  go_wp2_with fail
  go_loopw [11] (fun vi wI=>∃ k:Nat,k≤2∧vi=.int .i64 k∧Below wL.heap.size wL wI) (fun vi _=>2 - (intOf vi).toNat)
  case atStart=>exact ⟨0,by omega,rfl,Below.refl _ _⟩
  case round =>
   obtain ⟨k,hk,rfl,hB⟩:=hrel
   obtain ⟨wI,hwI⟩:∃ wI,wr=wI:=⟨_,rfl⟩
   rw [hwI] at hB ⊢
   clear hwI
   by_cases hlt:k < 2
   ·have k2:((k:Int) < 2):=by omega
    replace hI:=hI.later hB
    replace qa:=qa.later hB
    replace qb:=qb.later hB
    replace qc:=qc.later hB
    replace hX:=hX.later hB
    replace qx:=qx.later hB
    replace qy:=qy.later hB
    replace qz:=qz.later hB
    replace hWt:=hWt.later hB
    replace GD:=hide' (GD.out.below hB)
    have qx_0:=qx.cell 0
    have qx_1:=qx.cell 1
    have qx_2:=qx.cell 2
    have qx_3:=qx.cell 3
    have qx_4:=qx.cell 4
    have qx_5:=qx.cell 5
    have qy_0:=qy.cell 0
    have qy_1:=qy.cell 1
    have qy_2:=qy.cell 2
    have qy_3:=qy.cell 3
    have qy_4:=qy.cell 4
    have qy_5:=qy.cell 5
    have qz_0:=qz.cell 0
    have qz_1:=qz.cell 1
    have qz_2:=qz.cell 2
    simp only [List.getElem?_toArray,List.getElem?_cons_zero,List.getElem?_cons_succ] at qx_0 qx_1 qx_2 qx_3 qx_4 qx_5 qy_0 qy_1 qy_2 qy_3 qy_4 qy_5 qz_0 qz_1 qz_2
    go_wp2_with fail
    clear qx_0 qx_1 qx_2 qx_3 qx_4 qx_5 qy_0 qy_1 qy_2 qy_3 qy_4 qy_5 qz_0 qz_1 qz_2
    refine (GA.out _ p0 q0 r0 t0 p1 q1 r1 t1 p2 q2 hX).mono ?_
    rintro e w4 ⟨bl,P,rfl,b4,hR,hL⟩
    obtain ⟨xs,hxs⟩:∃ xs,xs7 N P=xs:=⟨_,rfl⟩
    rw [hxs] at hL
    have HN:=hide' (show ∀ i,i < 28→NA xs i≤1073741824 from hxs ▸ xs7_small HSM.out)
    have HX:=hide' (show xs.length=28 from hxs ▸ xs7_len N P)
    have HP:=hide' (fun (i:Nat) (hi:i < 7)=>row7_step N P hi)
    rw [hxs] at HP
    clear hxs
    have HR:=hide' hR
    have HL:=hide' hL
    have hbl:=hide' (World.block_lt_of_cell? _ _ (hR 0 (by omega)).1.1)
    clear hR hL
    go_wp2_with fail
    refine (lives_is _ (GD.out.below b4)).mono ?_
    rintro e w5 ⟨rfl,b5⟩
    go_wp2_with fail
    have hO0:(w5.alloc (.cells #[] 22)).ownsRow w5.heap.size 22 1 (.slice (some ⟨w5.heap.size,0,none⟩) 0 0) 0 []:=World.ownsRow_made w5 #[] 0 (Nat.le_refl _) (by simp only [maxLen];omega) (by simp)
    have b6:=below_alloc (w:=w5) (.cells #[] 22)
    have HR5:=hide' (HR.out.later b5)
    have HW5:=hide' ((hWt.later b4).later b5)
    go_loopw [13,14] (fun vo vi wr=>∃ i:Nat,i≤7∧vi=.int .i64 i∧wr.ownsRow w5.heap.size 22 1 vo (4*i) (rowV (PA xs) (NA xs) (4*i))∧Below w5.heap.size w5 wr) (fun _ vi _=>7 - (intOf vi).toNat)
    case atStart=>exact ⟨0,by omega,rfl,hO0,b6⟩
    case round =>
     clear hO0 b6
     obtain ⟨i,hi,rfl,hO,hB6⟩:=hrel
     by_cases hi7:i < 7
     ·have i2:((i:Int) < 7):=by omega
      have i1:(0:Int)≤(i:Int):=by omega
      have dR:=(HR5.out i hi7).later hB6
      have dW:=(HW5.out i hi7).later hB6
      have hs:=HSM.out i hi7
      have hrow:=HP.out i hi7
      unfold DRi at dR dW
      obtain ⟨Z,hZ⟩:∃ x,N.Z i=x:=⟨_,rfl⟩
      obtain ⟨V,hV⟩:∃ x,N.V i=x:=⟨_,rfl⟩
      obtain ⟨Y,hY⟩:∃ x,N.W i=x:=⟨_,rfl⟩
      obtain ⟨U,hU⟩:∃ x,N.U i=x:=⟨_,rfl⟩
      obtain ⟨p,hp⟩:∃ x,P.p i=x:=⟨_,rfl⟩
      obtain ⟨q,hq⟩:∃ x,P.q i=x:=⟨_,rfl⟩
      obtain ⟨r,hr⟩:∃ x,P.r i=x:=⟨_,rfl⟩
      obtain ⟨t,ht⟩:∃ x,P.t i=x:=⟨_,rfl⟩
      obtain ⟨p9,hp9⟩:∃ x,Q.p i=x:=⟨_,rfl⟩
      obtain ⟨q9,hq9⟩:∃ x,Q.q i=x:=⟨_,rfl⟩
      obtain ⟨r9,hr9⟩:∃ x,Q.r i=x:=⟨_,rfl⟩
      obtain ⟨t9,ht9⟩:∃ x,Q.t i=x:=⟨_,rfl⟩
      rw [hZ,hV,hY,hU,hp,hq,hr,ht] at dR
      rw [hZ,hV,hY,hU,hp9,hq9,hr9,ht9] at dW
      rw [hZ,hV,hY,hU] at hs
      have HB4:=hide' (show ∀ j,j < 4→[Value.slice p (ln (am Z)) (ln (am Z)),.slice q (ln V) (ln V),.slice r (ln (am Y)) (ln (am Y)),.slice t (ln U) (ln U)][j]?=some (.slice (B4 N P i j) (M4 N i j) (M4 N i j)) from fun j hj=>by
       unfold B4 M4
       rw [hZ,hV,hY,hU,hp,hq,hr,ht]
       match j,hj with
       | 0,_=>rfl
       | 1,_=>rfl
       | 2,_=>rfl
       | 3,_=>rfl)
      replace hrow:=hide' hrow
      clear hZ hV hY hU hp hq hr ht hp9 hq9 hr9 ht9
      obtain ⟨⟨c0,c1,c2,c3,c4,c5⟩,s1,s2,s3,s4⟩:=dR
      obtain ⟨⟨e0,e1,e2,e3,e4,e5⟩,u1,u2,u3,u4⟩:=dW
      obtain ⟨z1,z2,z3,z4⟩:=hs
      have GS:=hide' (fun w' k1 k2 k3 k4 k5 k6 k7 k8=>dsame_is Z V Y U p q r t p9 q9 r9 t9 w' (by omega) (by omega) (by omega) (by omega) k1 k2 k3 k4 k5 k6 k7 k8)
      have HO:=hide' hO
      clear hO
      go_wp2_with fail
      have bN:Below wr.heap.size wr wr:=Below.refl _ _
      have bD:Below wr.heap.size wr wr.drew:=(Below.refl _ _).drew
      have kc0:=below_cell bD c0
      have kc1:=below_cell bD c1
      have kc2:=below_cell bD c2
      have kc3:=below_cell bD c3
      have kc4:=below_cell bD c4
      have kc5:=below_cell bD c5
      have ke0:=below_cell bD e0
      have ke1:=below_cell bD e1
      have ke2:=below_cell bD e2
      have ke3:=below_cell bD e3
      have ke4:=below_cell bD e4
      have ke5:=below_cell bD e5
      replace hB6:=hB6.trans (bD.mono hB6.size)
      replace bN:=bN.trans (bD.mono bN.size)
      replace s1:=s1.later bD
      replace s2:=s2.later bD
      replace s3:=s3.later bD
      replace s4:=s4.later bD
      replace u1:=u1.later bD
      replace u2:=u2.later bD
      replace u3:=u3.later bD
      replace u4:=u4.later bD
      refine wp_region_held_drew (S:=fun w'=>w'.cell? ⟨bl,i*6,none⟩=some (.bool (ng Z))∧w'.cell? ⟨bl,i*6+1,none⟩=some (.slice p (ln (am Z)) (ln (am Z)))∧w'.cell? ⟨bl,i*6+2,none⟩=some (.slice q (ln V) (ln V))∧w'.cell? ⟨bl,i*6+3,none⟩=some (.bool (ng Y))∧w'.cell? ⟨bl,i*6+4,none⟩=some (.slice r (ln (am Y)) (ln (am Y)))∧w'.cell? ⟨bl,i*6+5,none⟩=some (.slice t (ln U) (ln U))∧w'.cell? ⟨bm,i*6,none⟩=some (.bool (ng Z))∧w'.cell? ⟨bm,i*6+1,none⟩=some (.slice p9 (ln (am Z)) (ln (am Z)))∧w'.cell? ⟨bm,i*6+2,none⟩=some (.slice q9 (ln V) (ln V))∧w'.cell? ⟨bm,i*6+3,none⟩=some (.bool (ng Y))∧w'.cell? ⟨bm,i*6+4,none⟩=some (.slice r9 (ln (am Y)) (ln (am Y)))∧w'.cell? ⟨bm,i*6+5,none⟩=some (.slice t9 (ln U) (ln U))) (by kernel_rfl) ⟨kc0,kc1,kc2,kc3,kc4,kc5,ke0,ke1,ke2,ke3,ke4,ke5⟩ (fun hHeld=>?_)
      clear kc0 kc1 kc2 kc3 kc4 kc5 ke0 ke1 ke2 ke3 ke4 ke5
      generalize wr.drew=wF at bD s1 s2 s3 s4 u1 u2 u3 u4 hB6 bN hHeld ⊢
      clear bD c0 c1 c2 c3 c4 c5 e0 e1 e2 e3 e4 e5
      refine tk 0 (v:=?_) rfl (Or.inl ⟨by rfl,?_⟩) ?_
      rotate_left
      ·intro w9 hSw
       go_simp
       first | done | with_reducible rfl
      simp only [pP,pN,pS,pZ,pC]
      refine tk 1 (v:=?_) rfl (Or.inl ⟨by rfl,?_⟩) ?_
      rotate_left
      ·intro w9 hSw
       go_simp
       first | done | with_reducible rfl
      simp only [pP,pN,pS,pZ,pC]
      refine tk 2 (v:=?_) rfl (Or.inl ⟨by rfl,?_⟩) ?_
      rotate_left
      ·intro w9 hSw
       go_simp
       first | done | with_reducible rfl
      simp only [pP,pN,pS,pZ,pC]
      refine tk 3 (v:=?_) rfl (Or.inl ⟨by rfl,?_⟩) ?_
      rotate_left
      ·intro w9 hSw
       go_simp
       first | done | with_reducible rfl
      simp only [pP,pN,pS,pZ,pC]
      refine tk 4 (v:=?_) rfl (Or.inl ⟨by rfl,?_⟩) ?_
      rotate_left
      ·intro w9 hSw
       go_simp
       first | done | with_reducible rfl
      simp only [pP,pN,pS,pZ,pC]
      refine tk 5 (v:=?_) rfl (Or.inl ⟨by rfl,?_⟩) ?_
      rotate_left
      ·intro w9 hSw
       go_simp
       first | done | with_reducible rfl
      simp only [pP,pN,pS,pZ,pC]
      refine tk 6 (v:=?_) rfl (Or.inl ⟨by rfl,?_⟩) ?_
      rotate_left
      ·intro w9 hSw
       go_simp
       first | done | with_reducible rfl
      simp only [pP,pN,pS,pZ,pC]
      refine tk 7 (v:=?_) rfl (Or.inl ⟨by rfl,?_⟩) ?_
      rotate_left
      ·intro w9 hSw
       go_simp
       first | done | with_reducible rfl
      simp only [pP,pN,pS,pZ,pC]
      refine wpAnyH_ready (rs:=[8]) (by kernel_rfl) (by simp) ?_
      refine cons' rfl (fun KK hKK=>?_)
      go_simp
      refine (GS.out _ s1 s2 s3 s4 u1 u2 u3 u4).mono ?_
      rintro e w7 ⟨rfl,d7⟩
      have bC:=d7
      replace hB6:=hB6.trans (bC.mono hB6.size)
      replace bN:=bN.trans (bC.mono bN.size)
      replace s1:=s1.later bC
      replace s2:=s2.later bC
      replace s3:=s3.later bC
      replace s4:=s4.later bC
      replace u1:=u1.later bC
      replace u2:=u2.later bC
      replace u3:=u3.later bC
      replace u4:=u4.later bC
      replace hHeld:=(⟨below_cell bC hHeld.1,below_cell bC hHeld.2.1,below_cell bC hHeld.2.2.1,below_cell bC hHeld.2.2.2.1,below_cell bC hHeld.2.2.2.2.1,below_cell bC hHeld.2.2.2.2.2.1,below_cell bC hHeld.2.2.2.2.2.2.1,below_cell bC hHeld.2.2.2.2.2.2.2.1,below_cell bC hHeld.2.2.2.2.2.2.2.2.1,below_cell bC hHeld.2.2.2.2.2.2.2.2.2.1,below_cell bC hHeld.2.2.2.2.2.2.2.2.2.2.1,below_cell bC hHeld.2.2.2.2.2.2.2.2.2.2.2⟩:_∧_∧_∧_∧_∧_∧_∧_∧_∧_∧_∧_)
      clear bC
      go_wp2_with fail
      clear d7
      refine hKK.out _ _ hHeld ?_
      clear hHeld
      intro hHeld
      clear hKK KK
      try simp only [pP,pN,pS,pZ,pC]
      refine tk 9 (v:=?_) rfl (Or.inl ⟨by rfl,?_⟩) ?_
      rotate_left
      ·intro w9 hSw
       go_simp
       first | done | with_reducible rfl
      simp only [pP,pN,pS,pZ,pC]
      refine wpAnyH_done (by kernel_rfl) ?_ _
      obtain ⟨c0,c1,c2,c3,c4,c5,_⟩:=hHeld
      go_wp2_with fail
      refine (OfDelta_is (ng Z) (ng Y) p q r t (ln (am Z)) (ln (am Z)) (ln V) (ln V) (ln (am Y)) (ln (am Y)) (ln U) (ln U) _).mono ?_
      rintro e w8 ⟨g9,rfl,hge,qL,b8⟩
      have hO7:=own_belowO HO.out bN
      have hO8:=own_belowO hO7 b8
      have hne:=hide' (show u13.ownBlock≠some g9 from fun e=>by have h:=(hO7.lt _ e).2;omega)
      have hc4:=hide' (show ∀ j,j < 4→w8.cell? ⟨g9,j,none⟩=some (.slice (B4 N P i j) (M4 N i j) (M4 N i j)) from fun j hj=>by rw [qL.cell j,List.getElem?_toArray];exact HB4.out j hj)
      have GB:=hide' (both_is w5.heap.size g9 4 4 (4*i) u13 (rowV (PA xs) (NA xs) (4*i)) (B4 N P i) (M4 N i) w8 (by omega) (by omega) (Nat.le_trans hB6.size b8.size) hO8 hne.out (fun _=>qL.lt) hc4.out)
      clear hO7 hO8 hne hc4 qL c0 c1 c2 c3 c4 c5
      go_wp2_with fail
      refine GB.out.mono ?_
      rintro e w9 ⟨v9,rfl,hO9,b9⟩
      have I1:=hide' (show w9.ownsRow w5.heap.size 22 1 v9 (4*(i+1)) (rowV (PA xs) (NA xs) (4*(i+1)))∧Below w5.heap.size w5 w9 from ⟨by rw [hrow.out] at hO9;exact hO9,(hB6.trans (b8.mono hB6.size)).trans b9⟩)
      clear hO9 b9 GB HO
      go_wp2
      go_roundw
      case rel=>exact ⟨i+1,by omega,by go_num,I1.out⟩
      case measure=>simp [intOf];omega
     ·have ei:7=i:=by omega
      subst ei
      have i2:¬ (((7:Nat):Int) < 7):=by omega
      obtain ⟨gb,cb,e4,hgb,_⟩:=hO.form (by omega)
      subst e4
      have b56:=b5.trans (hB6.mono b5.size)
      have b46:=b4.trans (b56.mono b4.size)
      have HS:=hide' (show Ls wr wI.heap.size gb 0 28 (PA xs) (NA xs) (fun i j=>((dg (xs.getD i (none,0)).2 j:Nat):Int)) by
       have h:=(HL.out.later b56).ls (bl:=gb) (ol:=0) (by have h1:=hbl.out;have h2:=b5.size;omega) (fun j hj=>by
        have g:xs.getD j (none,0)=xs[j]:=by simp [List.getD,List.getElem?_eq_getElem hj]
        have hj2:j < 28:=by rw [←HX.out];exact hj
        rw [Nat.zero_add,hO.cellAt j (by omega),rowV_at (by omega)]
        unfold PA NA
        rw [g])
       rw [HX.out] at h
       exact h)
      clear hO
      go_wp2_with fail
      refine (spoil_is wI.heap.size gb 0 28 cb (PA xs) (NA xs) _ _ (by omega) HN.out b46.size HS.out).mono ?_
      rintro e w7 ⟨rfl,b7⟩
      have b47:=b46.trans b7
      replace hI:=hI.later b47
      replace hX:=hX.later b47
      replace qa:=qa.later b47
      replace qb:=qb.later b47
      replace qc:=qc.later b47
      replace qx:=qx.later b47
      replace qy:=qy.later b47
      replace qz:=qz.later b47
      clear HS HR HL HN HX HP HR5 HW5 b4 b5 b56 b46 b7 hB6 hgb
      have qx_0:=qx.cell 0
      have qx_1:=qx.cell 1
      have qx_2:=qx.cell 2
      have qx_3:=qx.cell 3
      have qx_4:=qx.cell 4
      have qx_5:=qx.cell 5
      have qa_0:=qa.cell 0
      have qa_1:=qa.cell 1
      have qa_2:=qa.cell 2
      have qa_3:=qa.cell 3
      have qa_4:=qa.cell 4
      have qa_5:=qa.cell 5
      simp only [List.getElem?_toArray,List.getElem?_cons_zero,List.getElem?_cons_succ] at qx_0 qx_1 qx_2 qx_3 qx_4 qx_5 qa_0 qa_1 qa_2 qa_3 qa_4 qa_5
      go_wp2_with fail
      clear qx_0 qx_1 qx_2 qx_3 qx_4 qx_5 qa_0 qa_1 qa_2 qa_3 qa_4 qa_5
      refine (rawDelta s0 s1 X0 Y0 X1 Y1 n0 m0 n1 m1 p0 q0 r0 t0 a0 b0 a1 b1 n0 m0 n1 m1 c0 d0 c1 d1 _ (by omega) (by omega) (by omega) (by omega) (sm_left (sm_right (show SM _ ([] ++ ([(p0,X0,n0),(q0,Y0,m0),(r0,X1,n1),(t0,Y1,m1)] ++ [(p1,X2,n2),(q1,Y2,m2),(r1,X3,n3),(t1,Y3,m3),(p2,X4,n4),(q2,Y4,m4)])) from hX))) (sm_left (sm_right (show SM _ ([] ++ ([(a0,X0,n0),(b0,Y0,m0),(a1,X1,n1),(b1,Y1,m1)] ++ [(a2,X2,n2),(b2,Y2,m2),(a3,X3,n3),(b3,Y3,m3),(a4,X4,n4),(b4,Y4,m4)])) from hI)))).mono ?_
      rintro e w8 ⟨rfl,bb⟩
      replace hI:=hI.later bb
      replace hX:=hX.later bb
      replace qa:=qa.later bb
      replace qb:=qb.later bb
      replace qc:=qc.later bb
      replace qx:=qx.later bb
      replace qy:=qy.later bb
      replace qz:=qz.later bb
      replace b47:=b47.trans (bb.mono b47.size)
      clear bb
      have qy_0:=qy.cell 0
      have qy_1:=qy.cell 1
      have qy_2:=qy.cell 2
      have qy_3:=qy.cell 3
      have qy_4:=qy.cell 4
      have qy_5:=qy.cell 5
      have qb_0:=qb.cell 0
      have qb_1:=qb.cell 1
      have qb_2:=qb.cell 2
      have qb_3:=qb.cell 3
      have qb_4:=qb.cell 4
      have qb_5:=qb.cell 5
      simp only [List.getElem?_toArray,List.getElem?_cons_zero,List.getElem?_cons_succ] at qy_0 qy_1 qy_2 qy_3 qy_4 qy_5 qb_0 qb_1 qb_2 qb_3 qb_4 qb_5
      go_wp2_with fail
      clear qy_0 qy_1 qy_2 qy_3 qy_4 qy_5 qb_0 qb_1 qb_2 qb_3 qb_4 qb_5
      refine (rawDelta s2 s3 X2 Y2 X3 Y3 n2 m2 n3 m3 p1 q1 r1 t1 a2 b2 a3 b3 n2 m2 n3 m3 c2 d2 c3 d3 _ (by omega) (by omega) (by omega) (by omega) (sm_left (sm_right (show SM _ ([(p0,X0,n0),(q0,Y0,m0),(r0,X1,n1),(t0,Y1,m1)] ++ ([(p1,X2,n2),(q1,Y2,m2),(r1,X3,n3),(t1,Y3,m3)] ++ [(p2,X4,n4),(q2,Y4,m4)])) from hX))) (sm_left (sm_right (show SM _ ([(a0,X0,n0),(b0,Y0,m0),(a1,X1,n1),(b1,Y1,m1)] ++ ([(a2,X2,n2),(b2,Y2,m2),(a3,X3,n3),(b3,Y3,m3)] ++ [(a4,X4,n4),(b4,Y4,m4)])) from hI)))).mono ?_
      rintro e w9 ⟨rfl,bb⟩
      replace hI:=hI.later bb
      replace hX:=hX.later bb
      replace qa:=qa.later bb
      replace qb:=qb.later bb
      replace qc:=qc.later bb
      replace qx:=qx.later bb
      replace qy:=qy.later bb
      replace qz:=qz.later bb
      replace b47:=b47.trans (bb.mono b47.size)
      clear bb
      have qz_0:=qz.cell 0
      have qz_1:=qz.cell 1
      have qz_2:=qz.cell 2
      have qc_0:=qc.cell 0
      have qc_1:=qc.cell 1
      have qc_2:=qc.cell 2
      simp only [List.getElem?_toArray,List.getElem?_cons_zero,List.getElem?_cons_succ] at qz_0 qz_1 qz_2 qc_0 qc_1 qc_2
      go_wp2_with fail
      clear qz_0 qz_1 qz_2 qc_0 qc_1 qc_2
      refine (rawRat s4 X4 Y4 n4 m4 p2 q2 a4 b4 n4 m4 c4 d4 _ (by omega) (by omega) (sm_left (sm_right (show SM _ ([(p0,X0,n0),(q0,Y0,m0),(r0,X1,n1),(t0,Y1,m1),(p1,X2,n2),(q1,Y2,m2),(r1,X3,n3),(t1,Y3,m3)] ++ ([(p2,X4,n4),(q2,Y4,m4)] ++ [])) from hX))).head (sm_left (sm_right (show SM _ ([(p0,X0,n0),(q0,Y0,m0),(r0,X1,n1),(t0,Y1,m1),(p1,X2,n2),(q1,Y2,m2),(r1,X3,n3),(t1,Y3,m3)] ++ ([(p2,X4,n4),(q2,Y4,m4)] ++ [])) from hX))).tail.head (sm_left (sm_right (show SM _ ([(a0,X0,n0),(b0,Y0,m0),(a1,X1,n1),(b1,Y1,m1),(a2,X2,n2),(b2,Y2,m2),(a3,X3,n3),(b3,Y3,m3)] ++ ([(a4,X4,n4),(b4,Y4,m4)] ++ [])) from hI))).head (sm_left (sm_right (show SM _ ([(a0,X0,n0),(b0,Y0,m0),(a1,X1,n1),(b1,Y1,m1),(a2,X2,n2),(b2,Y2,m2),(a3,X3,n3),(b3,Y3,m3)] ++ ([(a4,X4,n4),(b4,Y4,m4)] ++ [])) from hI))).tail.head).mono ?_
      rintro e w10 ⟨rfl,bb⟩
      replace hI:=hI.later bb
      replace hX:=hX.later bb
      replace qa:=qa.later bb
      replace qb:=qb.later bb
      replace qc:=qc.later bb
      replace qx:=qx.later bb
      replace qy:=qy.later bb
      replace qz:=qz.later bb
      replace b47:=b47.trans (bb.mono b47.size)
      clear bb
      have I2:=hide' (show Below wL.heap.size wL w10 from hB.trans (b47.mono hB.size))
      go_wp2
      go_roundw
      case rel=>exact ⟨k+1,by omega,by go_num,I2.out⟩
      case measure=>simp [intOf];omega
   ·have k2:¬ ((k:Int) < 2):=by omega
    go_wp2
    go_ret
    exact ⟨rfl,bel.trans (hB.mono bel.size)⟩
end Go.Proofs.YtfppjaoddicgpaaGreatDoor.deltaOwn
