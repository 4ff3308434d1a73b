import Derived.Test.YtfppjaoddicgpaaGreatDoorOWI
import Derived.Test.YtfppjaoddicgpaaGreatDoorWG7
set_option linter.unusedSimpArgs false
namespace Go.Proofs.YtfppjaoddicgpaaGreatDoor
open Go.RowKit
set_option linter.unusedVariables false
def SL (W:World) (xs:List Lst):Prop:=∀ x∈xs,Seg W x.1 x.2 (ln x.2)
theorem SL.later {W W':World} {xs:List Lst} (h:SL W xs) (hb:Below W.heap.size W W'):SL W' xs:=fun x hx=>(h x hx).below hb (Nat.le_refl _)
theorem SL.add {W:World} {xs ys:List Lst} (h:SL W xs) (k:SL W ys):SL W (xs ++ ys):=fun x hx=>by
 rcases List.mem_append.1 hx with c | c
 ·exact h x c
 ·exact k x c
theorem SL.perm {W:World} {xs ys:List Lst} (h:SL W xs) (e:xs.Perm ys):SL W ys:=fun x hx=>h x (e.mem_iff.2 hx)
theorem SL.two {W:World} {p q:Option Addr} {X Y:Nat} (h1:Seg W p X (ln X)) (h2:Seg W q Y (ln Y)):SL W [(p,X),(q,Y)]:=fun x hx=>by
 simp only [List.mem_cons,List.not_mem_nil,or_false] at hx
 rcases hx with rfl | rfl
 ·exact h1
 ·exact h2
theorem SL.four {W:World} {p q r t:Option Addr} {X Y X2 Y2:Nat} (h1:Seg W p X (ln X)) (h2:Seg W q Y (ln Y)) (h3:Seg W r X2 (ln X2)) (h4:Seg W t Y2 (ln Y2)):SL W [(p,X),(q,Y),(r,X2),(t,Y2)]:=SL.add (SL.two h1 h2) (SL.two h3 h4)
theorem AL.segs {W:World} {lo hi:Nat} {xs:List Lst} (h:AL W lo hi xs):SL W xs:=fun x hx=>(h.1 x hx).1
theorem vsmall1 (g:GapV) (a:Option Addr) (cap:Nat) (S:Int) (U:Nat) (w:World) (hA:GapsAt w a 1 (fun _=>g)) (hok:g.ok w) (ht:g.tiny) (hc:1≤cap) (hS:Sml g S U) :
  Calls Tryz.prog 16 #[.slice a 1 cap] w fun e w'=>∃ p q er,e=.returned (.tuple #[.agg #[.bool (ng S),.slice p (ln (am S)) (ln (am S)),.slice q (ln U) (ln U)],.int .i64 er])∧Below w.heap.size w w'∧Seg w' p (am S) (ln (am S))∧Seg w' q U (ln U):=by
 refine (vSmall_is a 1 cap (fun _=>g) w hA (fun i hi=>⟨hok,ht⟩) hc (by omega)).mono ?_
 rw [gl_one]
 have e1:ln (am 0)=0:=ln_zero
 have e3:ln 0=0:=ln_zero
 have e2:ng 0=false:=rfl
 rintro e w' (⟨hb,p,q,rfl,hB,ho⟩ | ⟨⟨i,hi,hb⟩,rfl,hB⟩)
 ·rcases hS with ⟨_,rfl,rfl⟩ | ⟨hb2,_⟩
  ·exact ⟨p,q,0,rfl,hB,ho.1,ho.2.2.2.1⟩
  ·exact absurd hb2 (hb 0 (by omega))
 ·rcases hS with ⟨hb2,_⟩ | ⟨_,rfl,rfl⟩
  ·exact absurd hb hb2
  ·rw [e1,e2,e3]
   exact ⟨none,none,51,rfl,hB,Seg.nil _ _,Seg.nil _ _⟩
def WanP (w:World) (Z0:Int) (V0:Nat) (W0:Int) (U0:Nat) (Z1:Int) (V1:Nat) (W1:Int) (U1:Nat) (Z2:Int) (V2:Nat) (W2:Int) (U2:Nat) (Z3:Int) (V3:Nat) (W3:Int) (U3:Nat) (Z4:Int) (V4:Nat) (W4:Int) (U4:Nat) (Z5:Int) (V5:Nat) (W5:Int) (U5:Nat) (Z6:Int) (V6:Nat) (W6:Int) (U6:Nat) (e:Ending) (w':World):Prop:=∃ bl p0 q0 r0 t0 p1 q1 r1 t1 p2 q2 r2 t2 p3 q3 r3 t3 p4 q4 r4 t4 p5 q5 r5 t5 p6 q6 r6 t6,e=.returned (.slice (some ⟨bl,0,none⟩) 7 7)∧Below w.heap.size w w'∧Blk w' bl #[.bool (ng Z0),.slice p0 (ln (am Z0)) (ln (am Z0)),.slice q0 (ln V0) (ln V0),.bool (ng W0),.slice r0 (ln (am W0)) (ln (am W0)),.slice t0 (ln U0) (ln U0),.bool (ng Z1),.slice p1 (ln (am Z1)) (ln (am Z1)),.slice q1 (ln V1) (ln V1),.bool (ng W1),.slice r1 (ln (am W1)) (ln (am W1)),.slice t1 (ln U1) (ln U1),.bool (ng Z2),.slice p2 (ln (am Z2)) (ln (am Z2)),.slice q2 (ln V2) (ln V2),.bool (ng W2),.slice r2 (ln (am W2)) (ln (am W2)),.slice t2 (ln U2) (ln U2),.bool (ng Z3),.slice p3 (ln (am Z3)) (ln (am Z3)),.slice q3 (ln V3) (ln V3),.bool (ng W3),.slice r3 (ln (am W3)) (ln (am W3)),.slice t3 (ln U3) (ln U3),.bool (ng Z4),.slice p4 (ln (am Z4)) (ln (am Z4)),.slice q4 (ln V4) (ln V4),.bool (ng W4),.slice r4 (ln (am W4)) (ln (am W4)),.slice t4 (ln U4) (ln U4),.bool (ng Z5),.slice p5 (ln (am Z5)) (ln (am Z5)),.slice q5 (ln V5) (ln V5),.bool (ng W5),.slice r5 (ln (am W5)) (ln (am W5)),.slice t5 (ln U5) (ln U5),.bool (ng Z6),.slice p6 (ln (am Z6)) (ln (am Z6)),.slice q6 (ln V6) (ln V6),.bool (ng W6),.slice r6 (ln (am W6)) (ln (am W6)),.slice t6 (ln U6) (ln U6)] 29∧SL w' [(p0,am Z0),(q0,V0),(r0,am W0),(t0,U0),(p1,am Z1),(q1,V1),(r1,am W1),(t1,U1),(p2,am Z2),(q2,V2),(r2,am W2),(t2,U2),(p3,am Z3),(q3,V3),(r3,am W3),(t3,U3),(p4,am Z4),(q4,V4),(r4,am W4),(t4,U4),(p5,am Z5),(q5,V5),(r5,am W5),(t5,U5),(p6,am Z6),(q6,V6),(r6,am W6),(t6,U6)]
set_option maxHeartbeats 8000000 in
set_option maxRecDepth 100000 in
theorem wanted_is (s0:Bool) (a0:Option Addr) (n0 c0 X0:Nat) (b0:Option Addr) (m0 d0 Y0:Nat) (s1:Bool) (a1:Option Addr) (n1 c1 X1:Nat) (b1:Option Addr) (m1 d1 Y1:Nat) (s2:Bool) (a2:Option Addr) (n2 c2 X2:Nat) (b2:Option Addr) (m2 d2 Y2:Nat) (s3:Bool) (a3:Option Addr) (n3 c3 X3:Nat) (b3:Option Addr) (m3 d3 Y3:Nat) (s4:Bool) (a4:Option Addr) (n4 c4 X4:Nat) (b4:Option Addr) (m4 d4 Y4:Nat) (Z0 W0 Z1 W1 Z2 W2 Z3 W3 Z4 W4 Z5 W5 Z6 W6:Int) (V0 U0 V1 U1 V2 U2 V3 U3 V4 U4 V5 U5 V6 U6:Nat) (w:World) (hc0:n0≤c0) (hm0:n0≤1048576) (hS0:Seg w a0 X0 n0) (hd0:m0≤d0) (hk0:m0≤1048576) (hT0:Seg w b0 Y0 m0) (hc1:n1≤c1) (hm1:n1≤1048576) (hS1:Seg w a1 X1 n1) (hd1:m1≤d1) (hk1:m1≤1048576) (hT1:Seg w b1 Y1 m1) (hc2:n2≤c2) (hm2:n2≤1048576) (hS2:Seg w a2 X2 n2) (hd2:m2≤d2) (hk2:m2≤1048576) (hT2:Seg w b2 Y2 m2) (hc3:n3≤c3) (hm3:n3≤1048576) (hS3:Seg w a3 X3 n3) (hd3:m3≤d3) (hk3:m3≤1048576) (hT3:Seg w b3 Y3 m3) (hc4:n4≤c4) (hm4:n4≤1048576) (hS4:Seg w a4 X4 n4) (hd4:m4≤d4) (hk4:m4≤1048576) (hT4:Seg w b4 Y4 m4) (l0:Low (rn s0 X0 Y0) (rd Y0:Nat) Z0 V0) (j0:Low (rn s1 X1 Y1) (rd Y1:Nat) W0 U0) (l1:Low (rn s4 X4 Y4) (rd Y4:Nat) Z1 V1) (j1:W1=0∧U1=1) (l2:Low (-(rn s0 X0 Y0)) (rd Y0:Nat) Z2 V2) (j2:Low (-(rn s1 X1 Y1)) (rd Y1:Nat) W2 U2) (l3:Low (rn s0 X0 Y0*(rd Y2:Nat)+rn s2 X2 Y2*(rd Y0:Nat)) ((rd Y0:Nat)*(rd Y2:Nat)) Z3 V3) (j3:Low (rn s1 X1 Y1*(rd Y3:Nat)+rn s3 X3 Y3*(rd Y1:Nat)) ((rd Y1:Nat)*(rd Y3:Nat)) W3 U3) (l4:Low (rn s0 X0 Y0*(rd Y2:Nat)+-(rn s2 X2 Y2)*(rd Y0:Nat)) ((rd Y0:Nat)*(rd Y2:Nat)) Z4 V4) (j4:Low (rn s1 X1 Y1*(rd Y3:Nat)+-(rn s3 X3 Y3)*(rd Y1:Nat)) ((rd Y1:Nat)*(rd Y3:Nat)) W4 U4) (l5:Low (rn s4 X4 Y4*rn s0 X0 Y0) ((rd Y4:Nat)*(rd Y0:Nat)) Z5 V5) (j5:Low (rn s4 X4 Y4*rn s1 X1 Y1) ((rd Y4:Nat)*(rd Y1:Nat)) W5 U5) (l6:Low (rn s0 X0 Y0*((rd Y1:Nat)*(rd Y4:Nat))+rn s1 X1 Y1*rn s4 X4 Y4*(rd Y0:Nat)) ((rd Y0:Nat)*((rd Y1:Nat)*(rd Y4:Nat))) Z6 V6) (j6:Sml (⟨⟨⟨s0,a0,n0,c0,X0,b0,m0,d0,Y0⟩,⟨s1,a1,n1,c1,X1,b1,m1,d1,Y1⟩⟩,⟨⟨s2,a2,n2,c2,X2,b2,m2,d2,Y2⟩,⟨s3,a3,n3,c3,X3,b3,m3,d3,Y3⟩⟩⟩:GapV) W6 U6) :
  Calls Tryz.prog 6 #[Value.agg #[Value.bool s0,Value.slice a0 n0 c0,Value.slice b0 m0 d0,Value.bool s1,Value.slice a1 n1 c1,Value.slice b1 m1 d1],Value.agg #[Value.bool s2,Value.slice a2 n2 c2,Value.slice b2 m2 d2,Value.bool s3,Value.slice a3 n3 c3,Value.slice b3 m3 d3],Value.agg #[Value.bool s4,Value.slice a4 n4 c4,Value.slice b4 m4 d4]] w (WanP w Z0 V0 W0 U0 Z1 V1 W1 U1 Z2 V2 W2 U2 Z3 V3 W3 U3 Z4 V4 W4 U4 Z5 V5 W5 U5 Z6 V6 W6 U6):=by
 have H0:=hide' (fun w' x0 y0 x1 y1=>vdNorm_is s0 a0 n0 c0 X0 b0 m0 d0 Y0 s1 a1 n1 c1 X1 b1 m1 d1 Y1 Z0 V0 W0 U0 w' hc0 (by omega) x0 hd0 (by omega) y0 hc1 (by omega) x1 hd1 (by omega) y1 l0 j0)
 have H1:=hide' (fun w' x4 y4=>vdOf_is s4 a4 n4 c4 X4 b4 m4 d4 Y4 Z1 V1 W1 U1 w' hc4 (by omega) x4 hd4 (by omega) y4 l1 j1.1 j1.2)
 have H2:=hide' (fun w' x0 y0 x1 y1=>vdNeg_is s0 a0 n0 c0 X0 b0 m0 d0 Y0 s1 a1 n1 c1 X1 b1 m1 d1 Y1 Z2 V2 W2 U2 w' hc0 (by omega) x0 hd0 (by omega) y0 hc1 (by omega) x1 hd1 (by omega) y1 l2 j2)
 have H3:=hide' (fun w' x0 y0 x1 y1 x2 y2 x3 y3=>vdAdd_is s0 a0 n0 c0 X0 b0 m0 d0 Y0 s1 a1 n1 c1 X1 b1 m1 d1 Y1 s2 a2 n2 c2 X2 b2 m2 d2 Y2 s3 a3 n3 c3 X3 b3 m3 d3 Y3 Z3 V3 W3 U3 w' hc0 (by omega) x0 hd0 (by omega) y0 hc1 (by omega) x1 hd1 (by omega) y1 hc2 (by omega) x2 hd2 (by omega) y2 hc3 (by omega) x3 hd3 (by omega) y3 l3 j3)
 have H4:=hide' (fun w' x0 y0 x1 y1 x2 y2 x3 y3=>vdSub_is s0 a0 n0 c0 X0 b0 m0 d0 Y0 s1 a1 n1 c1 X1 b1 m1 d1 Y1 s2 a2 n2 c2 X2 b2 m2 d2 Y2 s3 a3 n3 c3 X3 b3 m3 d3 Y3 Z4 V4 W4 U4 w' hc0 (by omega) x0 hd0 (by omega) y0 hc1 (by omega) x1 hd1 (by omega) y1 hc2 (by omega) x2 hd2 (by omega) y2 hc3 (by omega) x3 hd3 (by omega) y3 l4 j4)
 have H5:=hide' (fun w' x4 y4 x0 y0 x1 y1=>vdScale_is s4 a4 n4 c4 X4 b4 m4 d4 Y4 s0 a0 n0 c0 X0 b0 m0 d0 Y0 s1 a1 n1 c1 X1 b1 m1 d1 Y1 Z5 V5 W5 U5 w' hc4 (by omega) x4 hd4 (by omega) y4 hc0 (by omega) x0 hd0 (by omega) y0 hc1 (by omega) x1 hd1 (by omega) y1 l5 j5)
 have H6:=hide' (fun w' x0 y0 x1 y1 x4 y4=>vdAt_is s0 a0 n0 c0 X0 b0 m0 d0 Y0 s1 a1 n1 c1 X1 b1 m1 d1 Y1 s4 a4 n4 c4 X4 b4 m4 d4 Y4 Z6 V6 w' hc0 (by omega) x0 hd0 (by omega) y0 hc1 (by omega) x1 hd1 (by omega) y1 hc4 (by omega) x4 hd4 (by omega) y4 l6)
 have HS:=hide' (fun w' c (x0:Seg w' a0 X0 n0) (y0:Seg w' b0 Y0 m0) (x1:Seg w' a1 X1 n1) (y1:Seg w' b1 Y1 m1) (x2:Seg w' a2 X2 n2) (y2:Seg w' b2 Y2 m2) (x3:Seg w' a3 X3 n3) (y3:Seg w' b3 Y3 m3) (hA:GapsAt w' (some ⟨c,0,none⟩) 1 (fun _=>(⟨⟨⟨s0,a0,n0,c0,X0,b0,m0,d0,Y0⟩,⟨s1,a1,n1,c1,X1,b1,m1,d1,Y1⟩⟩,⟨⟨s2,a2,n2,c2,X2,b2,m2,d2,Y2⟩,⟨s3,a3,n3,c3,X3,b3,m3,d3,Y3⟩⟩⟩:GapV)))=>vsmall1 (⟨⟨⟨s0,a0,n0,c0,X0,b0,m0,d0,Y0⟩,⟨s1,a1,n1,c1,X1,b1,m1,d1,Y1⟩⟩,⟨⟨s2,a2,n2,c2,X2,b2,m2,d2,Y2⟩,⟨s3,a3,n3,c3,X3,b3,m3,d3,Y3⟩⟩⟩:GapV) (some ⟨c,0,none⟩) 1 W6 U6 w' hA ⟨⟨⟨x0,hc0,Nat.le_trans hm0 (by omega),y0,hd0,Nat.le_trans hk0 (by omega)⟩,⟨x1,hc1,Nat.le_trans hm1 (by omega),y1,hd1,Nat.le_trans hk1 (by omega)⟩⟩,⟨⟨x2,hc2,Nat.le_trans hm2 (by omega),y2,hd2,Nat.le_trans hk2 (by omega)⟩,⟨x3,hc3,Nat.le_trans hm3 (by omega),y3,hd3,Nat.le_trans hk3 (by omega)⟩⟩⟩ ⟨⟨hm0,hk0,hm1,hk1⟩,⟨hm2,hk2,hm3,hk3⟩⟩ (Nat.le_refl _) j6)
 clear l0 j0 l1 j1 l2 j2 l3 j3 l4 j4 l5 j5 l6 j6
 have bel:Below w.heap.size w w:=Below.refl _ _
 have bb:=below_alloc (w:=w) (.cells #[.bool s0,.slice a0 n0 c0,.slice b0 m0 d0,.bool s1,.slice a1 n1 c1,.slice b1 m1 d1] 29)
 replace hS0:=hS0.later bb
 replace hT0:=hT0.later bb
 replace hS1:=hS1.later bb
 replace hT1:=hT1.later bb
 replace hS2:=hS2.later bb
 replace hT2:=hT2.later bb
 replace hS3:=hS3.later bb
 replace hT3:=hT3.later bb
 replace hS4:=hS4.later bb
 replace hT4:=hT4.later bb
 replace bel:=bel.trans (bb.mono bel.size)
 clear bb
 have qa:=Blk.new w #[.bool s0,.slice a0 n0 c0,.slice b0 m0 d0,.bool s1,.slice a1 n1 c1,.slice b1 m1 d1] 29
 have bb:=below_alloc (w:=(w.alloc (.cells #[.bool s0,.slice a0 n0 c0,.slice b0 m0 d0,.bool s1,.slice a1 n1 c1,.slice b1 m1 d1] 29))) (.cells #[.bool s2,.slice a2 n2 c2,.slice b2 m2 d2,.bool s3,.slice a3 n3 c3,.slice b3 m3 d3] 29)
 replace hS0:=hS0.later bb
 replace hT0:=hT0.later bb
 replace hS1:=hS1.later bb
 replace hT1:=hT1.later bb
 replace hS2:=hS2.later bb
 replace hT2:=hT2.later bb
 replace hS3:=hS3.later bb
 replace hT3:=hT3.later bb
 replace hS4:=hS4.later bb
 replace hT4:=hT4.later bb
 replace qa:=qa.later bb
 replace bel:=bel.trans (bb.mono bel.size)
 clear bb
 have qb:=Blk.new (w.alloc (.cells #[.bool s0,.slice a0 n0 c0,.slice b0 m0 d0,.bool s1,.slice a1 n1 c1,.slice b1 m1 d1] 29)) #[.bool s2,.slice a2 n2 c2,.slice b2 m2 d2,.bool s3,.slice a3 n3 c3,.slice b3 m3 d3] 29
 simp only [World.size_alloc] at qb
 have bb:=below_alloc (w:=((w.alloc (.cells #[.bool s0,.slice a0 n0 c0,.slice b0 m0 d0,.bool s1,.slice a1 n1 c1,.slice b1 m1 d1] 29)).alloc (.cells #[.bool s2,.slice a2 n2 c2,.slice b2 m2 d2,.bool s3,.slice a3 n3 c3,.slice b3 m3 d3] 29))) (.cells #[.bool s4,.slice a4 n4 c4,.slice b4 m4 d4] 27)
 replace hS0:=hS0.later bb
 replace hT0:=hT0.later bb
 replace hS1:=hS1.later bb
 replace hT1:=hT1.later bb
 replace hS2:=hS2.later bb
 replace hT2:=hT2.later bb
 replace hS3:=hS3.later bb
 replace hT3:=hT3.later bb
 replace hS4:=hS4.later bb
 replace hT4:=hT4.later bb
 replace qa:=qa.later bb
 replace qb:=qb.later bb
 replace bel:=bel.trans (bb.mono bel.size)
 clear bb
 have qc:=Blk.new ((w.alloc (.cells #[.bool s0,.slice a0 n0 c0,.slice b0 m0 d0,.bool s1,.slice a1 n1 c1,.slice b1 m1 d1] 29)).alloc (.cells #[.bool s2,.slice a2 n2 c2,.slice b2 m2 d2,.bool s3,.slice a3 n3 c3,.slice b3 m3 d3] 29)) #[.bool s4,.slice a4 n4 c4,.slice b4 m4 d4] 27
 simp only [World.size_alloc] at qc
 have bb:=below_alloc (w:=(((w.alloc (.cells #[.bool s0,.slice a0 n0 c0,.slice b0 m0 d0,.bool s1,.slice a1 n1 c1,.slice b1 m1 d1] 29)).alloc (.cells #[.bool s2,.slice a2 n2 c2,.slice b2 m2 d2,.bool s3,.slice a3 n3 c3,.slice b3 m3 d3] 29)).alloc (.cells #[.bool s4,.slice a4 n4 c4,.slice b4 m4 d4] 27))) (.cells #[.bool s0,.slice a0 n0 c0,.slice b0 m0 d0,.bool s1,.slice a1 n1 c1,.slice b1 m1 d1,.bool s2,.slice a2 n2 c2,.slice b2 m2 d2,.bool s3,.slice a3 n3 c3,.slice b3 m3 d3] 48)
 replace hS0:=hS0.later bb
 replace hT0:=hT0.later bb
 replace hS1:=hS1.later bb
 replace hT1:=hT1.later bb
 replace hS2:=hS2.later bb
 replace hT2:=hT2.later bb
 replace hS3:=hS3.later bb
 replace hT3:=hT3.later bb
 replace hS4:=hS4.later bb
 replace hT4:=hT4.later bb
 replace qa:=qa.later bb
 replace qb:=qb.later bb
 replace qc:=qc.later bb
 replace bel:=bel.trans (bb.mono bel.size)
 clear bb
 have qg:=Blk.new (((w.alloc (.cells #[.bool s0,.slice a0 n0 c0,.slice b0 m0 d0,.bool s1,.slice a1 n1 c1,.slice b1 m1 d1] 29)).alloc (.cells #[.bool s2,.slice a2 n2 c2,.slice b2 m2 d2,.bool s3,.slice a3 n3 c3,.slice b3 m3 d3] 29)).alloc (.cells #[.bool s4,.slice a4 n4 c4,.slice b4 m4 d4] 27)) #[.bool s0,.slice a0 n0 c0,.slice b0 m0 d0,.bool s1,.slice a1 n1 c1,.slice b1 m1 d1,.bool s2,.slice a2 n2 c2,.slice b2 m2 d2,.bool s3,.slice a3 n3 c3,.slice b3 m3 d3] 48
 simp only [World.size_alloc] at qg
 go_enter Tryz.func6,Tryz.ntmps6
 go_wp2_with fail
 obtain ⟨wH,hW⟩:∃ W,((((w.alloc (.cells #[.bool s0,.slice a0 n0 c0,.slice b0 m0 d0,.bool s1,.slice a1 n1 c1,.slice b1 m1 d1] 29)).alloc (.cells #[.bool s2,.slice a2 n2 c2,.slice b2 m2 d2,.bool s3,.slice a3 n3 c3,.slice b3 m3 d3] 29)).alloc (.cells #[.bool s4,.slice a4 n4 c4,.slice b4 m4 d4] 27)).alloc (.cells #[.bool s0,.slice a0 n0 c0,.slice b0 m0 d0,.bool s1,.slice a1 n1 c1,.slice b1 m1 d1,.bool s2,.slice a2 n2 c2,.slice b2 m2 d2,.bool s3,.slice a3 n3 c3,.slice b3 m3 d3] 48))=W:=⟨_,rfl⟩
 rw [hW] at bel hS0 hT0 hS1 hT1 hS2 hT2 hS3 hT3 hS4 hT4 qa qb qc qg ⊢
 clear hW
 have hW0:=bel.size
 refine (HS.out _ _ hS0 hT0 hS1 hT1 hS2 hT2 hS3 hT3 (gaps_one s0 a0 n0 c0 X0 b0 m0 d0 Y0 s1 a1 n1 c1 X1 b1 m1 d1 Y1 s2 a2 n2 c2 X2 b2 m2 d2 Y2 s3 a3 n3 c3 X3 b3 m3 d3 Y3 qg)).mono ?_
 rintro e wS ⟨r6,t6,er,rfl,bS,kS,kT⟩
 have bb:=bS
 replace hS0:=hS0.later bb
 replace hT0:=hT0.later bb
 replace hS1:=hS1.later bb
 replace hT1:=hT1.later bb
 replace hS2:=hS2.later bb
 replace hT2:=hT2.later bb
 replace hS3:=hS3.later bb
 replace hT3:=hT3.later bb
 replace hS4:=hS4.later bb
 replace hT4:=hT4.later bb
 replace qa:=qa.later bb
 replace qb:=qb.later bb
 replace qc:=qc.later bb
 replace qg:=qg.later bb
 replace bel:=bel.trans (bb.mono bel.size)
 clear bb
 clear bS
 have acc:=SL.two kS kT
 clear kS kT hW0
 clear qg
 have bN:Below wS.heap.size wS wS:=Below.refl _ _
 have lqsqa:=qa.lt
 have lqsqb:=qb.lt
 have lqsqc:=qc.lt
 have bb:=below_alloc (w:=wS) (.cells #[.bool (ng W6),.slice r6 (ln (am W6)) (ln (am W6)),.slice t6 (ln U6) (ln U6)] 27)
 replace hS0:=hS0.later bb
 replace hT0:=hT0.later bb
 replace hS1:=hS1.later bb
 replace hT1:=hT1.later bb
 replace hS2:=hS2.later bb
 replace hT2:=hT2.later bb
 replace hS3:=hS3.later bb
 replace hT3:=hT3.later bb
 replace hS4:=hS4.later bb
 replace hT4:=hT4.later bb
 replace qa:=qa.later bb
 replace qb:=qb.later bb
 replace qc:=qc.later bb
 replace acc:=acc.later bb
 replace bel:=bel.trans (bb.mono bel.size)
 replace bN:=bN.trans (bb.mono bN.size)
 clear bb
 have qs:=Blk.new wS #[.bool (ng W6),.slice r6 (ln (am W6)) (ln (am W6)),.slice t6 (ln U6) (ln U6)] 27
 have qa_0:=qa.cell 0
 have qa_1:=qa.cell 1
 have qa_2:=qa.cell 2
 have qa_3:=qa.cell 3
 have qa_4:=qa.cell 4
 have qa_5:=qa.cell 5
 have qb_0:=qb.cell 0
 have qb_1:=qb.cell 1
 have qb_2:=qb.cell 2
 have qb_3:=qb.cell 3
 have qb_4:=qb.cell 4
 have qb_5:=qb.cell 5
 have qc_0:=qc.cell 0
 have qc_1:=qc.cell 1
 have qc_2:=qc.cell 2
 simp only [List.getElem?_toArray,List.getElem?_cons_zero,List.getElem?_cons_succ] at qa_0 qa_1 qa_2 qa_3 qa_4 qa_5 qb_0 qb_1 qb_2 qb_3 qb_4 qb_5 qc_0 qc_1 qc_2
 go_wp2_with fail
 clear qa_0 qa_1 qa_2 qa_3 qa_4 qa_5 qb_0 qb_1 qb_2 qb_3 qb_4 qb_5 qc_0 qc_1 qc_2
 obtain ⟨wN,hW⟩:∃ W,(wS.alloc (.cells #[.bool (ng W6),.slice r6 (ln (am W6)) (ln (am W6)),.slice t6 (ln U6) (ln U6)] 27))=W:=⟨_,rfl⟩
 rw [hW] at bel bN hS0 hT0 hS1 hT1 hS2 hT2 hS3 hT3 hS4 hT4 qa qb qc acc qs ⊢
 clear hW
 have qa_0:=qa.cell 0
 have qa_1:=qa.cell 1
 have qa_2:=qa.cell 2
 have qa_3:=qa.cell 3
 have qa_4:=qa.cell 4
 have qa_5:=qa.cell 5
 have qb_0:=qb.cell 0
 have qb_1:=qb.cell 1
 have qb_2:=qb.cell 2
 have qb_3:=qb.cell 3
 have qb_4:=qb.cell 4
 have qb_5:=qb.cell 5
 have qc_0:=qc.cell 0
 have qc_1:=qc.cell 1
 have qc_2:=qc.cell 2
 have qs_0:=qs.cell 0
 have qs_1:=qs.cell 1
 have qs_2:=qs.cell 2
 simp only [List.getElem?_toArray,List.getElem?_cons_zero,List.getElem?_cons_succ] at qa_0 qa_1 qa_2 qa_3 qa_4 qa_5 qb_0 qb_1 qb_2 qb_3 qb_4 qb_5 qc_0 qc_1 qc_2 qs_0 qs_1 qs_2
 have bD:Below wN.heap.size wN wN.drew:=(Below.refl _ _).drew
 have kqa_0:=below_cell bD qa_0
 have kqa_1:=below_cell bD qa_1
 have kqa_2:=below_cell bD qa_2
 have kqa_3:=below_cell bD qa_3
 have kqa_4:=below_cell bD qa_4
 have kqa_5:=below_cell bD qa_5
 have kqb_0:=below_cell bD qb_0
 have kqb_1:=below_cell bD qb_1
 have kqb_2:=below_cell bD qb_2
 have kqb_3:=below_cell bD qb_3
 have kqb_4:=below_cell bD qb_4
 have kqb_5:=below_cell bD qb_5
 have kqc_0:=below_cell bD qc_0
 have kqc_1:=below_cell bD qc_1
 have kqc_2:=below_cell bD qc_2
 have kqs_0:=below_cell bD qs_0
 have kqs_1:=below_cell bD qs_1
 have kqs_2:=below_cell bD qs_2
 replace bel:=bel.trans (bD.mono bel.size)
 replace bN:=bN.trans (bD.mono bN.size)
 replace hS0:=hS0.later bD
 replace hT0:=hT0.later bD
 replace hS1:=hS1.later bD
 replace hT1:=hT1.later bD
 replace hS2:=hS2.later bD
 replace hT2:=hT2.later bD
 replace hS3:=hS3.later bD
 replace hT3:=hT3.later bD
 replace hS4:=hS4.later bD
 replace hT4:=hT4.later bD
 replace qa:=qa.later bD
 replace qb:=qb.later bD
 replace qc:=qc.later bD
 replace acc:=acc.later bD
 replace qs:=qs.later bD
 refine wp_region_held_drew (S:=fun w'=>w'.cell? ⟨w.heap.size,0,none⟩=some (.bool s0)∧w'.cell? ⟨w.heap.size,1,none⟩=some (.slice a0 n0 c0)∧w'.cell? ⟨w.heap.size,2,none⟩=some (.slice b0 m0 d0)∧w'.cell? ⟨w.heap.size,3,none⟩=some (.bool s1)∧w'.cell? ⟨w.heap.size,4,none⟩=some (.slice a1 n1 c1)∧w'.cell? ⟨w.heap.size,5,none⟩=some (.slice b1 m1 d1)∧w'.cell? ⟨w.heap.size+1,0,none⟩=some (.bool s2)∧w'.cell? ⟨w.heap.size+1,1,none⟩=some (.slice a2 n2 c2)∧w'.cell? ⟨w.heap.size+1,2,none⟩=some (.slice b2 m2 d2)∧w'.cell? ⟨w.heap.size+1,3,none⟩=some (.bool s3)∧w'.cell? ⟨w.heap.size+1,4,none⟩=some (.slice a3 n3 c3)∧w'.cell? ⟨w.heap.size+1,5,none⟩=some (.slice b3 m3 d3)∧w'.cell? ⟨w.heap.size+1+1,0,none⟩=some (.bool s4)∧w'.cell? ⟨w.heap.size+1+1,1,none⟩=some (.slice a4 n4 c4)∧w'.cell? ⟨w.heap.size+1+1,2,none⟩=some (.slice b4 m4 d4)∧w'.cell? ⟨wS.heap.size,0,none⟩=some (.bool (ng W6))∧w'.cell? ⟨wS.heap.size,1,none⟩=some (.slice r6 (ln (am W6)) (ln (am W6)))∧w'.cell? ⟨wS.heap.size,2,none⟩=some (.slice t6 (ln U6) (ln U6))) (by kernel_rfl) ⟨kqa_0,kqa_1,kqa_2,kqa_3,kqa_4,kqa_5,kqb_0,kqb_1,kqb_2,kqb_3,kqb_4,kqb_5,kqc_0,kqc_1,kqc_2,kqs_0,kqs_1,kqs_2⟩ (fun hHeld=>?_)
 clear kqa_0 kqa_1 kqa_2 kqa_3 kqa_4 kqa_5 kqb_0 kqb_1 kqb_2 kqb_3 kqb_4 kqb_5 kqc_0 kqc_1 kqc_2 kqs_0 kqs_1 kqs_2
 generalize wN.drew=wF0 at bD hS0 hT0 hS1 hT1 hS2 hT2 hS3 hT3 hS4 hT4 qa qb qc acc qs bel bN hHeld ⊢
 clear bD qa_0 qa_1 qa_2 qa_3 qa_4 qa_5 qb_0 qb_1 qb_2 qb_3 qb_4 qb_5 qc_0 qc_1 qc_2 qs_0 qs_1 qs_2
 refine tk 0 (v:=?_) rfl (Or.inl ⟨by rfl,?_⟩) ?_
 rotate_left
 ·intro w9 hSw
  go_simp
  first | done | with_reducible rfl
 simp only [pP,pN,pS,pZ,pC]
 refine tk 2 (v:=?_) rfl (Or.inl ⟨by rfl,?_⟩) ?_
 rotate_left
 ·intro w9 hSw
  go_simp
  first | done | with_reducible rfl
 simp only [pP,pN,pS,pZ,pC]
 refine tk 4 (v:=?_) rfl (Or.inl ⟨by rfl,?_⟩) ?_
 rotate_left
 ·intro w9 hSw
  go_simp
  first | done | with_reducible rfl
 simp only [pP,pN,pS,pZ,pC]
 refine tk 6 (v:=?_) rfl (Or.inl ⟨by rfl,?_⟩) ?_
 rotate_left
 ·intro w9 hSw
  go_simp
  first | done | with_reducible rfl
 simp only [pP,pN,pS,pZ,pC]
 refine tk 7 (v:=?_) rfl (Or.inl ⟨by rfl,?_⟩) ?_
 rotate_left
 ·intro w9 hSw
  go_simp
  first | done | with_reducible rfl
 simp only [pP,pN,pS,pZ,pC]
 refine tk 9 (v:=?_) rfl (Or.inl ⟨by rfl,?_⟩) ?_
 rotate_left
 ·intro w9 hSw
  go_simp
  first | done | with_reducible rfl
 simp only [pP,pN,pS,pZ,pC]
 refine tk 10 (v:=?_) rfl (Or.inl ⟨by rfl,?_⟩) ?_
 rotate_left
 ·intro w9 hSw
  go_simp
  first | done | with_reducible rfl
 simp only [pP,pN,pS,pZ,pC]
 refine tk 12 (v:=?_) rfl (Or.inl ⟨by rfl,?_⟩) ?_
 rotate_left
 ·intro w9 hSw
  go_simp
  first | done | with_reducible rfl
 simp only [pP,pN,pS,pZ,pC]
 refine tk 13 (v:=?_) rfl (Or.inl ⟨by rfl,?_⟩) ?_
 rotate_left
 ·intro w9 hSw
  go_simp
  first | done | with_reducible rfl
 simp only [pP,pN,pS,pZ,pC]
 refine tk 15 (v:=?_) rfl (Or.inl ⟨by rfl,?_⟩) ?_
 rotate_left
 ·intro w9 hSw
  go_simp
  first | done | with_reducible rfl
 simp only [pP,pN,pS,pZ,pC]
 refine tk 16 (v:=?_) rfl (Or.inl ⟨by rfl,?_⟩) ?_
 rotate_left
 ·intro w9 hSw
  go_simp
  first | done | with_reducible rfl
 simp only [pP,pN,pS,pZ,pC]
 refine tk 18 (v:=?_) rfl (Or.inl ⟨by rfl,?_⟩) ?_
 rotate_left
 ·intro w9 hSw
  go_simp
  first | done | with_reducible rfl
 simp only [pP,pN,pS,pZ,pC]
 refine wpAnyH_ready (rs:=[1]) (by kernel_rfl) (by simp) ?_
 refine cons' rfl (fun KK hKK=>?_)
 have hz:=bN.size
 have hz2:=bel.size
 go_simp
 refine (H0.out _ hS0 hT0 hS1 hT1).mono ?_
 rintro e w2 ⟨p0,q0,r0,t0,rfl,n1,n2,n3,n4⟩
 have bC:=n1.below
 replace bel:=bel.trans (bC.mono bel.size)
 replace bN:=bN.trans (bC.mono bN.size)
 replace hS0:=hS0.later bC
 replace hT0:=hT0.later bC
 replace hS1:=hS1.later bC
 replace hT1:=hT1.later bC
 replace hS2:=hS2.later bC
 replace hT2:=hT2.later bC
 replace hS3:=hS3.later bC
 replace hT3:=hT3.later bC
 replace hS4:=hS4.later bC
 replace hT4:=hT4.later bC
 replace qa:=qa.later bC
 replace qb:=qb.later bC
 replace qc:=qc.later bC
 replace acc:=acc.later bC
 replace qs:=qs.later bC
 replace hHeld:=(⟨below_cell bC hHeld.1,below_cell bC hHeld.2.1,below_cell bC hHeld.2.2.1,below_cell bC hHeld.2.2.2.1,below_cell bC hHeld.2.2.2.2.1,below_cell bC hHeld.2.2.2.2.2.1,below_cell bC hHeld.2.2.2.2.2.2.1,below_cell bC hHeld.2.2.2.2.2.2.2.1,below_cell bC hHeld.2.2.2.2.2.2.2.2.1,below_cell bC hHeld.2.2.2.2.2.2.2.2.2.1,below_cell bC hHeld.2.2.2.2.2.2.2.2.2.2.1,below_cell bC hHeld.2.2.2.2.2.2.2.2.2.2.2.1,below_cell bC hHeld.2.2.2.2.2.2.2.2.2.2.2.2.1,below_cell bC hHeld.2.2.2.2.2.2.2.2.2.2.2.2.2.1,below_cell bC hHeld.2.2.2.2.2.2.2.2.2.2.2.2.2.2.1,below_cell bC hHeld.2.2.2.2.2.2.2.2.2.2.2.2.2.2.2.1,below_cell bC hHeld.2.2.2.2.2.2.2.2.2.2.2.2.2.2.2.2.1,below_cell bC hHeld.2.2.2.2.2.2.2.2.2.2.2.2.2.2.2.2.2⟩:_∧_∧_∧_∧_∧_∧_∧_∧_∧_∧_∧_∧_∧_∧_∧_∧_∧_)
 clear bC
 go_wp2_with fail
 refine hKK.out _ _ hHeld ?_
 clear hHeld
 intro hHeld
 clear hKK KK
 try simp only [pP,pN,pS,pZ,pC]
 replace acc:=acc.add (SL.four n1.seg n2.seg n3.seg n4.seg)
 clear n1 n2 n3 n4 hz hz2
 refine wpAnyH_ready (rs:=[3]) (by kernel_rfl) (by simp) ?_
 refine cons' rfl (fun KK hKK=>?_)
 have hz:=bN.size
 have hz2:=bel.size
 go_simp
 refine (H1.out _ hS4 hT4).mono ?_
 rintro e w3 ⟨p1,q1,r1,t1,rfl,n1,n2,n3,n4⟩
 have bC:=n1.below
 replace bel:=bel.trans (bC.mono bel.size)
 replace bN:=bN.trans (bC.mono bN.size)
 replace hS0:=hS0.later bC
 replace hT0:=hT0.later bC
 replace hS1:=hS1.later bC
 replace hT1:=hT1.later bC
 replace hS2:=hS2.later bC
 replace hT2:=hT2.later bC
 replace hS3:=hS3.later bC
 replace hT3:=hT3.later bC
 replace hS4:=hS4.later bC
 replace hT4:=hT4.later bC
 replace qa:=qa.later bC
 replace qb:=qb.later bC
 replace qc:=qc.later bC
 replace acc:=acc.later bC
 replace qs:=qs.later bC
 replace hHeld:=(⟨below_cell bC hHeld.1,below_cell bC hHeld.2.1,below_cell bC hHeld.2.2.1,below_cell bC hHeld.2.2.2.1,below_cell bC hHeld.2.2.2.2.1,below_cell bC hHeld.2.2.2.2.2.1,below_cell bC hHeld.2.2.2.2.2.2.1,below_cell bC hHeld.2.2.2.2.2.2.2.1,below_cell bC hHeld.2.2.2.2.2.2.2.2.1,below_cell bC hHeld.2.2.2.2.2.2.2.2.2.1,below_cell bC hHeld.2.2.2.2.2.2.2.2.2.2.1,below_cell bC hHeld.2.2.2.2.2.2.2.2.2.2.2.1,below_cell bC hHeld.2.2.2.2.2.2.2.2.2.2.2.2.1,below_cell bC hHeld.2.2.2.2.2.2.2.2.2.2.2.2.2.1,below_cell bC hHeld.2.2.2.2.2.2.2.2.2.2.2.2.2.2.1,below_cell bC hHeld.2.2.2.2.2.2.2.2.2.2.2.2.2.2.2.1,below_cell bC hHeld.2.2.2.2.2.2.2.2.2.2.2.2.2.2.2.2.1,below_cell bC hHeld.2.2.2.2.2.2.2.2.2.2.2.2.2.2.2.2.2⟩:_∧_∧_∧_∧_∧_∧_∧_∧_∧_∧_∧_∧_∧_∧_∧_∧_∧_)
 clear bC
 go_wp2_with fail
 refine hKK.out _ _ hHeld ?_
 clear hHeld
 intro hHeld
 clear hKK KK
 try simp only [pP,pN,pS,pZ,pC]
 replace acc:=acc.add (SL.four n1.seg n2.seg n3.seg n4.seg)
 clear n1 n2 n3 n4 hz hz2
 refine wpAnyH_ready (rs:=[5]) (by kernel_rfl) (by simp) ?_
 refine cons' rfl (fun KK hKK=>?_)
 have hz:=bN.size
 have hz2:=bel.size
 go_simp
 refine (H2.out _ hS0 hT0 hS1 hT1).mono ?_
 rintro e w4 ⟨p2,q2,r2,t2,rfl,n1,n2,n3,n4⟩
 have bC:=n1.below
 replace bel:=bel.trans (bC.mono bel.size)
 replace bN:=bN.trans (bC.mono bN.size)
 replace hS0:=hS0.later bC
 replace hT0:=hT0.later bC
 replace hS1:=hS1.later bC
 replace hT1:=hT1.later bC
 replace hS2:=hS2.later bC
 replace hT2:=hT2.later bC
 replace hS3:=hS3.later bC
 replace hT3:=hT3.later bC
 replace hS4:=hS4.later bC
 replace hT4:=hT4.later bC
 replace qa:=qa.later bC
 replace qb:=qb.later bC
 replace qc:=qc.later bC
 replace acc:=acc.later bC
 replace qs:=qs.later bC
 replace hHeld:=(⟨below_cell bC hHeld.1,below_cell bC hHeld.2.1,below_cell bC hHeld.2.2.1,below_cell bC hHeld.2.2.2.1,below_cell bC hHeld.2.2.2.2.1,below_cell bC hHeld.2.2.2.2.2.1,below_cell bC hHeld.2.2.2.2.2.2.1,below_cell bC hHeld.2.2.2.2.2.2.2.1,below_cell bC hHeld.2.2.2.2.2.2.2.2.1,below_cell bC hHeld.2.2.2.2.2.2.2.2.2.1,below_cell bC hHeld.2.2.2.2.2.2.2.2.2.2.1,below_cell bC hHeld.2.2.2.2.2.2.2.2.2.2.2.1,below_cell bC hHeld.2.2.2.2.2.2.2.2.2.2.2.2.1,below_cell bC hHeld.2.2.2.2.2.2.2.2.2.2.2.2.2.1,below_cell bC hHeld.2.2.2.2.2.2.2.2.2.2.2.2.2.2.1,below_cell bC hHeld.2.2.2.2.2.2.2.2.2.2.2.2.2.2.2.1,below_cell bC hHeld.2.2.2.2.2.2.2.2.2.2.2.2.2.2.2.2.1,below_cell bC hHeld.2.2.2.2.2.2.2.2.2.2.2.2.2.2.2.2.2⟩:_∧_∧_∧_∧_∧_∧_∧_∧_∧_∧_∧_∧_∧_∧_∧_∧_∧_)
 clear bC
 go_wp2_with fail
 refine hKK.out _ _ hHeld ?_
 clear hHeld
 intro hHeld
 clear hKK KK
 try simp only [pP,pN,pS,pZ,pC]
 replace acc:=acc.add (SL.four n1.seg n2.seg n3.seg n4.seg)
 clear n1 n2 n3 n4 hz hz2
 refine wpAnyH_ready (rs:=[8]) (by kernel_rfl) (by simp) ?_
 refine cons' rfl (fun KK hKK=>?_)
 have hz:=bN.size
 have hz2:=bel.size
 go_simp
 refine (H3.out _ hS0 hT0 hS1 hT1 hS2 hT2 hS3 hT3).mono ?_
 rintro e w5 ⟨p3,q3,r3,t3,rfl,n1,n2,n3,n4⟩
 have bC:=n1.below
 replace bel:=bel.trans (bC.mono bel.size)
 replace bN:=bN.trans (bC.mono bN.size)
 replace hS0:=hS0.later bC
 replace hT0:=hT0.later bC
 replace hS1:=hS1.later bC
 replace hT1:=hT1.later bC
 replace hS2:=hS2.later bC
 replace hT2:=hT2.later bC
 replace hS3:=hS3.later bC
 replace hT3:=hT3.later bC
 replace hS4:=hS4.later bC
 replace hT4:=hT4.later bC
 replace qa:=qa.later bC
 replace qb:=qb.later bC
 replace qc:=qc.later bC
 replace acc:=acc.later bC
 replace qs:=qs.later bC
 replace hHeld:=(⟨below_cell bC hHeld.1,below_cell bC hHeld.2.1,below_cell bC hHeld.2.2.1,below_cell bC hHeld.2.2.2.1,below_cell bC hHeld.2.2.2.2.1,below_cell bC hHeld.2.2.2.2.2.1,below_cell bC hHeld.2.2.2.2.2.2.1,below_cell bC hHeld.2.2.2.2.2.2.2.1,below_cell bC hHeld.2.2.2.2.2.2.2.2.1,below_cell bC hHeld.2.2.2.2.2.2.2.2.2.1,below_cell bC hHeld.2.2.2.2.2.2.2.2.2.2.1,below_cell bC hHeld.2.2.2.2.2.2.2.2.2.2.2.1,below_cell bC hHeld.2.2.2.2.2.2.2.2.2.2.2.2.1,below_cell bC hHeld.2.2.2.2.2.2.2.2.2.2.2.2.2.1,below_cell bC hHeld.2.2.2.2.2.2.2.2.2.2.2.2.2.2.1,below_cell bC hHeld.2.2.2.2.2.2.2.2.2.2.2.2.2.2.2.1,below_cell bC hHeld.2.2.2.2.2.2.2.2.2.2.2.2.2.2.2.2.1,below_cell bC hHeld.2.2.2.2.2.2.2.2.2.2.2.2.2.2.2.2.2⟩:_∧_∧_∧_∧_∧_∧_∧_∧_∧_∧_∧_∧_∧_∧_∧_∧_∧_)
 clear bC
 go_wp2_with fail
 refine hKK.out _ _ hHeld ?_
 clear hHeld
 intro hHeld
 clear hKK KK
 try simp only [pP,pN,pS,pZ,pC]
 replace acc:=acc.add (SL.four n1.seg n2.seg n3.seg n4.seg)
 clear n1 n2 n3 n4 hz hz2
 refine wpAnyH_ready (rs:=[11]) (by kernel_rfl) (by simp) ?_
 refine cons' rfl (fun KK hKK=>?_)
 have hz:=bN.size
 have hz2:=bel.size
 go_simp
 refine (H4.out _ hS0 hT0 hS1 hT1 hS2 hT2 hS3 hT3).mono ?_
 rintro e w6 ⟨p4,q4,r4,t4,rfl,n1,n2,n3,n4⟩
 have bC:=n1.below
 replace bel:=bel.trans (bC.mono bel.size)
 replace bN:=bN.trans (bC.mono bN.size)
 replace hS0:=hS0.later bC
 replace hT0:=hT0.later bC
 replace hS1:=hS1.later bC
 replace hT1:=hT1.later bC
 replace hS2:=hS2.later bC
 replace hT2:=hT2.later bC
 replace hS3:=hS3.later bC
 replace hT3:=hT3.later bC
 replace hS4:=hS4.later bC
 replace hT4:=hT4.later bC
 replace qa:=qa.later bC
 replace qb:=qb.later bC
 replace qc:=qc.later bC
 replace acc:=acc.later bC
 replace qs:=qs.later bC
 replace hHeld:=(⟨below_cell bC hHeld.1,below_cell bC hHeld.2.1,below_cell bC hHeld.2.2.1,below_cell bC hHeld.2.2.2.1,below_cell bC hHeld.2.2.2.2.1,below_cell bC hHeld.2.2.2.2.2.1,below_cell bC hHeld.2.2.2.2.2.2.1,below_cell bC hHeld.2.2.2.2.2.2.2.1,below_cell bC hHeld.2.2.2.2.2.2.2.2.1,below_cell bC hHeld.2.2.2.2.2.2.2.2.2.1,below_cell bC hHeld.2.2.2.2.2.2.2.2.2.2.1,below_cell bC hHeld.2.2.2.2.2.2.2.2.2.2.2.1,below_cell bC hHeld.2.2.2.2.2.2.2.2.2.2.2.2.1,below_cell bC hHeld.2.2.2.2.2.2.2.2.2.2.2.2.2.1,below_cell bC hHeld.2.2.2.2.2.2.2.2.2.2.2.2.2.2.1,below_cell bC hHeld.2.2.2.2.2.2.2.2.2.2.2.2.2.2.2.1,below_cell bC hHeld.2.2.2.2.2.2.2.2.2.2.2.2.2.2.2.2.1,below_cell bC hHeld.2.2.2.2.2.2.2.2.2.2.2.2.2.2.2.2.2⟩:_∧_∧_∧_∧_∧_∧_∧_∧_∧_∧_∧_∧_∧_∧_∧_∧_∧_)
 clear bC
 go_wp2_with fail
 refine hKK.out _ _ hHeld ?_
 clear hHeld
 intro hHeld
 clear hKK KK
 try simp only [pP,pN,pS,pZ,pC]
 replace acc:=acc.add (SL.four n1.seg n2.seg n3.seg n4.seg)
 clear n1 n2 n3 n4 hz hz2
 refine wpAnyH_ready (rs:=[14]) (by kernel_rfl) (by simp) ?_
 refine cons' rfl (fun KK hKK=>?_)
 have hz:=bN.size
 have hz2:=bel.size
 go_simp
 refine (H5.out _ hS4 hT4 hS0 hT0 hS1 hT1).mono ?_
 rintro e w7 ⟨p5,q5,r5,t5,rfl,n1,n2,n3,n4⟩
 have bC:=n1.below
 replace bel:=bel.trans (bC.mono bel.size)
 replace bN:=bN.trans (bC.mono bN.size)
 replace hS0:=hS0.later bC
 replace hT0:=hT0.later bC
 replace hS1:=hS1.later bC
 replace hT1:=hT1.later bC
 replace hS2:=hS2.later bC
 replace hT2:=hT2.later bC
 replace hS3:=hS3.later bC
 replace hT3:=hT3.later bC
 replace hS4:=hS4.later bC
 replace hT4:=hT4.later bC
 replace qa:=qa.later bC
 replace qb:=qb.later bC
 replace qc:=qc.later bC
 replace acc:=acc.later bC
 replace qs:=qs.later bC
 replace hHeld:=(⟨below_cell bC hHeld.1,below_cell bC hHeld.2.1,below_cell bC hHeld.2.2.1,below_cell bC hHeld.2.2.2.1,below_cell bC hHeld.2.2.2.2.1,below_cell bC hHeld.2.2.2.2.2.1,below_cell bC hHeld.2.2.2.2.2.2.1,below_cell bC hHeld.2.2.2.2.2.2.2.1,below_cell bC hHeld.2.2.2.2.2.2.2.2.1,below_cell bC hHeld.2.2.2.2.2.2.2.2.2.1,below_cell bC hHeld.2.2.2.2.2.2.2.2.2.2.1,below_cell bC hHeld.2.2.2.2.2.2.2.2.2.2.2.1,below_cell bC hHeld.2.2.2.2.2.2.2.2.2.2.2.2.1,below_cell bC hHeld.2.2.2.2.2.2.2.2.2.2.2.2.2.1,below_cell bC hHeld.2.2.2.2.2.2.2.2.2.2.2.2.2.2.1,below_cell bC hHeld.2.2.2.2.2.2.2.2.2.2.2.2.2.2.2.1,below_cell bC hHeld.2.2.2.2.2.2.2.2.2.2.2.2.2.2.2.2.1,below_cell bC hHeld.2.2.2.2.2.2.2.2.2.2.2.2.2.2.2.2.2⟩:_∧_∧_∧_∧_∧_∧_∧_∧_∧_∧_∧_∧_∧_∧_∧_∧_∧_)
 clear bC
 go_wp2_with fail
 refine hKK.out _ _ hHeld ?_
 clear hHeld
 intro hHeld
 clear hKK KK
 try simp only [pP,pN,pS,pZ,pC]
 replace acc:=acc.add (SL.four n1.seg n2.seg n3.seg n4.seg)
 clear n1 n2 n3 n4 hz hz2
 refine wpAnyH_ready (rs:=[17]) (by kernel_rfl) (by simp) ?_
 refine cons' rfl (fun KK hKK=>?_)
 have hz:=bN.size
 have hz2:=bel.size
 go_simp
 refine (H6.out _ hS0 hT0 hS1 hT1 hS4 hT4).mono ?_
 rintro e w8 ⟨p6,q6,rfl,n1,n2⟩
 have bC:=n1.below
 replace bel:=bel.trans (bC.mono bel.size)
 replace bN:=bN.trans (bC.mono bN.size)
 replace hS0:=hS0.later bC
 replace hT0:=hT0.later bC
 replace hS1:=hS1.later bC
 replace hT1:=hT1.later bC
 replace hS2:=hS2.later bC
 replace hT2:=hT2.later bC
 replace hS3:=hS3.later bC
 replace hT3:=hT3.later bC
 replace hS4:=hS4.later bC
 replace hT4:=hT4.later bC
 replace qa:=qa.later bC
 replace qb:=qb.later bC
 replace qc:=qc.later bC
 replace acc:=acc.later bC
 replace qs:=qs.later bC
 replace hHeld:=(⟨below_cell bC hHeld.1,below_cell bC hHeld.2.1,below_cell bC hHeld.2.2.1,below_cell bC hHeld.2.2.2.1,below_cell bC hHeld.2.2.2.2.1,below_cell bC hHeld.2.2.2.2.2.1,below_cell bC hHeld.2.2.2.2.2.2.1,below_cell bC hHeld.2.2.2.2.2.2.2.1,below_cell bC hHeld.2.2.2.2.2.2.2.2.1,below_cell bC hHeld.2.2.2.2.2.2.2.2.2.1,below_cell bC hHeld.2.2.2.2.2.2.2.2.2.2.1,below_cell bC hHeld.2.2.2.2.2.2.2.2.2.2.2.1,below_cell bC hHeld.2.2.2.2.2.2.2.2.2.2.2.2.1,below_cell bC hHeld.2.2.2.2.2.2.2.2.2.2.2.2.2.1,below_cell bC hHeld.2.2.2.2.2.2.2.2.2.2.2.2.2.2.1,below_cell bC hHeld.2.2.2.2.2.2.2.2.2.2.2.2.2.2.2.1,below_cell bC hHeld.2.2.2.2.2.2.2.2.2.2.2.2.2.2.2.2.1,below_cell bC hHeld.2.2.2.2.2.2.2.2.2.2.2.2.2.2.2.2.2⟩:_∧_∧_∧_∧_∧_∧_∧_∧_∧_∧_∧_∧_∧_∧_∧_∧_∧_)
 clear bC
 go_wp2_with fail
 refine hKK.out _ _ hHeld ?_
 clear hHeld
 intro hHeld
 clear hKK KK
 try simp only [pP,pN,pS,pZ,pC]
 replace acc:=acc.add (SL.two n1.seg n2.seg)
 clear n1 n2 hz hz2
 refine tk 19 (v:=?_) rfl (Or.inl ⟨by rfl,?_⟩) ?_
 rotate_left
 ·intro w9 hSw
  go_simp
  first | done | with_reducible rfl
 simp only [pP,pN,pS,pZ,pC]
 refine wpAnyH_ready (rs:=[20]) (by kernel_rfl) (by simp) ?_
 refine cons' rfl (fun KK hKK=>?_)
 go_simp
 have qR:=Blk.new w8 #[.bool (ng Z0),.slice p0 (ln (am Z0)) (ln (am Z0)),.slice q0 (ln V0) (ln V0),.bool (ng W0),.slice r0 (ln (am W0)) (ln (am W0)),.slice t0 (ln U0) (ln U0),.bool (ng Z1),.slice p1 (ln (am Z1)) (ln (am Z1)),.slice q1 (ln V1) (ln V1),.bool (ng W1),.slice r1 (ln (am W1)) (ln (am W1)),.slice t1 (ln U1) (ln U1),.bool (ng Z2),.slice p2 (ln (am Z2)) (ln (am Z2)),.slice q2 (ln V2) (ln V2),.bool (ng W2),.slice r2 (ln (am W2)) (ln (am W2)),.slice t2 (ln U2) (ln U2),.bool (ng Z3),.slice p3 (ln (am Z3)) (ln (am Z3)),.slice q3 (ln V3) (ln V3),.bool (ng W3),.slice r3 (ln (am W3)) (ln (am W3)),.slice t3 (ln U3) (ln U3),.bool (ng Z4),.slice p4 (ln (am Z4)) (ln (am Z4)),.slice q4 (ln V4) (ln V4),.bool (ng W4),.slice r4 (ln (am W4)) (ln (am W4)),.slice t4 (ln U4) (ln U4),.bool (ng Z5),.slice p5 (ln (am Z5)) (ln (am Z5)),.slice q5 (ln V5) (ln V5),.bool (ng W5),.slice r5 (ln (am W5)) (ln (am W5)),.slice t5 (ln U5) (ln U5),.bool (ng Z6),.slice p6 (ln (am Z6)) (ln (am Z6)),.slice q6 (ln V6) (ln V6),.bool (ng W6),.slice r6 (ln (am W6)) (ln (am W6)),.slice t6 (ln U6) (ln U6)] 29
 have bA:=below_alloc (w:=w8) (.cells #[.bool (ng Z0),.slice p0 (ln (am Z0)) (ln (am Z0)),.slice q0 (ln V0) (ln V0),.bool (ng W0),.slice r0 (ln (am W0)) (ln (am W0)),.slice t0 (ln U0) (ln U0),.bool (ng Z1),.slice p1 (ln (am Z1)) (ln (am Z1)),.slice q1 (ln V1) (ln V1),.bool (ng W1),.slice r1 (ln (am W1)) (ln (am W1)),.slice t1 (ln U1) (ln U1),.bool (ng Z2),.slice p2 (ln (am Z2)) (ln (am Z2)),.slice q2 (ln V2) (ln V2),.bool (ng W2),.slice r2 (ln (am W2)) (ln (am W2)),.slice t2 (ln U2) (ln U2),.bool (ng Z3),.slice p3 (ln (am Z3)) (ln (am Z3)),.slice q3 (ln V3) (ln V3),.bool (ng W3),.slice r3 (ln (am W3)) (ln (am W3)),.slice t3 (ln U3) (ln U3),.bool (ng Z4),.slice p4 (ln (am Z4)) (ln (am Z4)),.slice q4 (ln V4) (ln V4),.bool (ng W4),.slice r4 (ln (am W4)) (ln (am W4)),.slice t4 (ln U4) (ln U4),.bool (ng Z5),.slice p5 (ln (am Z5)) (ln (am Z5)),.slice q5 (ln V5) (ln V5),.bool (ng W5),.slice r5 (ln (am W5)) (ln (am W5)),.slice t5 (ln U5) (ln U5),.bool (ng Z6),.slice p6 (ln (am Z6)) (ln (am Z6)),.slice q6 (ln V6) (ln V6),.bool (ng W6),.slice r6 (ln (am W6)) (ln (am W6)),.slice t6 (ln U6) (ln U6)] 29)
 generalize w8.alloc (.cells #[.bool (ng Z0),.slice p0 (ln (am Z0)) (ln (am Z0)),.slice q0 (ln V0) (ln V0),.bool (ng W0),.slice r0 (ln (am W0)) (ln (am W0)),.slice t0 (ln U0) (ln U0),.bool (ng Z1),.slice p1 (ln (am Z1)) (ln (am Z1)),.slice q1 (ln V1) (ln V1),.bool (ng W1),.slice r1 (ln (am W1)) (ln (am W1)),.slice t1 (ln U1) (ln U1),.bool (ng Z2),.slice p2 (ln (am Z2)) (ln (am Z2)),.slice q2 (ln V2) (ln V2),.bool (ng W2),.slice r2 (ln (am W2)) (ln (am W2)),.slice t2 (ln U2) (ln U2),.bool (ng Z3),.slice p3 (ln (am Z3)) (ln (am Z3)),.slice q3 (ln V3) (ln V3),.bool (ng W3),.slice r3 (ln (am W3)) (ln (am W3)),.slice t3 (ln U3) (ln U3),.bool (ng Z4),.slice p4 (ln (am Z4)) (ln (am Z4)),.slice q4 (ln V4) (ln V4),.bool (ng W4),.slice r4 (ln (am W4)) (ln (am W4)),.slice t4 (ln U4) (ln U4),.bool (ng Z5),.slice p5 (ln (am Z5)) (ln (am Z5)),.slice q5 (ln V5) (ln V5),.bool (ng W5),.slice r5 (ln (am W5)) (ln (am W5)),.slice t5 (ln U5) (ln U5),.bool (ng Z6),.slice p6 (ln (am Z6)) (ln (am Z6)),.slice q6 (ln V6) (ln V6),.bool (ng W6),.slice r6 (ln (am W6)) (ln (am W6)),.slice t6 (ln U6) (ln U6)] 29)=w9 at qR bA ⊢
 replace bel:=bel.trans (bA.mono bel.size)
 replace bN:=bN.trans (bA.mono bN.size)
 replace hS0:=hS0.later bA
 replace hT0:=hT0.later bA
 replace hS1:=hS1.later bA
 replace hT1:=hT1.later bA
 replace hS2:=hS2.later bA
 replace hT2:=hT2.later bA
 replace hS3:=hS3.later bA
 replace hT3:=hT3.later bA
 replace hS4:=hS4.later bA
 replace hT4:=hT4.later bA
 replace qa:=qa.later bA
 replace qb:=qb.later bA
 replace qc:=qc.later bA
 replace acc:=acc.later bA
 replace qs:=qs.later bA
 replace hHeld:=(⟨below_cell bA hHeld.1,below_cell bA hHeld.2.1,below_cell bA hHeld.2.2.1,below_cell bA hHeld.2.2.2.1,below_cell bA hHeld.2.2.2.2.1,below_cell bA hHeld.2.2.2.2.2.1,below_cell bA hHeld.2.2.2.2.2.2.1,below_cell bA hHeld.2.2.2.2.2.2.2.1,below_cell bA hHeld.2.2.2.2.2.2.2.2.1,below_cell bA hHeld.2.2.2.2.2.2.2.2.2.1,below_cell bA hHeld.2.2.2.2.2.2.2.2.2.2.1,below_cell bA hHeld.2.2.2.2.2.2.2.2.2.2.2.1,below_cell bA hHeld.2.2.2.2.2.2.2.2.2.2.2.2.1,below_cell bA hHeld.2.2.2.2.2.2.2.2.2.2.2.2.2.1,below_cell bA hHeld.2.2.2.2.2.2.2.2.2.2.2.2.2.2.1,below_cell bA hHeld.2.2.2.2.2.2.2.2.2.2.2.2.2.2.2.1,below_cell bA hHeld.2.2.2.2.2.2.2.2.2.2.2.2.2.2.2.2.1,below_cell bA hHeld.2.2.2.2.2.2.2.2.2.2.2.2.2.2.2.2.2⟩:_∧_∧_∧_∧_∧_∧_∧_∧_∧_∧_∧_∧_∧_∧_∧_∧_∧_)
 clear bA
 refine hKK.out _ _ hHeld ?_
 clear hHeld
 intro hHeld
 clear hKK KK
 try simp only [pP,pN,pS,pZ,pC]
 obtain ⟨cR,hcR⟩:∃ c,w8.heap.size=c:=⟨_,rfl⟩
 rw [hcR] at qR
 try rw [hcR]
 clear hcR
 refine tk 21 (v:=?_) rfl (Or.inl ⟨by rfl,?_⟩) ?_
 rotate_left
 ·intro w9 hSw
  go_simp
  first | done | with_reducible rfl
 simp only [pP,pN,pS,pZ,pC]
 refine wpAnyH_done (by kernel_rfl) ?_ _
 go_wp2
 have e:=List.perm_append_comm (l₁:=[(r6,am W6),(t6,U6)]) (l₂:=[(p0,am Z0),(q0,V0),(r0,am W0),(t0,U0),(p1,am Z1),(q1,V1),(r1,am W1),(t1,U1),(p2,am Z2),(q2,V2),(r2,am W2),(t2,U2),(p3,am Z3),(q3,V3),(r3,am W3),(t3,U3),(p4,am Z4),(q4,V4),(r4,am W4),(t4,U4),(p5,am Z5),(q5,V5),(r5,am W5),(t5,U5),(p6,am Z6),(q6,V6)])
 simp only [List.cons_append,List.nil_append] at e acc
 go_ret
 unfold WanP
 exact ⟨cR,p0,q0,r0,t0,p1,q1,r1,t1,p2,q2,r2,t2,p3,q3,r3,t3,p4,q4,r4,t4,p5,q5,r5,t5,p6,q6,r6,t6,rfl,bel,qR,acc.perm e⟩
def SM (W:World) (xs:List (Option Addr × Nat × Nat)):Prop:=∀ x∈xs,Seg W x.1 x.2.1 x.2.2
theorem SM.later {W W':World} {xs:List (Option Addr × Nat × Nat)} (h:SM W xs) (hb:Below W.heap.size W W'):SM W' xs:=fun x hx=>(h x hx).below hb (Nat.le_refl _)
theorem SM.ch {c:Nat} {W W':World} {xs:List (Option Addr × Nat × Nat)} (h:SM W xs) (k:Ch c W W') (hno:∀ o i,W.cell? ⟨c,o,none⟩≠some (.int .u32 i)):SM W' xs:=fun x hx=>(h x hx).ch k hno
theorem SM.nil (W:World):SM W []:=fun x hx=>absurd hx (by simp)
theorem SM.cons {W:World} {xs:List (Option Addr × Nat × Nat)} {a:Option Addr} {X n:Nat} (h:Seg W a X n) (k:SM W xs):SM W ((a,X,n) :: xs):=fun x hx=>by
 rcases List.mem_cons.1 hx with c | c
 ·subst c;exact h
 ·exact k x c
theorem SM.head {W:World} {xs:List (Option Addr × Nat × Nat)} {a:Option Addr} {X n:Nat} (h:SM W ((a,X,n) :: xs)):Seg W a X n:=h (a,X,n) List.mem_cons_self
theorem SM.tail {W:World} {xs:List (Option Addr × Nat × Nat)} {x:Option Addr × Nat × Nat} (h:SM W (x :: xs)):SM W xs:=fun y hy=>h y (List.mem_cons_of_mem _ hy)
theorem Blk.set6 {c:Nat} {W:World} {u0 u1 u2 u3 u4 u5:Value} {t:TypeId} (h:Blk W c #[u0,u1,u2,u3,u4,u5] t) (v0 v1 v2 v3 v4 v5:Value) :
  Ch c W ((((((W.setCell ⟨c,0,none⟩ v0).setCell ⟨c,1,none⟩ v1).setCell ⟨c,2,none⟩ v2).setCell ⟨c,3,none⟩ v3).setCell ⟨c,4,none⟩ v4).setCell ⟨c,5,none⟩ v5)∧Blk ((((((W.setCell ⟨c,0,none⟩ v0).setCell ⟨c,1,none⟩ v1).setCell ⟨c,2,none⟩ v2).setCell ⟨c,3,none⟩ v3).setCell ⟨c,4,none⟩ v4).setCell ⟨c,5,none⟩ v5) c #[v0,v1,v2,v3,v4,v5] t:=by
 refine ⟨(((((Ch.set v0).trans (Ch.set v1)).trans (Ch.set v2)).trans (Ch.set v3)).trans (Ch.set v4)).trans (Ch.set v5),?_⟩
 simp [Blk,World.setCell,Array.getElem?_modify,show W.heap[c]?=_ from h]
set_option maxHeartbeats 1000000 in
theorem rawInt (s:Bool) (X n:Nat) (ao ao2:Option Addr) (cap cap2:Nat) (w:World) (hm:n≤70368744177664) (hS:Seg w ao X n) (hS2:Seg w ao2 X n) :
  Calls Tryz.prog 36 #[.agg #[.bool s,.slice ao n cap],.agg #[.bool s,.slice ao2 n cap2]] w fun e w'=>e=.returned (.bool true)∧Below w.heap.size w w':=by
 have hs:=sameB_self n X
 have hB:Below w.heap.size w ((w.alloc (.cells #[.bool s,.slice ao n cap] 25)).alloc (.cells #[.bool s,.slice ao2 n cap2] 25)):=((Below.refl _ _).alloc (Nat.le_refl _) _).alloc (by rw [World.size_alloc];omega) _
 have hbb:(s == s)=true:=by simp
 go_enter Tryz.func36,Tryz.ntmps36
 go_wp2_with fail
 refine (SameNat_any ao ao2 _ _ X _ _ X _ hm hm (hS.below hB (Nat.le_refl _)) (hS2.below hB (Nat.le_refl _))).mono ?_
 rintro e w1 ⟨rfl,hd⟩
 go_wp2
 go_ret
 exact ⟨rfl,hB.trans (hd.below _)⟩
set_option maxHeartbeats 2000000 in
set_option maxRecDepth 100000 in
theorem rawRat (s:Bool) (X Y n m:Nat) (p q p1 q1:Option Addr) (c d c1 d1:Nat) (w:World) (h1:n≤70368744177664) (h2:m≤70368744177664) (hS:Seg w p X n) (hT:Seg w q Y m) (hS1:Seg w p1 X n) (hT1:Seg w q1 Y m) :
  Calls Tryz.prog 14 #[Value.agg #[Value.bool s,Value.slice p n c,Value.slice q m d],Value.agg #[Value.bool s,Value.slice p1 n c1,Value.slice q1 m d1]] w fun e w'=>e=.returned (.bool true)∧Below w.heap.size w w':=by
 have HI:=hide' (fun w' k1 k2=>rawInt s X n p p1 c c1 w' h1 k1 k2)
 have HN':=fun w' k1 k2=>SameNat_any q q1 m d Y m d1 Y w' h2 h2 k1 k2
 rw [sameB_self] at HN'
 have HN:=hide' HN'
 clear HN'
 go_enter Tryz.func14,Tryz.ntmps14
 go_wp2_with fail
 obtain ⟨W,hW⟩:∃ W,((w.alloc (.cells #[.bool s,.slice p n c,.slice q m d] 27)).alloc (.cells #[.bool s,.slice p1 n c1,.slice q1 m d1] 27))=W:=⟨_,rfl⟩
 have q00:W.cell? ⟨w.heap.size,0,none⟩=some (.bool s):=by subst hW;go_simp
 have q01:W.cell? ⟨w.heap.size,1,none⟩=some (.slice p n c):=by subst hW;go_simp
 have q02:W.cell? ⟨w.heap.size,2,none⟩=some (.slice q m d):=by subst hW;go_simp
 have q10:W.cell? ⟨w.heap.size+1,0,none⟩=some (.bool s):=by subst hW;go_simp
 have q11:W.cell? ⟨w.heap.size+1,1,none⟩=some (.slice p1 n c1):=by subst hW;go_simp
 have q12:W.cell? ⟨w.heap.size+1,2,none⟩=some (.slice q1 m d1):=by subst hW;go_simp
 have hB:Below w.heap.size w W:=by subst hW;exact (((Below.refl _ _).alloc (by (try simp only [World.size_alloc]);omega) _).alloc (by (try simp only [World.size_alloc]);omega) _)
 have hz:W.heap.size=w.heap.size+1+1:=by subst hW;simp only [World.size_alloc]
 rw [hW]
 clear hW
 have hBW:Below W.heap.size W W:=Below.refl _ _
 refine (HI.out _ (sb hS hB hBW) (sb hS1 hB hBW)).mono ?_
 rintro e w1 ⟨rfl,b1⟩
 replace hBW:=hBW.trans (b1.mono hBW.size)
 replace q00:=below_cell b1 q00
 replace q01:=below_cell b1 q01
 replace q02:=below_cell b1 q02
 replace q10:=below_cell b1 q10
 replace q11:=below_cell b1 q11
 replace q12:=below_cell b1 q12
 go_wp2_with fail
 refine (HN.out _ (sb hT hB hBW) (sb hT1 hB hBW)).mono ?_
 rintro e2 w2 ⟨rfl,hd⟩
 go_wp2
 go_ret
 exact ⟨rfl,(hB.trans (hBW.mono hB.size)).trans (hd.below _)⟩
set_option maxHeartbeats 2000000 in
set_option maxRecDepth 100000 in
theorem rawDelta (s s2:Bool) (X Y X2 Y2 n m k l:Nat) (p q r t p1 q1 r1 t1:Option Addr) (c d c2 d2 c3 d3 c4 d4:Nat) (w:World) (h1:n≤70368744177664) (h2:m≤70368744177664) (h3:k≤70368744177664) (h4:l≤70368744177664) (hA:SM w [(p,X,n),(q,Y,m),(r,X2,k),(t,Y2,l)]) (hC:SM w [(p1,X,n),(q1,Y,m),(r1,X2,k),(t1,Y2,l)]) :
  Calls Tryz.prog 13 #[Value.agg #[Value.bool s,Value.slice p n c,Value.slice q m d,Value.bool s2,Value.slice r k c2,Value.slice t l d2],Value.agg #[Value.bool s,Value.slice p1 n c3,Value.slice q1 m d3,Value.bool s2,Value.slice r1 k c4,Value.slice t1 l d4]] w fun e w'=>e=.returned (.bool true)∧Below w.heap.size w w':=by
 obtain ⟨hS,hT,hS2,hT2⟩:Seg w p X n∧Seg w q Y m∧Seg w r X2 k∧Seg w t Y2 l:=⟨hA.head,hA.tail.head,hA.tail.tail.head,hA.tail.tail.tail.head⟩
 obtain ⟨hS1,hT1,hS3,hT3⟩:Seg w p1 X n∧Seg w q1 Y m∧Seg w r1 X2 k∧Seg w t1 Y2 l:=⟨hC.head,hC.tail.head,hC.tail.tail.head,hC.tail.tail.tail.head⟩
 clear hA hC
 have HI:=hide' (fun w' k1 k2 k3 k4=>rawRat s X Y n m p q p1 q1 c d c3 d3 w' h1 h2 k1 k2 k3 k4)
 have HJ:=hide' (fun w' k1 k2 k3 k4=>rawRat s2 X2 Y2 k l r t r1 t1 c2 d2 c4 d4 w' h3 h4 k1 k2 k3 k4)
 go_enter Tryz.func13,Tryz.ntmps13
 go_wp2_with fail
 obtain ⟨W,hW⟩:∃ W,((w.alloc (.cells #[.bool s,.slice p n c,.slice q m d,.bool s2,.slice r k c2,.slice t l d2] 29)).alloc (.cells #[.bool s,.slice p1 n c3,.slice q1 m d3,.bool s2,.slice r1 k c4,.slice t1 l d4] 29))=W:=⟨_,rfl⟩
 have q00:W.cell? ⟨w.heap.size,0,none⟩=some (.bool s):=by subst hW;go_simp
 have q01:W.cell? ⟨w.heap.size,1,none⟩=some (.slice p n c):=by subst hW;go_simp
 have q02:W.cell? ⟨w.heap.size,2,none⟩=some (.slice q m d):=by subst hW;go_simp
 have q03:W.cell? ⟨w.heap.size,3,none⟩=some (.bool s2):=by subst hW;go_simp
 have q04:W.cell? ⟨w.heap.size,4,none⟩=some (.slice r k c2):=by subst hW;go_simp
 have q05:W.cell? ⟨w.heap.size,5,none⟩=some (.slice t l d2):=by subst hW;go_simp
 have q10:W.cell? ⟨w.heap.size+1,0,none⟩=some (.bool s):=by subst hW;go_simp
 have q11:W.cell? ⟨w.heap.size+1,1,none⟩=some (.slice p1 n c3):=by subst hW;go_simp
 have q12:W.cell? ⟨w.heap.size+1,2,none⟩=some (.slice q1 m d3):=by subst hW;go_simp
 have q13:W.cell? ⟨w.heap.size+1,3,none⟩=some (.bool s2):=by subst hW;go_simp
 have q14:W.cell? ⟨w.heap.size+1,4,none⟩=some (.slice r1 k c4):=by subst hW;go_simp
 have q15:W.cell? ⟨w.heap.size+1,5,none⟩=some (.slice t1 l d4):=by subst hW;go_simp
 have hB:Below w.heap.size w W:=by subst hW;exact (((Below.refl _ _).alloc (by (try simp only [World.size_alloc]);omega) _).alloc (by (try simp only [World.size_alloc]);omega) _)
 have hz:W.heap.size=w.heap.size+1+1:=by subst hW;simp only [World.size_alloc]
 rw [hW]
 clear hW
 have hBW:Below W.heap.size W W:=Below.refl _ _
 refine (HI.out _ (sb hS hB hBW) (sb hT hB hBW) (sb hS1 hB hBW) (sb hT1 hB hBW)).mono ?_
 rintro e w1 ⟨rfl,b1⟩
 replace hBW:=hBW.trans (b1.mono hBW.size)
 replace q00:=below_cell b1 q00
 replace q01:=below_cell b1 q01
 replace q02:=below_cell b1 q02
 replace q03:=below_cell b1 q03
 replace q04:=below_cell b1 q04
 replace q05:=below_cell b1 q05
 replace q10:=below_cell b1 q10
 replace q11:=below_cell b1 q11
 replace q12:=below_cell b1 q12
 replace q13:=below_cell b1 q13
 replace q14:=below_cell b1 q14
 replace q15:=below_cell b1 q15
 go_wp2_with fail
 refine (HJ.out _ (sb hS2 hB hBW) (sb hT2 hB hBW) (sb hS3 hB hBW) (sb hT3 hB hBW)).mono ?_
 rintro e2 w2 ⟨rfl,hd⟩
 go_wp2
 go_ret
 exact ⟨rfl,(hB.trans (hBW.mono hB.size)).trans (hd.mono (Nat.le_trans hB.size hBW.size))⟩
theorem twin_sm (s0:Bool) (a0:Option Addr) (n0 c0 X0:Nat) (b0:Option Addr) (m0 d0 Y0:Nat) (s1:Bool) (a1:Option Addr) (n1 c1 X1:Nat) (b1:Option Addr) (m1 d1 Y1:Nat) (w:World) (hc0:n0≤c0) (hm0:n0≤1048576) (hS0:Seg w a0 X0 n0) (hd0:m0≤d0) (hk0:m0≤1048576) (hT0:Seg w b0 Y0 m0) (hc1:n1≤c1) (hm1:n1≤1048576) (hS1:Seg w a1 X1 n1) (hd1:m1≤d1) (hk1:m1≤1048576) (hT1:Seg w b1 Y1 m1) :
  Calls Tryz.prog 4 #[Value.agg #[Value.bool s0,Value.slice a0 n0 c0,Value.slice b0 m0 d0,Value.bool s1,Value.slice a1 n1 c1,Value.slice b1 m1 d1]] w fun e w'=>∃ p q r t,e=.returned (.agg #[.bool s0,.slice p n0 n0,.slice q m0 m0,.bool s1,.slice r n1 n1,.slice t m1 m1])∧Below w.heap.size w w'∧SM w' [(p,X0,n0),(q,Y0,m0),(r,X1,n1),(t,Y1,m1)]:=by
 refine (dtwin_is s0 a0 n0 c0 X0 b0 m0 d0 Y0 s1 a1 n1 c1 X1 b1 m1 d1 Y1 _ hc0 (by omega) hS0 hd0 (by omega) hT0 hc1 (by omega) hS1 hd1 (by omega) hT1).mono ?_
 rintro e w' ⟨p,q,r,t,rfl,k1,k2,k3,k4⟩
 exact ⟨p,q,r,t,rfl,k1.below,(((SM.nil _).cons k4.seg).cons k3.seg).cons k2.seg |>.cons k1.seg⟩
theorem twin_sn (s2:Bool) (a2:Option Addr) (n2 c2 X2:Nat) (b2:Option Addr) (m2 d2 Y2:Nat) (s3:Bool) (a3:Option Addr) (n3 c3 X3:Nat) (b3:Option Addr) (m3 d3 Y3:Nat) (w:World) (hc2:n2≤c2) (hm2:n2≤1048576) (hS2:Seg w a2 X2 n2) (hd2:m2≤d2) (hk2:m2≤1048576) (hT2:Seg w b2 Y2 m2) (hc3:n3≤c3) (hm3:n3≤1048576) (hS3:Seg w a3 X3 n3) (hd3:m3≤d3) (hk3:m3≤1048576) (hT3:Seg w b3 Y3 m3) :
  Calls Tryz.prog 4 #[Value.agg #[Value.bool s2,Value.slice a2 n2 c2,Value.slice b2 m2 d2,Value.bool s3,Value.slice a3 n3 c3,Value.slice b3 m3 d3]] w fun e w'=>∃ p q r t,e=.returned (.agg #[.bool s2,.slice p n2 n2,.slice q m2 m2,.bool s3,.slice r n3 n3,.slice t m3 m3])∧Below w.heap.size w w'∧SM w' [(p,X2,n2),(q,Y2,m2),(r,X3,n3),(t,Y3,m3)]:=by
 refine (dtwin_is s2 a2 n2 c2 X2 b2 m2 d2 Y2 s3 a3 n3 c3 X3 b3 m3 d3 Y3 _ hc2 (by omega) hS2 hd2 (by omega) hT2 hc3 (by omega) hS3 hd3 (by omega) hT3).mono ?_
 rintro e w' ⟨p,q,r,t,rfl,k1,k2,k3,k4⟩
 exact ⟨p,q,r,t,rfl,k1.below,(((SM.nil _).cons k4.seg).cons k3.seg).cons k2.seg |>.cons k1.seg⟩
theorem rat_sm (s4:Bool) (a4:Option Addr) (n4 c4 X4:Nat) (b4:Option Addr) (m4 d4 Y4:Nat) (w:World) (hc4:n4≤c4) (hm4:n4≤1048576) (hS4:Seg w a4 X4 n4) (hd4:m4≤d4) (hk4:m4≤1048576) (hT4:Seg w b4 Y4 m4) :
  Calls Tryz.prog 5 #[Value.agg #[Value.bool s4,Value.slice a4 n4 c4,Value.slice b4 m4 d4]] w fun e w'=>∃ p q,e=.returned (.agg #[.bool s4,.slice p n4 n4,.slice q m4 m4])∧Below w.heap.size w w'∧SM w' [(p,X4,n4),(q,Y4,m4)]:=by
 refine (drat_is s4 a4 n4 c4 X4 b4 m4 d4 Y4 _ hc4 (by omega) hS4 hd4 (by omega) hT4).mono ?_
 rintro e w' ⟨p,q,rfl,k1,k2⟩
 exact ⟨p,q,rfl,k1.below,((SM.nil _).cons k2.seg).cons k1.seg⟩
theorem nums_ex (s0:Bool) (a0:Option Addr) (n0 c0 X0:Nat) (b0:Option Addr) (m0 d0 Y0:Nat) (s1:Bool) (a1:Option Addr) (n1 c1 X1:Nat) (b1:Option Addr) (m1 d1 Y1:Nat) (s2:Bool) (a2:Option Addr) (n2 c2 X2:Nat) (b2:Option Addr) (m2 d2 Y2:Nat) (s3:Bool) (a3:Option Addr) (n3 c3 X3:Nat) (b3:Option Addr) (m3 d3 Y3:Nat) (s4:Bool) (a4:Option Addr) (n4 c4 X4:Nat) (b4:Option Addr) (m4 d4 Y4:Nat) (w:World) (hc0:n0≤c0) (hm0:n0≤1048576) (hS0:Seg w a0 X0 n0) (hd0:m0≤d0) (hk0:m0≤1048576) (hT0:Seg w b0 Y0 m0) (hc1:n1≤c1) (hm1:n1≤1048576) (hS1:Seg w a1 X1 n1) (hd1:m1≤d1) (hk1:m1≤1048576) (hT1:Seg w b1 Y1 m1) (hc2:n2≤c2) (hm2:n2≤1048576) (hS2:Seg w a2 X2 n2) (hd2:m2≤d2) (hk2:m2≤1048576) (hT2:Seg w b2 Y2 m2) (hc3:n3≤c3) (hm3:n3≤1048576) (hS3:Seg w a3 X3 n3) (hd3:m3≤d3) (hk3:m3≤1048576) (hT3:Seg w b3 Y3 m3) (hc4:n4≤c4) (hm4:n4≤1048576) (hS4:Seg w a4 X4 n4) (hd4:m4≤d4) (hk4:m4≤1048576) (hT4:Seg w b4 Y4 m4):∃ (Z0 W0 Z1 W1 Z2 W2 Z3 W3 Z4 W4 Z5 W5 Z6 W6:Int) (V0 U0 V1 U1 V2 U2 V3 U3 V4 U4 V5 U5 V6 U6:Nat),((Low (rn s0 X0 Y0) (rd Y0:Nat) Z0 V0)∧(Low (rn s1 X1 Y1) (rd Y1:Nat) W0 U0)∧(Low (rn s4 X4 Y4) (rd Y4:Nat) Z1 V1)∧(W1=0∧U1=1)∧(Low (-(rn s0 X0 Y0)) (rd Y0:Nat) Z2 V2)∧(Low (-(rn s1 X1 Y1)) (rd Y1:Nat) W2 U2)∧(Low (rn s0 X0 Y0*(rd Y2:Nat)+rn s2 X2 Y2*(rd Y0:Nat)) ((rd Y0:Nat)*(rd Y2:Nat)) Z3 V3)∧(Low (rn s1 X1 Y1*(rd Y3:Nat)+rn s3 X3 Y3*(rd Y1:Nat)) ((rd Y1:Nat)*(rd Y3:Nat)) W3 U3)∧(Low (rn s0 X0 Y0*(rd Y2:Nat)+-(rn s2 X2 Y2)*(rd Y0:Nat)) ((rd Y0:Nat)*(rd Y2:Nat)) Z4 V4)∧(Low (rn s1 X1 Y1*(rd Y3:Nat)+-(rn s3 X3 Y3)*(rd Y1:Nat)) ((rd Y1:Nat)*(rd Y3:Nat)) W4 U4)∧(Low (rn s4 X4 Y4*rn s0 X0 Y0) ((rd Y4:Nat)*(rd Y0:Nat)) Z5 V5)∧(Low (rn s4 X4 Y4*rn s1 X1 Y1) ((rd Y4:Nat)*(rd Y1:Nat)) W5 U5)∧(Low (rn s0 X0 Y0*((rd Y1:Nat)*(rd Y4:Nat))+rn s1 X1 Y1*rn s4 X4 Y4*(rd Y0:Nat)) ((rd Y0:Nat)*((rd Y1:Nat)*(rd Y4:Nat))) Z6 V6)∧(Sml (⟨⟨⟨s0,a0,n0,c0,X0,b0,m0,d0,Y0⟩,⟨s1,a1,n1,c1,X1,b1,m1,d1,Y1⟩⟩,⟨⟨s2,a2,n2,c2,X2,b2,m2,d2,Y2⟩,⟨s3,a3,n3,c3,X3,b3,m3,d3,Y3⟩⟩⟩:GapV) W6 U6))∧(ln (am Z0)≤16777216∧ln V0≤16777216∧ln (am W0)≤16777216∧ln U0≤16777216∧ln (am Z1)≤16777216∧ln V1≤16777216∧ln (am W1)≤16777216∧ln U1≤16777216∧ln (am Z2)≤16777216∧ln V2≤16777216∧ln (am W2)≤16777216∧ln U2≤16777216∧ln (am Z3)≤16777216∧ln V3≤16777216∧ln (am W3)≤16777216∧ln U3≤16777216∧ln (am Z4)≤16777216∧ln V4≤16777216∧ln (am W4)≤16777216∧ln U4≤16777216∧ln (am Z5)≤16777216∧ln V5≤16777216∧ln (am W5)≤16777216∧ln U5≤16777216∧ln (am Z6)≤16777216∧ln V6≤16777216∧ln (am W6)≤16777216∧ln U6≤16777216):=by
 obtain ⟨Z0,V0,l0⟩:=low_ex (rn s0 X0 Y0) (((rd Y0:Nat):Int)) (rd_ne Y0)
 obtain ⟨lzl0,lvl0⟩:=low_ln hS0.1 hT0.1 l0
 obtain ⟨W0,U0,j0⟩:=low_ex (rn s1 X1 Y1) (((rd Y1:Nat):Int)) (rd_ne Y1)
 obtain ⟨lzj0,lvj0⟩:=low_ln hS1.1 hT1.1 j0
 obtain ⟨Z1,V1,l1⟩:=low_ex (rn s4 X4 Y4) (((rd Y4:Nat):Int)) (rd_ne Y4)
 obtain ⟨lzl1,lvl1⟩:=low_ln hS4.1 hT4.1 l1
 obtain ⟨Z2,V2,l2⟩:=low_ex (-(rn s0 X0 Y0)) (((rd Y0:Nat):Int)) (rd_ne Y0)
 obtain ⟨lzl2,lvl2⟩:=low_neg_ln hS0.1 hT0.1 l2
 obtain ⟨W2,U2,j2⟩:=low_ex (-(rn s1 X1 Y1)) (((rd Y1:Nat):Int)) (rd_ne Y1)
 obtain ⟨lzj2,lvj2⟩:=low_neg_ln hS1.1 hT1.1 j2
 obtain ⟨Z3,V3,l3⟩:=low_ex (rn s0 X0 Y0*((rd Y2:Nat):Int)+rn s2 X2 Y2*((rd Y0:Nat):Int)) (((rd Y0:Nat):Int)*((rd Y2:Nat):Int)) (rd_ne2 Y0 Y2)
 obtain ⟨lzl3,lvl3⟩:=lowS_ln l3 (rn_lt hS0.1) (rn_lt hS2.1) (rd_lt hT0.1) (rd_lt hT2.1)
 obtain ⟨W3,U3,j3⟩:=low_ex (rn s1 X1 Y1*((rd Y3:Nat):Int)+rn s3 X3 Y3*((rd Y1:Nat):Int)) (((rd Y1:Nat):Int)*((rd Y3:Nat):Int)) (rd_ne2 Y1 Y3)
 obtain ⟨lzj3,lvj3⟩:=lowS_ln j3 (rn_lt hS1.1) (rn_lt hS3.1) (rd_lt hT1.1) (rd_lt hT3.1)
 obtain ⟨Z4,V4,l4⟩:=low_ex (rn s0 X0 Y0*((rd Y2:Nat):Int)+-(rn s2 X2 Y2)*((rd Y0:Nat):Int)) (((rd Y0:Nat):Int)*((rd Y2:Nat):Int)) (rd_ne2 Y0 Y2)
 obtain ⟨lzl4,lvl4⟩:=lowS_ln l4 (rn_lt hS0.1) (by rw [am_neg];exact rn_lt hS2.1) (rd_lt hT0.1) (rd_lt hT2.1)
 obtain ⟨W4,U4,j4⟩:=low_ex (rn s1 X1 Y1*((rd Y3:Nat):Int)+-(rn s3 X3 Y3)*((rd Y1:Nat):Int)) (((rd Y1:Nat):Int)*((rd Y3:Nat):Int)) (rd_ne2 Y1 Y3)
 obtain ⟨lzj4,lvj4⟩:=lowS_ln j4 (rn_lt hS1.1) (by rw [am_neg];exact rn_lt hS3.1) (rd_lt hT1.1) (rd_lt hT3.1)
 obtain ⟨Z5,V5,l5⟩:=low_ex (rn s4 X4 Y4*rn s0 X0 Y0) (((rd Y4:Nat):Int)*((rd Y0:Nat):Int)) (rd_ne2 Y4 Y0)
 obtain ⟨lzl5,lvl5⟩:=lowP_ln l5 (rn_lt hS4.1) (rn_lt hS0.1) (rd_lt hT4.1) (rd_lt hT0.1)
 obtain ⟨W5,U5,j5⟩:=low_ex (rn s4 X4 Y4*rn s1 X1 Y1) (((rd Y4:Nat):Int)*((rd Y1:Nat):Int)) (rd_ne2 Y4 Y1)
 obtain ⟨lzj5,lvj5⟩:=lowP_ln j5 (rn_lt hS4.1) (rn_lt hS1.1) (rd_lt hT4.1) (rd_lt hT1.1)
 obtain ⟨Z6,V6,l6⟩:=low_ex (rn s0 X0 Y0*(((rd Y1:Nat):Int)*((rd Y4:Nat):Int))+rn s1 X1 Y1*rn s4 X4 Y4*((rd Y0:Nat):Int)) (((rd Y0:Nat):Int)*(((rd Y1:Nat):Int)*((rd Y4:Nat):Int))) (Int.mul_ne_zero (rd_ne Y0) (rd_ne2 Y1 Y4))
 obtain ⟨lzl6,lvl6⟩:=at_ln l6 (rn_lt hS0.1) (rn_lt hS1.1) (rn_lt hS4.1) (rd_lt hT0.1) (rd_lt hT1.1) (rd_lt hT4.1)
 obtain ⟨W6,U6,j6⟩:=sml_ex (⟨⟨⟨s0,a0,n0,c0,X0,b0,m0,d0,Y0⟩,⟨s1,a1,n1,c1,X1,b1,m1,d1,Y1⟩⟩,⟨⟨s2,a2,n2,c2,X2,b2,m2,d2,Y2⟩,⟨s3,a3,n3,c3,X3,b3,m3,d3,Y3⟩⟩⟩:GapV)
 have hs6:ln (am W6)≤16777216∧ln U6≤16777216:=by
  rcases id j6 with ⟨_,e1,e2⟩ | ⟨_,e1,e2⟩
  ·have h:=small_sz (k:=fun _=>(⟨⟨⟨s0,a0,n0,c0,X0,b0,m0,d0,Y0⟩,⟨s1,a1,n1,c1,X1,b1,m1,d1,Y1⟩⟩,⟨⟨s2,a2,n2,c2,X2,b2,m2,d2,Y2⟩,⟨s3,a3,n3,c3,X3,b3,m3,d3,Y3⟩⟩⟩:GapV)) (w:=w) 1 (fun i hi=>⟨⟨⟨⟨hS0,hc0,Nat.le_trans hm0 (by omega),hT0,hd0,Nat.le_trans hk0 (by omega)⟩,⟨hS1,hc1,Nat.le_trans hm1 (by omega),hT1,hd1,Nat.le_trans hk1 (by omega)⟩⟩,⟨⟨hS2,hc2,Nat.le_trans hm2 (by omega),hT2,hd2,Nat.le_trans hk2 (by omega)⟩,⟨hS3,hc3,Nat.le_trans hm3 (by omega),hT3,hd3,Nat.le_trans hk3 (by omega)⟩⟩⟩,⟨⟨hm0,hk0,hm1,hk1⟩,⟨hm2,hk2,hm3,hk3⟩⟩⟩)
   rw [gl_one] at h
   rw [e1,e2]
   exact ⟨Nat.le_trans h.1 (by omega),Nat.le_trans h.2 (by omega)⟩
  ·rw [e1,e2,show am 0=0 from rfl,ln_zero]
   exact ⟨by omega,by omega⟩
 have e0:ln (am 0)≤16777216∧ln 1≤16777216:=⟨by rw [show am 0=0 from rfl,ln_zero];omega,by rw [ln_one];omega⟩
 refine ⟨Z0,W0,Z1,0,Z2,W2,Z3,W3,Z4,W4,Z5,W5,Z6,W6,V0,U0,V1,1,V2,U2,V3,U3,V4,U4,V5,U5,V6,U6,⟨l0,j0,l1,⟨rfl,rfl⟩,l2,j2,l3,j3,l4,j4,l5,j5,l6,j6⟩,by omega,by omega,by omega,by omega,by omega,by omega,e0.1,e0.2,by omega,by omega,by omega,by omega,by omega,by omega,by omega,by omega,by omega,by omega,by omega,by omega,by omega,by omega,by omega,by omega,by omega,by omega,hs6.1,hs6.2⟩
structure N7 where
 Z:Nat→Int
 V:Nat→Nat
 W:Nat→Int
 U:Nat→Nat
structure A7 where
 p:Nat→Option Addr
 q:Nat→Option Addr
 r:Nat→Option Addr
 t:Nat→Option Addr
def N7.small (N:N7):Prop:=∀ i,i < 7→ln (am (N.Z i))≤16777216∧ln (N.V i)≤16777216∧ln (am (N.W i))≤16777216∧ln (N.U i)≤16777216
def DRi (w:World) (bl i:Nat) (N:N7) (P:A7):Prop :=
 (w.cell? ⟨bl,i*6,none⟩=some (.bool (ng (N.Z i)))∧w.cell? ⟨bl,i*6+1,none⟩=some (.slice (P.p i) (ln (am (N.Z i))) (ln (am (N.Z i))))∧w.cell? ⟨bl,i*6+2,none⟩=some (.slice (P.q i) (ln (N.V i)) (ln (N.V i))) ∧
 w.cell? ⟨bl,i*6+3,none⟩=some (.bool (ng (N.W i)))∧w.cell? ⟨bl,i*6+4,none⟩=some (.slice (P.r i) (ln (am (N.W i))) (ln (am (N.W i))))∧w.cell? ⟨bl,i*6+5,none⟩=some (.slice (P.t i) (ln (N.U i)) (ln (N.U i)))) ∧
 Seg w (P.p i) (am (N.Z i)) (ln (am (N.Z i)))∧Seg w (P.q i) (N.V i) (ln (N.V i))∧Seg w (P.r i) (am (N.W i)) (ln (am (N.W i)))∧Seg w (P.t i) (N.U i) (ln (N.U i))
def DR (w:World) (bl:Nat) (N:N7) (P:A7):Prop:=∀ i,i < 7→DRi w bl i N P
theorem DRi.later {w w':World} {bl i:Nat} {N:N7} {P:A7} (h:DRi w bl i N P) (hb:Below w.heap.size w w'):DRi w' bl i N P:=by
 obtain ⟨⟨c0,c1,c2,c3,c4,c5⟩,s1,s2,s3,s4⟩:=h
 exact ⟨⟨below_cell hb c0,below_cell hb c1,below_cell hb c2,below_cell hb c3,below_cell hb c4,below_cell hb c5⟩,s1.later hb,s2.later hb,s3.later hb,s4.later hb⟩
theorem DR.later {w w':World} {bl:Nat} {N:N7} {P:A7} (h:DR w bl N P) (hb:Below w.heap.size w w'):DR w' bl N P:=fun i hi=>(h i hi).later hb
def xs7 (N:N7) (P:A7):List Lst:=(List.range 7).flatMap fun i=>[(P.p i,am (N.Z i)),(P.q i,N.V i),(P.r i,am (N.W i)),(P.t i,N.U i)]
def PA (xs:List Lst) (i:Nat):Option Addr:=(xs.getD i (none,0)).1
def NA (xs:List Lst) (i:Nat):Nat:=ln (xs.getD i (none,0)).2
theorem xs7_len (N:N7) (P:A7):(xs7 N P).length=28:=rfl
def B4 (N:N7) (P:A7) (i j:Nat):Option Addr:=[P.p i,P.q i,P.r i,P.t i].getD j none
def M4 (N:N7) (i j:Nat):Nat:=[ln (am (N.Z i)),ln (N.V i),ln (am (N.W i)),ln (N.U i)].getD j 0
theorem row7_step (N:N7) (P:A7) {i:Nat} (hi:i < 7):rowV (PA (xs7 N P)) (NA (xs7 N P)) (4*i) ++ rowV (B4 N P i) (M4 N i) 4=rowV (PA (xs7 N P)) (NA (xs7 N P)) (4*(i+1)):=by
 match i,hi with
 | 0,_=>rfl
 | 1,_=>rfl
 | 2,_=>rfl
 | 3,_=>rfl
 | 4,_=>rfl
 | 5,_=>rfl
 | 6,_=>rfl
theorem xs7_small {N:N7} {P:A7} (h:N.small):∀ i,i < 28→NA (xs7 N P) i≤1073741824:=by
 have h0:=h 0 (by omega)
 have h1:=h 1 (by omega)
 have h2:=h 2 (by omega)
 have h3:=h 3 (by omega)
 have h4:=h 4 (by omega)
 have h5:=h 5 (by omega)
 have h6:=h 6 (by omega)
 have g:∀ x∈xs7 N P,ln x.2≤16777216:=fun x hx=>by
  obtain ⟨i,hi,hx⟩:=List.mem_flatMap.1 hx
  have:=h i (List.mem_range.1 hi)
  simp only [List.mem_cons,List.not_mem_nil,or_false] at hx
  rcases hx with rfl | rfl | rfl | rfl
  ·exact this.1
  ·exact this.2.1
  ·exact this.2.2.1
  ·exact this.2.2.2
 intro i hi
 have e:(xs7 N P).getD i (none,0)=(xs7 N P)[i]'(by rw [xs7_len];exact hi):=by
  rw [List.getD,List.getElem?_eq_getElem (by rw [xs7_len];exact hi)];rfl
 unfold NA
 rw [e]
 exact Nat.le_trans (g _ (List.getElem_mem _)) (by omega)
theorem dr_of {Z0 W0 Z1 W1 Z2 W2 Z3 W3 Z4 W4 Z5 W5 Z6 W6:Int} {V0 U0 V1 U1 V2 U2 V3 U3 V4 U4 V5 U5 V6 U6:Nat} {p0 q0 r0 t0 p1 q1 r1 t1 p2 q2 r2 t2 p3 q3 r3 t3 p4 q4 r4 t4 p5 q5 r5 t5 p6 q6 r6 t6:Option Addr} {w:World} {bl:Nat} {ty:TypeId} (hB:Blk w bl #[.bool (ng Z0),.slice p0 (ln (am Z0)) (ln (am Z0)),.slice q0 (ln V0) (ln V0),.bool (ng W0),.slice r0 (ln (am W0)) (ln (am W0)),.slice t0 (ln U0) (ln U0),.bool (ng Z1),.slice p1 (ln (am Z1)) (ln (am Z1)),.slice q1 (ln V1) (ln V1),.bool (ng W1),.slice r1 (ln (am W1)) (ln (am W1)),.slice t1 (ln U1) (ln U1),.bool (ng Z2),.slice p2 (ln (am Z2)) (ln (am Z2)),.slice q2 (ln V2) (ln V2),.bool (ng W2),.slice r2 (ln (am W2)) (ln (am W2)),.slice t2 (ln U2) (ln U2),.bool (ng Z3),.slice p3 (ln (am Z3)) (ln (am Z3)),.slice q3 (ln V3) (ln V3),.bool (ng W3),.slice r3 (ln (am W3)) (ln (am W3)),.slice t3 (ln U3) (ln U3),.bool (ng Z4),.slice p4 (ln (am Z4)) (ln (am Z4)),.slice q4 (ln V4) (ln V4),.bool (ng W4),.slice r4 (ln (am W4)) (ln (am W4)),.slice t4 (ln U4) (ln U4),.bool (ng Z5),.slice p5 (ln (am Z5)) (ln (am Z5)),.slice q5 (ln V5) (ln V5),.bool (ng W5),.slice r5 (ln (am W5)) (ln (am W5)),.slice t5 (ln U5) (ln U5),.bool (ng Z6),.slice p6 (ln (am Z6)) (ln (am Z6)),.slice q6 (ln V6) (ln V6),.bool (ng W6),.slice r6 (ln (am W6)) (ln (am W6)),.slice t6 (ln U6) (ln U6)] ty) (hS:SL w [(p0,am Z0),(q0,V0),(r0,am W0),(t0,U0),(p1,am Z1),(q1,V1),(r1,am W1),(t1,U1),(p2,am Z2),(q2,V2),(r2,am W2),(t2,U2),(p3,am Z3),(q3,V3),(r3,am W3),(t3,U3),(p4,am Z4),(q4,V4),(r4,am W4),(t4,U4),(p5,am Z5),(q5,V5),(r5,am W5),(t5,U5),(p6,am Z6),(q6,V6),(r6,am W6),(t6,U6)]):DR w bl (⟨(fun i=>[Z0,Z1,Z2,Z3,Z4,Z5,Z6].getD i 0),(fun i=>[V0,V1,V2,V3,V4,V5,V6].getD i 0),(fun i=>[W0,W1,W2,W3,W4,W5,W6].getD i 0),(fun i=>[U0,U1,U2,U3,U4,U5,U6].getD i 0)⟩:N7) (⟨(fun i=>[p0,p1,p2,p3,p4,p5,p6].getD i none),(fun i=>[q0,q1,q2,q3,q4,q5,q6].getD i none),(fun i=>[r0,r1,r2,r3,r4,r5,r6].getD i none),(fun i=>[t0,t1,t2,t3,t4,t5,t6].getD i none)⟩:A7):=fun i hi=>by
 match i,hi with
 | 0,_=>exact ⟨⟨hB.cell 0,hB.cell 1,hB.cell 2,hB.cell 3,hB.cell 4,hB.cell 5⟩,hS (p0,am Z0) (by simp),hS (q0,V0) (by simp),hS (r0,am W0) (by simp),hS (t0,U0) (by simp)⟩
 | 1,_=>exact ⟨⟨hB.cell 6,hB.cell 7,hB.cell 8,hB.cell 9,hB.cell 10,hB.cell 11⟩,hS (p1,am Z1) (by simp),hS (q1,V1) (by simp),hS (r1,am W1) (by simp),hS (t1,U1) (by simp)⟩
 | 2,_=>exact ⟨⟨hB.cell 12,hB.cell 13,hB.cell 14,hB.cell 15,hB.cell 16,hB.cell 17⟩,hS (p2,am Z2) (by simp),hS (q2,V2) (by simp),hS (r2,am W2) (by simp),hS (t2,U2) (by simp)⟩
 | 3,_=>exact ⟨⟨hB.cell 18,hB.cell 19,hB.cell 20,hB.cell 21,hB.cell 22,hB.cell 23⟩,hS (p3,am Z3) (by simp),hS (q3,V3) (by simp),hS (r3,am W3) (by simp),hS (t3,U3) (by simp)⟩
 | 4,_=>exact ⟨⟨hB.cell 24,hB.cell 25,hB.cell 26,hB.cell 27,hB.cell 28,hB.cell 29⟩,hS (p4,am Z4) (by simp),hS (q4,V4) (by simp),hS (r4,am W4) (by simp),hS (t4,U4) (by simp)⟩
 | 5,_=>exact ⟨⟨hB.cell 30,hB.cell 31,hB.cell 32,hB.cell 33,hB.cell 34,hB.cell 35⟩,hS (p5,am Z5) (by simp),hS (q5,V5) (by simp),hS (r5,am W5) (by simp),hS (t5,U5) (by simp)⟩
 | 6,_=>exact ⟨⟨hB.cell 36,hB.cell 37,hB.cell 38,hB.cell 39,hB.cell 40,hB.cell 41⟩,hS (p6,am Z6) (by simp),hS (q6,V6) (by simp),hS (r6,am W6) (by simp),hS (t6,U6) (by simp)⟩
set_option maxHeartbeats 1000000 in
theorem own_nums (s0:Bool) (a0:Option Addr) (n0 c0 X0:Nat) (b0:Option Addr) (m0 d0 Y0:Nat) (s1:Bool) (a1:Option Addr) (n1 c1 X1:Nat) (b1:Option Addr) (m1 d1 Y1:Nat) (s2:Bool) (a2:Option Addr) (n2 c2 X2:Nat) (b2:Option Addr) (m2 d2 Y2:Nat) (s3:Bool) (a3:Option Addr) (n3 c3 X3:Nat) (b3:Option Addr) (m3 d3 Y3:Nat) (s4:Bool) (a4:Option Addr) (n4 c4 X4:Nat) (b4:Option Addr) (m4 d4 Y4:Nat) (w:World) (hc0:n0≤c0) (hm0:n0≤1048576) (hS0:Seg w a0 X0 n0) (hd0:m0≤d0) (hk0:m0≤1048576) (hT0:Seg w b0 Y0 m0) (hc1:n1≤c1) (hm1:n1≤1048576) (hS1:Seg w a1 X1 n1) (hd1:m1≤d1) (hk1:m1≤1048576) (hT1:Seg w b1 Y1 m1) (hc2:n2≤c2) (hm2:n2≤1048576) (hS2:Seg w a2 X2 n2) (hd2:m2≤d2) (hk2:m2≤1048576) (hT2:Seg w b2 Y2 m2) (hc3:n3≤c3) (hm3:n3≤1048576) (hS3:Seg w a3 X3 n3) (hd3:m3≤d3) (hk3:m3≤1048576) (hT3:Seg w b3 Y3 m3) (hc4:n4≤c4) (hm4:n4≤1048576) (hS4:Seg w a4 X4 n4) (hd4:m4≤d4) (hk4:m4≤1048576) (hT4:Seg w b4 Y4 m4):∃ N:N7,N.small ∧
  (∀ w',SM w' [(a0,X0,n0),(b0,Y0,m0),(a1,X1,n1),(b1,Y1,m1),(a2,X2,n2),(b2,Y2,m2),(a3,X3,n3),(b3,Y3,m3),(a4,X4,n4),(b4,Y4,m4)]→Calls Tryz.prog 6 #[Value.agg #[Value.bool s0,Value.slice a0 n0 c0,Value.slice b0 m0 d0,Value.bool s1,Value.slice a1 n1 c1,Value.slice b1 m1 d1],Value.agg #[Value.bool s2,Value.slice a2 n2 c2,Value.slice b2 m2 d2,Value.bool s3,Value.slice a3 n3 c3,Value.slice b3 m3 d3],Value.agg #[Value.bool s4,Value.slice a4 n4 c4,Value.slice b4 m4 d4]] w' fun e w''=>∃ bm Q,e=.returned (.slice (some ⟨bm,0,none⟩) 7 7)∧Below w'.heap.size w' w''∧DR w'' bm N Q) ∧
  (∀ w' p0 q0 r0 t0 p1 q1 r1 t1 p2 q2,SM w' [(p0,X0,n0),(q0,Y0,m0),(r0,X1,n1),(t0,Y1,m1),(p1,X2,n2),(q1,Y2,m2),(r1,X3,n3),(t1,Y3,m3),(p2,X4,n4),(q2,Y4,m4)]→Calls Tryz.prog 7 #[Value.agg #[Value.bool s0,Value.slice p0 n0 n0,Value.slice q0 m0 m0,Value.bool s1,Value.slice r0 n1 n1,Value.slice t0 m1 m1],Value.agg #[Value.bool s2,Value.slice p1 n2 n2,Value.slice q1 m2 m2,Value.bool s3,Value.slice r1 n3 n3,Value.slice t1 m3 m3],Value.agg #[Value.bool s4,Value.slice p2 n4 n4,Value.slice q2 m4 m4]] w' fun e w''=>∃ bl P,e=.returned (.slice (some ⟨bl,0,none⟩) 7 7)∧Below w'.heap.size w' w''∧DR w'' bl N P∧AL w'' w'.heap.size bl (xs7 N P)):=by
 obtain ⟨Z0,W0,Z1,W1,Z2,W2,Z3,W3,Z4,W4,Z5,W5,Z6,W6,V0,U0,V1,U1,V2,U2,V3,U3,V4,U4,V5,U5,V6,U6,⟨l0,j0,l1,j1,l2,j2,l3,j3,l4,j4,l5,j5,l6,j6⟩,hb⟩:=nums_ex s0 a0 n0 c0 X0 b0 m0 d0 Y0 s1 a1 n1 c1 X1 b1 m1 d1 Y1 s2 a2 n2 c2 X2 b2 m2 d2 Y2 s3 a3 n3 c3 X3 b3 m3 d3 Y3 s4 a4 n4 c4 X4 b4 m4 d4 Y4 w hc0 hm0 hS0 hd0 hk0 hT0 hc1 hm1 hS1 hd1 hk1 hT1 hc2 hm2 hS2 hd2 hk2 hT2 hc3 hm3 hS3 hd3 hk3 hT3 hc4 hm4 hS4 hd4 hk4 hT4
 refine ⟨(⟨(fun i=>[Z0,Z1,Z2,Z3,Z4,Z5,Z6].getD i 0),(fun i=>[V0,V1,V2,V3,V4,V5,V6].getD i 0),(fun i=>[W0,W1,W2,W3,W4,W5,W6].getD i 0),(fun i=>[U0,U1,U2,U3,U4,U5,U6].getD i 0)⟩:N7),?_,fun w' h=>?_,fun w' p0 q0 r0 t0 p1 q1 r1 t1 p2 q2 h=>?_⟩
 ·obtain ⟨x0,y0,u0,v0,x1,y1,u1,v1,x2,y2,u2,v2,x3,y3,u3,v3,x4,y4,u4,v4,x5,y5,u5,v5,x6,y6,u6,v6⟩:=hb
  intro i hi
  match i,hi with
  | 0,_=>exact ⟨x0,y0,u0,v0⟩
  | 1,_=>exact ⟨x1,y1,u1,v1⟩
  | 2,_=>exact ⟨x2,y2,u2,v2⟩
  | 3,_=>exact ⟨x3,y3,u3,v3⟩
  | 4,_=>exact ⟨x4,y4,u4,v4⟩
  | 5,_=>exact ⟨x5,y5,u5,v5⟩
  | 6,_=>exact ⟨x6,y6,u6,v6⟩
 ·refine (wanted_is s0 a0 n0 c0 X0 b0 m0 d0 Y0 s1 a1 n1 c1 X1 b1 m1 d1 Y1 s2 a2 n2 c2 X2 b2 m2 d2 Y2 s3 a3 n3 c3 X3 b3 m3 d3 Y3 s4 a4 n4 c4 X4 b4 m4 d4 Y4 Z0 W0 Z1 W1 Z2 W2 Z3 W3 Z4 W4 Z5 W5 Z6 W6 V0 U0 V1 U1 V2 U2 V3 U3 V4 U4 V5 U5 V6 U6 w' hc0 hm0 (h.head) hd0 hk0 (h.tail.head) hc1 hm1 (h.tail.tail.head) hd1 hk1 (h.tail.tail.tail.head) hc2 hm2 (h.tail.tail.tail.tail.head) hd2 hk2 (h.tail.tail.tail.tail.tail.head) hc3 hm3 (h.tail.tail.tail.tail.tail.tail.head) hd3 hk3 (h.tail.tail.tail.tail.tail.tail.tail.head) hc4 hm4 (h.tail.tail.tail.tail.tail.tail.tail.tail.head) hd4 hk4 (h.tail.tail.tail.tail.tail.tail.tail.tail.tail.head) l0 j0 l1 j1 l2 j2 l3 j3 l4 j4 l5 j5 l6 j6).mono ?_
  rintro e w2 ⟨bm,p0,q0,r0,t0,p1,q1,r1,t1,p2,q2,r2,t2,p3,q3,r3,t3,p4,q4,r4,t4,p5,q5,r5,t5,p6,q6,r6,t6,rfl,hB,hQ,hL⟩
  exact ⟨bm,(⟨(fun i=>[p0,p1,p2,p3,p4,p5,p6].getD i none),(fun i=>[q0,q1,q2,q3,q4,q5,q6].getD i none),(fun i=>[r0,r1,r2,r3,r4,r5,r6].getD i none),(fun i=>[t0,t1,t2,t3,t4,t5,t6].getD i none)⟩:A7),rfl,hB,dr_of hQ hL⟩
 ·refine (answers_is s0 p0 n0 n0 X0 q0 m0 m0 Y0 s1 r0 n1 n1 X1 t0 m1 m1 Y1 s2 p1 n2 n2 X2 q1 m2 m2 Y2 s3 r1 n3 n3 X3 t1 m3 m3 Y3 s4 p2 n4 n4 X4 q2 m4 m4 Y4 Z0 W0 Z1 W1 Z2 W2 Z3 W3 Z4 W4 Z5 W5 Z6 W6 V0 U0 V1 U1 V2 U2 V3 U3 V4 U4 V5 U5 V6 U6 w' (Nat.le_refl _) hm0 (h.head) (Nat.le_refl _) hk0 (h.tail.head) (Nat.le_refl _) hm1 (h.tail.tail.head) (Nat.le_refl _) hk1 (h.tail.tail.tail.head) (Nat.le_refl _) hm2 (h.tail.tail.tail.tail.head) (Nat.le_refl _) hk2 (h.tail.tail.tail.tail.tail.head) (Nat.le_refl _) hm3 (h.tail.tail.tail.tail.tail.tail.head) (Nat.le_refl _) hk3 (h.tail.tail.tail.tail.tail.tail.tail.head) (Nat.le_refl _) hm4 (h.tail.tail.tail.tail.tail.tail.tail.tail.head) (Nat.le_refl _) hk4 (h.tail.tail.tail.tail.tail.tail.tail.tail.tail.head) l0 j0 l1 j1 l2 j2 l3 j3 l4 j4 l5 j5 l6 j6).mono ?_
  rintro e w2 ⟨bm,p0,q0,r0,t0,p1,q1,r1,t1,p2,q2,r2,t2,p3,q3,r3,t3,p4,q4,r4,t4,p5,q5,r5,t5,p6,q6,r6,t6,rfl,hB,hQ,hL⟩
  exact ⟨bm,(⟨(fun i=>[p0,p1,p2,p3,p4,p5,p6].getD i none),(fun i=>[q0,q1,q2,q3,q4,q5,q6].getD i none),(fun i=>[r0,r1,r2,r3,r4,r5,r6].getD i none),(fun i=>[t0,t1,t2,t3,t4,t5,t6].getD i none)⟩:A7),rfl,hB,dr_of hQ hL.segs,hL⟩
end Go.Proofs.YtfppjaoddicgpaaGreatDoor
