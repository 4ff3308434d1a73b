import Derived.Test.YtgfmaejhdbmkoaaGreatWQ7
set_option linter.unusedSimpArgs false
namespace Go.Proofs.YtgfmaejhdbmkoaaGreat
open Go.RowKit
set_option linter.unusedVariables false
theorem Seg.set3 {w:World} {p:Option Addr} {X n c:Nat} {u0 u1 u2:Value} {z0:Bool} {a1 a2:Option Addr} {n1 n2 k1 k2:Nat} (h:Seg w p X n) (h0:w.cell? ⟨c,0,none⟩=some (.bool z0)) (h1:w.cell? ⟨c,1,none⟩=some (.slice a1 n1 k1)) (h2:w.cell? ⟨c,2,none⟩=some (.slice a2 n2 k2)) :
  Seg (((w.setCell ⟨c,0,none⟩ u0).setCell ⟨c,1,none⟩ u1).setCell ⟨c,2,none⟩ u2) p X n:=by
 refine ((h.setB h0 (by simp)).setB (z:=.slice a1 n1 k1) ?_ (by simp)).setB (z:=.slice a2 n2 k2) ?_ (by simp)
 ·rw [World.cell?_setCell_other _ _ _ _ (fun e=>by simp at e)];exact h1
 ·rw [World.cell?_setCell_other _ _ _ _ (fun e=>by simp at e),World.cell?_setCell_other _ _ _ _ (fun e=>by simp at e)];exact h2
set_option maxHeartbeats 4000000 in
set_option maxRecDepth 100000 in
theorem vqAdd_is (s0:Bool) (a0:Option Addr) (n0 c0 X0:Nat) (b0:Option Addr) (m0 d0 Y0:Nat) (s1:Bool) (a1:Option Addr) (n1 c1 X1:Nat) (b1:Option Addr) (m1 d1 Y1:Nat) (Z:Int) (V:Nat) (w:World) (hc0:n0≤c0) (hm0:n0≤4398046511104) (hS0:Seg w a0 X0 n0) (hd0:m0≤d0) (hk0:m0≤4398046511104) (hT0:Seg w b0 Y0 m0) (hc1:n1≤c1) (hm1:n1≤4398046511104) (hS1:Seg w a1 X1 n1) (hd1:m1≤d1) (hk1:m1≤4398046511104) (hT1:Seg w b1 Y1 m1) (hL:Low (rn s0 X0 Y0*(rd Y1:Nat)+rn s1 X1 Y1*(rd Y0:Nat)) ((rd Y0:Nat)*(rd Y1:Nat)) Z V) :
  Calls Tryz.prog 46 #[Value.agg #[Value.bool s0,Value.slice a0 n0 c0,Value.slice b0 m0 d0],Value.agg #[Value.bool s1,Value.slice a1 n1 c1,Value.slice b1 m1 d1]] w fun e w'=>∃ p q,e=.returned (.agg #[.bool (ng Z),.slice p (ln (am Z)) (ln (am Z)),.slice q (ln V) (ln V)])∧New w w' p (am Z) (ln (am Z))∧New w w' q V (ln V):=by
 obtain ⟨Z1,V1,h1⟩:=low_ex (rn s0 X0 Y0) (rd Y0:Nat) (rd_ne Y0)
 obtain ⟨Z2,V2,h2⟩:=low_ex (rn s1 X1 Y1) (rd Y1:Nat) (rd_ne Y1)
 obtain ⟨P,hP⟩:∃ P,Z1*(V2:Int)=P:=⟨_,rfl⟩
 obtain ⟨Q,hQ⟩:∃ Q,Z2*(V1:Int)=Q:=⟨_,rfl⟩
 obtain ⟨M,hM⟩:∃ M,P+Q=M:=⟨_,rfl⟩
 obtain ⟨D,hD⟩:∃ D,V1*V2=D:=⟨_,rfl⟩
 obtain ⟨lZ1,lV1⟩:=low_ln hS0.1 hT0.1 h1
 obtain ⟨lZ2,lV2⟩:=low_ln hS1.1 hT1.1 h2
 have hD0:0 < D:=by rw [←hD];exact Nat.mul_pos h1.pos h2.pos
 have hL2:Low (rn (ng M) (am M) D) ((rd D:Nat):Int) Z V:=by
  refine Low.nf (hL.congr (by omega) ?_) hD0
  have e1:=h1.eq
  have e2:=h2.eq
  rw [←hM,←hP,←hQ,←hD,Int.natCast_mul]
  grind
 have lP:ln (am P)≤70368744176030:=by rw [←hP,am_mul,am_nat];have:=ln_prod (xJ3 (am Z1)) (xJ3 V2);omega
 have lQ:ln (am Q)≤70368744176030:=by rw [←hQ,am_mul,am_nat];have:=ln_prod (xJ3 (am Z2)) (xJ3 V1);omega
 have lM:ln (am M)≤70368744176031:=by
  have h1:am M≤am P+am Q:=by rw [←hM];exact am_add P Q
  have h2:=xZ4 h1
  have h3:=ln_sum (xJ3 (am P)) (xJ3 (am Q)) (k:=70368744176031) (by omega) (by omega)
  omega
 have lD:ln D≤70368744176030:=by rw [←hD];have:=ln_prod (xJ3 V1) (xJ3 V2);omega
 have G1:=xQ1 h1
 have G2:=xQ1 h2
 have G3:=xQ1 hL2
 have H1:=xQ1 (fun w' p q k1 k2=>vMul_is (ng Z1) p (ln (am Z1)) (ln (am Z1)) (am Z1) false q (ln V2) (ln V2) V2 P w' (by omega) k1 k2 (by rw [sg_na];exact hP))
 have H2:=xQ1 (fun w' p q k1 k2=>vMul_is (ng Z2) p (ln (am Z2)) (ln (am Z2)) (am Z2) false q (ln V1) (ln V1) V1 Q w' (by omega) k1 k2 (by rw [sg_na];exact hQ))
 have H3:=xQ1 (fun w' p q k1 k2=>vAdd_is (ng P) p (ln (am P)) (ln (am P)) (am P) (ng Q) q (ln (am Q)) (ln (am Q)) (am Q) M w' (by omega) k1 (by omega) k2 (by rw [sg_na,sg_na];exact hM))
 have H4:=xQ1 (fun w' p q k1 k2=>rMul_is p q (ln V1) (ln V1) V1 (ln V2) (ln V2) V2 D w' (by omega) k1 k2 hD)
 clear hL h1 h2 hP hQ hM hD hD0 hL2
 go_enter Tryz.func46,Tryz.ntmps46
 go_wp2_with fail
 obtain ⟨W,hW⟩:∃ W,(((w.alloc (.cells #[.bool s0,.slice a0 n0 c0,.slice b0 m0 d0] 55)).alloc (.cells #[.bool s1,.slice a1 n1 c1,.slice b1 m1 d1] 55)).alloc (.cells #[.bool false,.slice none 0 0,.slice none 0 0] 55))=W:=⟨_,rfl⟩
 have q00:W.cell? ⟨w.heap.size,0,none⟩=some (.bool s0):=by subst hW;go_simp
 have q01:W.cell? ⟨w.heap.size,1,none⟩=some (.slice a0 n0 c0):=by subst hW;go_simp
 have q02:W.cell? ⟨w.heap.size,2,none⟩=some (.slice b0 m0 d0):=by subst hW;go_simp
 have q10:W.cell? ⟨w.heap.size+1,0,none⟩=some (.bool s1):=by subst hW;go_simp
 have q11:W.cell? ⟨w.heap.size+1,1,none⟩=some (.slice a1 n1 c1):=by subst hW;go_simp
 have q12:W.cell? ⟨w.heap.size+1,2,none⟩=some (.slice b1 m1 d1):=by subst hW;go_simp
 have r00:W.cell? ⟨w.heap.size+1+1,0,none⟩=some (.bool false):=by subst hW;go_simp
 have r01:W.cell? ⟨w.heap.size+1+1,1,none⟩=some (.slice none 0 0):=by subst hW;go_simp
 have r02:W.cell? ⟨w.heap.size+1+1,2,none⟩=some (.slice none 0 0):=by subst hW;go_simp
 have hB:Below w.heap.size w W:=by subst hW;exact ((((Below.refl _ _).alloc (by (try simp only [World.size_alloc]);omega) _).alloc (by (try simp only [World.size_alloc]);omega) _).alloc (by (try simp only [World.size_alloc]);omega) _)
 have hR0:Row W (w.heap.size+1+1):=by
  have:=xQ9 (((w.alloc (.cells #[.bool s0,.slice a0 n0 c0,.slice b0 m0 d0] 55)).alloc (.cells #[.bool s1,.slice a1 n1 c1,.slice b1 m1 d1] 55))) #[.bool false,.slice none 0 0,.slice none 0 0] 55
  try simp only [World.size_alloc] at this
  subst hW;exact this
 have hP0:Row W (w.heap.size):=by
  have:=xQ9 (w) #[.bool s0,.slice a0 n0 c0,.slice b0 m0 d0] 55
  try simp only [World.size_alloc] at this
  subst hW;exact ((this.alloc _).alloc _)
 have hP1:Row W (w.heap.size+1):=by
  have:=xQ9 ((w.alloc (.cells #[.bool s0,.slice a0 n0 c0,.slice b0 m0 d0] 55))) #[.bool s1,.slice a1 n1 c1,.slice b1 m1 d1] 55
  try simp only [World.size_alloc] at this
  subst hW;exact (this.alloc _)
 have hz:W.heap.size=w.heap.size+1+1+1:=by subst hW;simp only [World.size_alloc]
 rw [hW]
 clear hW
 have hBW:Below W.heap.size W W:=Below.refl _ _
 refine (vqNorm_is s0 a0 n0 c0 X0 b0 m0 d0 Y0 V1 Z1 _ (by omega) (sb hS0 hB hBW) (by omega) (sb hT0 hB hBW) G1.out).mono ?_
 rintro e w41 ⟨p41,q41,rfl,hp41,hq41⟩
 have b41:=hp41.below
 replace hp41:=hp41.back hBW
 replace hq41:=hq41.back hBW
 replace hBW:=hBW.trans (b41.mono hBW.size)
 replace q00:=xQ0 b41 q00
 replace q01:=xQ0 b41 q01
 replace q02:=xQ0 b41 q02
 replace q10:=xQ0 b41 q10
 replace q11:=xQ0 b41 q11
 replace q12:=xQ0 b41 q12
 replace r00:=xQ0 b41 r00
 replace r01:=xQ0 b41 r01
 replace r02:=xQ0 b41 r02
 replace hR0:=xQ3 b41 hR0
 replace hP0:=xQ3 b41 hP0
 replace hP1:=xQ3 b41 hP1
 have hsB:=hBW.size
 have hM:Mid w.heap.size W.heap.size w41 (((w41.setCell ⟨w.heap.size,0,none⟩ (.bool (ng Z1))).setCell ⟨w.heap.size,1,none⟩ (.slice p41 (ln (am Z1)) (ln (am Z1)))).setCell ⟨w.heap.size,2,none⟩ (.slice q41 (ln V1) (ln V1))):=((((Mid.refl _ _ _).set _ _ (by omega) (by omega) _).set _ _ (by omega) (by omega) _).set _ _ (by omega) (by omega) _)
 have eM:=set3_same (w:=w41) (c:=w.heap.size) (u0:=.bool (ng Z1)) (u1:=.slice p41 (ln (am Z1)) (ln (am Z1))) (u2:=.slice q41 (ln V1) (ln V1)) q00 q01 q02
 have q00_:((((w41.setCell ⟨w.heap.size,0,none⟩ (.bool (ng Z1))).setCell ⟨w.heap.size,1,none⟩ (.slice p41 (ln (am Z1)) (ln (am Z1)))).setCell ⟨w.heap.size,2,none⟩ (.slice q41 (ln V1) (ln V1)))).cell? ⟨w.heap.size,0,none⟩=some (.bool (ng Z1)):=eM.1
 have q01_:((((w41.setCell ⟨w.heap.size,0,none⟩ (.bool (ng Z1))).setCell ⟨w.heap.size,1,none⟩ (.slice p41 (ln (am Z1)) (ln (am Z1)))).setCell ⟨w.heap.size,2,none⟩ (.slice q41 (ln V1) (ln V1)))).cell? ⟨w.heap.size,1,none⟩=some (.slice p41 (ln (am Z1)) (ln (am Z1))):=eM.2.1
 have q02_:((((w41.setCell ⟨w.heap.size,0,none⟩ (.bool (ng Z1))).setCell ⟨w.heap.size,1,none⟩ (.slice p41 (ln (am Z1)) (ln (am Z1)))).setCell ⟨w.heap.size,2,none⟩ (.slice q41 (ln V1) (ln V1)))).cell? ⟨w.heap.size,2,none⟩=some (.slice q41 (ln V1) (ln V1)):=eM.2.2
 have q10_:((((w41.setCell ⟨w.heap.size,0,none⟩ (.bool (ng Z1))).setCell ⟨w.heap.size,1,none⟩ (.slice p41 (ln (am Z1)) (ln (am Z1)))).setCell ⟨w.heap.size,2,none⟩ (.slice q41 (ln V1) (ln V1)))).cell? ⟨w.heap.size+1,0,none⟩=some (.bool s1):=(xJ2 (by omega)).trans q10
 have q11_:((((w41.setCell ⟨w.heap.size,0,none⟩ (.bool (ng Z1))).setCell ⟨w.heap.size,1,none⟩ (.slice p41 (ln (am Z1)) (ln (am Z1)))).setCell ⟨w.heap.size,2,none⟩ (.slice q41 (ln V1) (ln V1)))).cell? ⟨w.heap.size+1,1,none⟩=some (.slice a1 n1 c1):=(xJ2 (by omega)).trans q11
 have q12_:((((w41.setCell ⟨w.heap.size,0,none⟩ (.bool (ng Z1))).setCell ⟨w.heap.size,1,none⟩ (.slice p41 (ln (am Z1)) (ln (am Z1)))).setCell ⟨w.heap.size,2,none⟩ (.slice q41 (ln V1) (ln V1)))).cell? ⟨w.heap.size+1,2,none⟩=some (.slice b1 m1 d1):=(xJ2 (by omega)).trans q12
 have r00_:((((w41.setCell ⟨w.heap.size,0,none⟩ (.bool (ng Z1))).setCell ⟨w.heap.size,1,none⟩ (.slice p41 (ln (am Z1)) (ln (am Z1)))).setCell ⟨w.heap.size,2,none⟩ (.slice q41 (ln V1) (ln V1)))).cell? ⟨w.heap.size+1+1,0,none⟩=some (.bool false):=(xJ2 (by omega)).trans r00
 have r01_:((((w41.setCell ⟨w.heap.size,0,none⟩ (.bool (ng Z1))).setCell ⟨w.heap.size,1,none⟩ (.slice p41 (ln (am Z1)) (ln (am Z1)))).setCell ⟨w.heap.size,2,none⟩ (.slice q41 (ln V1) (ln V1)))).cell? ⟨w.heap.size+1+1,1,none⟩=some (.slice none 0 0):=(xJ2 (by omega)).trans r01
 have r02_:((((w41.setCell ⟨w.heap.size,0,none⟩ (.bool (ng Z1))).setCell ⟨w.heap.size,1,none⟩ (.slice p41 (ln (am Z1)) (ln (am Z1)))).setCell ⟨w.heap.size,2,none⟩ (.slice q41 (ln V1) (ln V1)))).cell? ⟨w.heap.size+1+1,2,none⟩=some (.slice none 0 0):=(xJ2 (by omega)).trans r02
 have hR0_:=(((hR0.setCell ⟨w.heap.size,0,none⟩ (.bool (ng Z1))).setCell ⟨w.heap.size,1,none⟩ (.slice p41 (ln (am Z1)) (ln (am Z1)))).setCell ⟨w.heap.size,2,none⟩ (.slice q41 (ln V1) (ln V1)))
 have fzhR0:=fun o=>hR0.frozen o
 have hP0_:=(((hP0.setCell ⟨w.heap.size,0,none⟩ (.bool (ng Z1))).setCell ⟨w.heap.size,1,none⟩ (.slice p41 (ln (am Z1)) (ln (am Z1)))).setCell ⟨w.heap.size,2,none⟩ (.slice q41 (ln V1) (ln V1)))
 have fzhP0:=fun o=>hP0.frozen o
 have hP1_:=(((hP1.setCell ⟨w.heap.size,0,none⟩ (.bool (ng Z1))).setCell ⟨w.heap.size,1,none⟩ (.slice p41 (ln (am Z1)) (ln (am Z1)))).setCell ⟨w.heap.size,2,none⟩ (.slice q41 (ln V1) (ln V1)))
 have fzhP1:=fun o=>hP1.frozen o
 have khp41:=(hp41.mid hB hM).seg
 clear hp41
 have khq41:=(hq41.mid hB hM).seg
 clear hq41
 have hBn:=(hB.trans (hBW.mono hB.size)).trans (hM.below (Nat.le_trans hB.size hBW.size))
 have hsM:=hM.size
 clear hM eM
 go_wp2_with fail
 clear q00 q01 q02 q10 q11 q12 r00 r01 r02 hR0 hP0 hP1 fzhR0 fzhP0 fzhP1 hB hBW
 generalize (((w41.setCell ⟨w.heap.size,0,none⟩ (.bool (ng Z1))).setCell ⟨w.heap.size,1,none⟩ (.slice p41 (ln (am Z1)) (ln (am Z1)))).setCell ⟨w.heap.size,2,none⟩ (.slice q41 (ln V1) (ln V1)))=w41y at q00_ q01_ q02_ q10_ q11_ q12_ r00_ r01_ r02_ hR0_ hP0_ hP1_ khp41 khq41 hBn hsM ⊢
 have q00:=q00_
 clear q00_
 have q01:=q01_
 clear q01_
 have q02:=q02_
 clear q02_
 have q10:=q10_
 clear q10_
 have q11:=q11_
 clear q11_
 have q12:=q12_
 clear q12_
 have r00:=r00_
 clear r00_
 have r01:=r01_
 clear r01_
 have r02:=r02_
 clear r02_
 have hR0:=hR0_
 clear hR0_
 have hP0:=hP0_
 clear hP0_
 have hP1:=hP1_
 clear hP1_
 have hB:=hBn
 clear hBn
 have hBW:Below w41y.heap.size w41y w41y:=Below.refl _ _
 refine (vqNorm_is s1 a1 n1 c1 X1 b1 m1 d1 Y1 V2 Z2 _ (by omega) (sb hS1 hB hBW) (by omega) (sb hT1 hB hBW) G2.out).mono ?_
 rintro e w42 ⟨p42,q42,rfl,hp42,hq42⟩
 have b42:=hp42.below
 replace hp42:=hp42.back hBW
 replace hq42:=hq42.back hBW
 replace hBW:=hBW.trans (b42.mono hBW.size)
 replace q00:=xQ0 b42 q00
 replace q01:=xQ0 b42 q01
 replace q02:=xQ0 b42 q02
 replace q10:=xQ0 b42 q10
 replace q11:=xQ0 b42 q11
 replace q12:=xQ0 b42 q12
 replace r00:=xQ0 b42 r00
 replace r01:=xQ0 b42 r01
 replace r02:=xQ0 b42 r02
 replace hR0:=xQ3 b42 hR0
 replace hP0:=xQ3 b42 hP0
 replace hP1:=xQ3 b42 hP1
 replace khp41:=khp41.later b42
 replace khq41:=khq41.later b42
 have hsB:=hBW.size
 have hM:Mid w.heap.size w41y.heap.size w42 (((w42.setCell ⟨w.heap.size+1,0,none⟩ (.bool (ng Z2))).setCell ⟨w.heap.size+1,1,none⟩ (.slice p42 (ln (am Z2)) (ln (am Z2)))).setCell ⟨w.heap.size+1,2,none⟩ (.slice q42 (ln V2) (ln V2))):=((((Mid.refl _ _ _).set _ _ (by omega) (by omega) _).set _ _ (by omega) (by omega) _).set _ _ (by omega) (by omega) _)
 have eM:=set3_same (w:=w42) (c:=w.heap.size+1) (u0:=.bool (ng Z2)) (u1:=.slice p42 (ln (am Z2)) (ln (am Z2))) (u2:=.slice q42 (ln V2) (ln V2)) q10 q11 q12
 have q00_:((((w42.setCell ⟨w.heap.size+1,0,none⟩ (.bool (ng Z2))).setCell ⟨w.heap.size+1,1,none⟩ (.slice p42 (ln (am Z2)) (ln (am Z2)))).setCell ⟨w.heap.size+1,2,none⟩ (.slice q42 (ln V2) (ln V2)))).cell? ⟨w.heap.size,0,none⟩=some (.bool (ng Z1)):=(xJ2 (by omega)).trans q00
 have q01_:((((w42.setCell ⟨w.heap.size+1,0,none⟩ (.bool (ng Z2))).setCell ⟨w.heap.size+1,1,none⟩ (.slice p42 (ln (am Z2)) (ln (am Z2)))).setCell ⟨w.heap.size+1,2,none⟩ (.slice q42 (ln V2) (ln V2)))).cell? ⟨w.heap.size,1,none⟩=some (.slice p41 (ln (am Z1)) (ln (am Z1))):=(xJ2 (by omega)).trans q01
 have q02_:((((w42.setCell ⟨w.heap.size+1,0,none⟩ (.bool (ng Z2))).setCell ⟨w.heap.size+1,1,none⟩ (.slice p42 (ln (am Z2)) (ln (am Z2)))).setCell ⟨w.heap.size+1,2,none⟩ (.slice q42 (ln V2) (ln V2)))).cell? ⟨w.heap.size,2,none⟩=some (.slice q41 (ln V1) (ln V1)):=(xJ2 (by omega)).trans q02
 have q10_:((((w42.setCell ⟨w.heap.size+1,0,none⟩ (.bool (ng Z2))).setCell ⟨w.heap.size+1,1,none⟩ (.slice p42 (ln (am Z2)) (ln (am Z2)))).setCell ⟨w.heap.size+1,2,none⟩ (.slice q42 (ln V2) (ln V2)))).cell? ⟨w.heap.size+1,0,none⟩=some (.bool (ng Z2)):=eM.1
 have q11_:((((w42.setCell ⟨w.heap.size+1,0,none⟩ (.bool (ng Z2))).setCell ⟨w.heap.size+1,1,none⟩ (.slice p42 (ln (am Z2)) (ln (am Z2)))).setCell ⟨w.heap.size+1,2,none⟩ (.slice q42 (ln V2) (ln V2)))).cell? ⟨w.heap.size+1,1,none⟩=some (.slice p42 (ln (am Z2)) (ln (am Z2))):=eM.2.1
 have q12_:((((w42.setCell ⟨w.heap.size+1,0,none⟩ (.bool (ng Z2))).setCell ⟨w.heap.size+1,1,none⟩ (.slice p42 (ln (am Z2)) (ln (am Z2)))).setCell ⟨w.heap.size+1,2,none⟩ (.slice q42 (ln V2) (ln V2)))).cell? ⟨w.heap.size+1,2,none⟩=some (.slice q42 (ln V2) (ln V2)):=eM.2.2
 have r00_:((((w42.setCell ⟨w.heap.size+1,0,none⟩ (.bool (ng Z2))).setCell ⟨w.heap.size+1,1,none⟩ (.slice p42 (ln (am Z2)) (ln (am Z2)))).setCell ⟨w.heap.size+1,2,none⟩ (.slice q42 (ln V2) (ln V2)))).cell? ⟨w.heap.size+1+1,0,none⟩=some (.bool false):=(xJ2 (by omega)).trans r00
 have r01_:((((w42.setCell ⟨w.heap.size+1,0,none⟩ (.bool (ng Z2))).setCell ⟨w.heap.size+1,1,none⟩ (.slice p42 (ln (am Z2)) (ln (am Z2)))).setCell ⟨w.heap.size+1,2,none⟩ (.slice q42 (ln V2) (ln V2)))).cell? ⟨w.heap.size+1+1,1,none⟩=some (.slice none 0 0):=(xJ2 (by omega)).trans r01
 have r02_:((((w42.setCell ⟨w.heap.size+1,0,none⟩ (.bool (ng Z2))).setCell ⟨w.heap.size+1,1,none⟩ (.slice p42 (ln (am Z2)) (ln (am Z2)))).setCell ⟨w.heap.size+1,2,none⟩ (.slice q42 (ln V2) (ln V2)))).cell? ⟨w.heap.size+1+1,2,none⟩=some (.slice none 0 0):=(xJ2 (by omega)).trans r02
 have hR0_:=(((hR0.setCell ⟨w.heap.size+1,0,none⟩ (.bool (ng Z2))).setCell ⟨w.heap.size+1,1,none⟩ (.slice p42 (ln (am Z2)) (ln (am Z2)))).setCell ⟨w.heap.size+1,2,none⟩ (.slice q42 (ln V2) (ln V2)))
 have fzhR0:=fun o=>hR0.frozen o
 have hP0_:=(((hP0.setCell ⟨w.heap.size+1,0,none⟩ (.bool (ng Z2))).setCell ⟨w.heap.size+1,1,none⟩ (.slice p42 (ln (am Z2)) (ln (am Z2)))).setCell ⟨w.heap.size+1,2,none⟩ (.slice q42 (ln V2) (ln V2)))
 have fzhP0:=fun o=>hP0.frozen o
 have hP1_:=(((hP1.setCell ⟨w.heap.size+1,0,none⟩ (.bool (ng Z2))).setCell ⟨w.heap.size+1,1,none⟩ (.slice p42 (ln (am Z2)) (ln (am Z2)))).setCell ⟨w.heap.size+1,2,none⟩ (.slice q42 (ln V2) (ln V2)))
 have fzhP1:=fun o=>hP1.frozen o
 replace khp41:=khp41.set3 (u0:=.bool (ng Z2)) (u1:=.slice p42 (ln (am Z2)) (ln (am Z2))) (u2:=.slice q42 (ln V2) (ln V2)) q10 q11 q12
 replace khq41:=khq41.set3 (u0:=.bool (ng Z2)) (u1:=.slice p42 (ln (am Z2)) (ln (am Z2))) (u2:=.slice q42 (ln V2) (ln V2)) q10 q11 q12
 have khp42:=(hp42.mid hB hM).seg
 clear hp42
 have khq42:=(hq42.mid hB hM).seg
 clear hq42
 have hBn:=(hB.trans (hBW.mono hB.size)).trans (hM.below (Nat.le_trans hB.size hBW.size))
 have hsM:=hM.size
 clear hM eM
 go_wp2_with fail
 clear q00 q01 q02 q10 q11 q12 r00 r01 r02 hR0 hP0 hP1 fzhR0 fzhP0 fzhP1 hB hBW
 generalize (((w42.setCell ⟨w.heap.size+1,0,none⟩ (.bool (ng Z2))).setCell ⟨w.heap.size+1,1,none⟩ (.slice p42 (ln (am Z2)) (ln (am Z2)))).setCell ⟨w.heap.size+1,2,none⟩ (.slice q42 (ln V2) (ln V2)))=w42y at q00_ q01_ q02_ q10_ q11_ q12_ r00_ r01_ r02_ hR0_ hP0_ hP1_ khp41 khq41 khp42 khq42 hBn hsM ⊢
 have q00:=q00_
 clear q00_
 have q01:=q01_
 clear q01_
 have q02:=q02_
 clear q02_
 have q10:=q10_
 clear q10_
 have q11:=q11_
 clear q11_
 have q12:=q12_
 clear q12_
 have r00:=r00_
 clear r00_
 have r01:=r01_
 clear r01_
 have r02:=r02_
 clear r02_
 have hR0:=hR0_
 clear hR0_
 have hP0:=hP0_
 clear hP0_
 have hP1:=hP1_
 clear hP1_
 have hB:=hBn
 clear hBn
 have hBW:Below w42y.heap.size w42y w42y:=Below.refl _ _
 have hzz:w.heap.size+1+1+1≤w42y.heap.size:=by omega
 clear hz
 go_cut [5] from 10 to 22 (fun s5 wx=>∃ c p,s5=.pointer (some ⟨c,0,none⟩)∧w42y.heap.size≤c∧wx.cell? ⟨c,0,none⟩=some (.bool (ng M))∧wx.cell? ⟨c,1,none⟩=some (.slice p (ln (am M)) (ln (am M)))∧Seg wx p (am M) (ln (am M))∧Below w42y.heap.size w42y wx)
 case first =>
  replace hBW:=hBW.drew
  replace khp41:=khp41.drew
  replace khq41:=khq41.drew
  replace khp42:=khp42.drew
  replace khq42:=khq42.drew
  first
   | go_region_held3 (fun w'=>w'.cell? ⟨w.heap.size,0,none⟩=some (.bool (ng Z1))∧w'.cell? ⟨w.heap.size,1,none⟩=some (.slice p41 (ln (am Z1)) (ln (am Z1)))∧w'.cell? ⟨w.heap.size,2,none⟩=some (.slice q41 (ln V1) (ln V1))∧w'.cell? ⟨w.heap.size+1,0,none⟩=some (.bool (ng Z2))∧w'.cell? ⟨w.heap.size+1,1,none⟩=some (.slice p42 (ln (am Z2)) (ln (am Z2)))∧w'.cell? ⟨w.heap.size+1,2,none⟩=some (.slice q42 (ln V2) (ln V2))∧Below w.heap.size w w')
     (first | exact ⟨q00,q01,q02,q10,q11,q12,hB.trans (hBW.mono hB.size)⟩ | exact kp6 b43 (by assumption) | exact kp6 b44 (by assumption) | exact kp6 b45 (by assumption) | exact kp6 b46 (by assumption) | exact kp6 b47 (by assumption) | exact kp6 (xQ2 _) (by assumption) | exact kp6 (xQ2 _) ⟨q00,q01,q02,q10,q11,q12,hB.trans (hBW.mono hB.size)⟩ | exact kpT6_2 (by assumption) (by omega) (by omega) (by omega) (by omega) (by omega) (by omega) (by omega))
     (first
      | (go_at_call 68;go_at_call_of 68 (Value.slice q42 (ln V2) (ln V2));(fail_if_success clear b43);refine Calls.mono (positive_is q42 (ln V2) (ln V2) _) ?_;rintro e w43 ⟨rfl,b43⟩;(try replace b43:=un_drew b43);(try ((fail_if_success (have hh:=laR));obtain ⟨la0,la1,laR⟩:=al2 b43;have lage:=hBW.size;have lac:=lt_al (w:=_) (o:=_) (Nat.le_refl _) b43;(try simp only [size_drew] at la0 la1 laR lage lac);replace b43:=below_al b43));(try (have lac:=laR.lt;replace la0:=xQ0 b43 la0;replace la1:=xQ0 b43 la1;replace laR:=xQ3 b43 laR));(try (have laf:=fun o=>laR.frozen o));replace hBW:=hBW.trans (b43.mono hBW.size);replace q00:=xQ0 b43 q00;replace q01:=xQ0 b43 q01;replace q02:=xQ0 b43 q02;replace q10:=xQ0 b43 q10;replace q11:=xQ0 b43 q11;replace q12:=xQ0 b43 q12;replace r00:=xQ0 b43 r00;replace r01:=xQ0 b43 r01;replace r02:=xQ0 b43 r02;replace hR0:=xQ3 b43 hR0;replace hP0:=xQ3 b43 hP0;replace hP1:=xQ3 b43 hP1;replace khp41:=khp41.later b43;replace khq41:=khq41.later b43;replace khp42:=khp42.later b43;replace khq42:=khq42.later b43)
      | (go_at_call 67;go_at_call_of 67 (Value.agg #[Value.bool (ng Z1),Value.slice p41 (ln (am Z1)) (ln (am Z1))]);(fail_if_success clear b44);refine Calls.mono (H1.out _ p41 q42 (by first | exact khp41 | exact (khp41).later (xQ2 _)) (by first | exact khq42 | exact (khq42).later (xQ2 _))) ?_;rintro e w44 ⟨a44,rfl,h44⟩;have b44:=h44.below;(try replace b44:=un_drew b44);(try ((fail_if_success (have hh:=laR));obtain ⟨la0,la1,laR⟩:=al2 b44;have lage:=hBW.size;have lac:=lt_al (w:=_) (o:=_) (Nat.le_refl _) b44;(try simp only [size_drew] at la0 la1 laR lage lac);replace b44:=below_al b44));(try (have lac:=laR.lt;replace la0:=xQ0 b44 la0;replace la1:=xQ0 b44 la1;replace laR:=xQ3 b44 laR));(try (have laf:=fun o=>laR.frozen o));have k1:=h44.seg;clear h44;replace hBW:=hBW.trans (b44.mono hBW.size);replace q00:=xQ0 b44 q00;replace q01:=xQ0 b44 q01;replace q02:=xQ0 b44 q02;replace q10:=xQ0 b44 q10;replace q11:=xQ0 b44 q11;replace q12:=xQ0 b44 q12;replace r00:=xQ0 b44 r00;replace r01:=xQ0 b44 r01;replace r02:=xQ0 b44 r02;replace hR0:=xQ3 b44 hR0;replace hP0:=xQ3 b44 hP0;replace hP1:=xQ3 b44 hP1;replace khp41:=khp41.later b44;replace khq41:=khq41.later b44;replace khp42:=khp42.later b44;replace khq42:=khq42.later b44)
      | (go_at_call 68;go_at_call_of 68 (Value.slice q41 (ln V1) (ln V1));(fail_if_success clear b45);refine Calls.mono (positive_is q41 (ln V1) (ln V1) _) ?_;rintro e w45 ⟨rfl,b45⟩;(try replace b45:=un_drew b45);(try ((fail_if_success (have hh:=laR));obtain ⟨la0,la1,laR⟩:=al2 b45;have lage:=hBW.size;have lac:=lt_al (w:=_) (o:=_) (Nat.le_refl _) b45;(try simp only [size_drew] at la0 la1 laR lage lac);replace b45:=below_al b45));(try (have lac:=laR.lt;replace la0:=xQ0 b45 la0;replace la1:=xQ0 b45 la1;replace laR:=xQ3 b45 laR));(try (have laf:=fun o=>laR.frozen o));replace hBW:=hBW.trans (b45.mono hBW.size);replace q00:=xQ0 b45 q00;replace q01:=xQ0 b45 q01;replace q02:=xQ0 b45 q02;replace q10:=xQ0 b45 q10;replace q11:=xQ0 b45 q11;replace q12:=xQ0 b45 q12;replace r00:=xQ0 b45 r00;replace r01:=xQ0 b45 r01;replace r02:=xQ0 b45 r02;replace hR0:=xQ3 b45 hR0;replace hP0:=xQ3 b45 hP0;replace hP1:=xQ3 b45 hP1;replace khp41:=khp41.later b45;replace khq41:=khq41.later b45;replace khp42:=khp42.later b45;replace khq42:=khq42.later b45;replace k1:=k1.later b45)
      | (go_at_call 67;go_at_call_of 67 (Value.agg #[Value.bool (ng Z2),Value.slice p42 (ln (am Z2)) (ln (am Z2))]);(fail_if_success clear b46);refine Calls.mono (H2.out _ p42 q41 (by first | exact khp42 | exact (khp42).later (xQ2 _)) (by first | exact khq41 | exact (khq41).later (xQ2 _))) ?_;rintro e w46 ⟨a46,rfl,h46⟩;have b46:=h46.below;(try replace b46:=un_drew b46);(try ((fail_if_success (have hh:=laR));obtain ⟨la0,la1,laR⟩:=al2 b46;have lage:=hBW.size;have lac:=lt_al (w:=_) (o:=_) (Nat.le_refl _) b46;(try simp only [size_drew] at la0 la1 laR lage lac);replace b46:=below_al b46));(try (have lac:=laR.lt;replace la0:=xQ0 b46 la0;replace la1:=xQ0 b46 la1;replace laR:=xQ3 b46 laR));(try (have laf:=fun o=>laR.frozen o));have k2:=h46.seg;clear h46;replace hBW:=hBW.trans (b46.mono hBW.size);replace q00:=xQ0 b46 q00;replace q01:=xQ0 b46 q01;replace q02:=xQ0 b46 q02;replace q10:=xQ0 b46 q10;replace q11:=xQ0 b46 q11;replace q12:=xQ0 b46 q12;replace r00:=xQ0 b46 r00;replace r01:=xQ0 b46 r01;replace r02:=xQ0 b46 r02;replace hR0:=xQ3 b46 hR0;replace hP0:=xQ3 b46 hP0;replace hP1:=xQ3 b46 hP1;replace khp41:=khp41.later b46;replace khq41:=khq41.later b46;replace khp42:=khp42.later b46;replace khq42:=khq42.later b46;replace k1:=k1.later b46)
      | (go_at_call 66;(fail_if_success clear b47);refine Calls.mono (H3.out _ a44 a46 (by first | exact k1 | exact (k1).later (xQ2 _)) (by first | exact k2 | exact (k2).later (xQ2 _))) ?_;rintro e w47 ⟨a47,rfl,h47⟩;have b47:=h47.below;(try replace b47:=un_drew b47);(try ((fail_if_success (have hh:=laR));obtain ⟨la0,la1,laR⟩:=al2 b47;have lage:=hBW.size;have lac:=lt_al (w:=_) (o:=_) (Nat.le_refl _) b47;(try simp only [size_drew] at la0 la1 laR lage lac);replace b47:=below_al b47));(try (have lac:=laR.lt;replace la0:=xQ0 b47 la0;replace la1:=xQ0 b47 la1;replace laR:=xQ3 b47 laR));(try (have laf:=fun o=>laR.frozen o));have k3:=h47.seg;replace hBW:=hBW.trans (b47.mono hBW.size);replace q00:=xQ0 b47 q00;replace q01:=xQ0 b47 q01;replace q02:=xQ0 b47 q02;replace q10:=xQ0 b47 q10;replace q11:=xQ0 b47 q11;replace q12:=xQ0 b47 q12;replace r00:=xQ0 b47 r00;replace r01:=xQ0 b47 r01;replace r02:=xQ0 b47 r02;replace hR0:=xQ3 b47 hR0;replace hP0:=xQ3 b47 hP0;replace hP1:=xQ3 b47 hP1;replace khp41:=khp41.later b47;replace khq41:=khq41.later b47;replace khp42:=khp42.later b47;replace khq42:=khq42.later b47;replace k1:=k1.later b47;replace k2:=k2.later b47))
   | fail
  all_goals go_wp2_with fail
  all_goals go_meet
  all_goals first
   | exact ⟨_,_,rfl,lage,(set2_same la0 la1).1,(set2_same la0 la1).2,h47.seg2 lac _ _,(hBW.setCell lage _).setCell lage _⟩
   | exact ⟨_,_,rfl,hBW.size,by go_simp,by go_simp,k3.later (xQ2 _),hBW.trans ((xQ2 _).mono hBW.size)⟩
 case rest =>
 clear hBW H1 H2 H3
 obtain ⟨c,p,rfl,hge,lc0,lc1,kM,hBW⟩:=hcut
 replace q00:=xQ0 hBW q00
 replace q01:=xQ0 hBW q01
 replace q02:=xQ0 hBW q02
 replace q10:=xQ0 hBW q10
 replace q11:=xQ0 hBW q11
 replace q12:=xQ0 hBW q12
 replace r00:=xQ0 hBW r00
 replace r01:=xQ0 hBW r01
 replace r02:=xQ0 hBW r02
 replace hR0:=xQ3 hBW hR0
 replace hP0:=xQ3 hBW hP0
 replace hP1:=xQ3 hBW hP1
 replace khp41:=khp41.later hBW
 replace khq41:=khq41.later hBW
 replace khp42:=khp42.later hBW
 replace khq42:=khq42.later hBW
 go_wp2_with fail
 replace hBW:=hBW.drew
 replace khp41:=khp41.drew
 replace khq41:=khq41.drew
 replace khp42:=khp42.drew
 replace khq42:=khq42.drew
 replace kM:=kM.drew
 first
  | go_region_held3 (fun w'=>w'.cell? ⟨w.heap.size,2,none⟩=some (.slice q41 (ln V1) (ln V1))∧w'.cell? ⟨w.heap.size+1,2,none⟩=some (.slice q42 (ln V2) (ln V2))∧w'.cell? ⟨c,0,none⟩=some (.bool (ng M))∧w'.cell? ⟨c,1,none⟩=some (.slice p (ln (am M)) (ln (am M)))∧Below w.heap.size w w')
    (first | exact ⟨q02,q12,lc0,lc1,hB.trans (hBW.mono hB.size)⟩ | exact kp4 b61 (by assumption) | exact kp4 b62 (by assumption) | exact kp4 (xQ2 _) (by assumption) | exact kp4 (xQ2 _) ⟨q02,q12,lc0,lc1,hB.trans (hBW.mono hB.size)⟩ | exact kpT4_3 (by assumption) (by omega) (by omega) (by omega) (by omega) (by omega))
    (first
     | (go_at_call 69;(fail_if_success clear b61);refine (H4.out _ q41 q42 khq41 khq42).mono ?_;rintro e w61 ⟨a61,rfl,h4⟩;have b61:=h4.below;replace h4:=h4.back hBW;replace hBW:=hBW.trans (b61.mono hBW.size);replace q00:=xQ0 b61 q00;replace q01:=xQ0 b61 q01;replace q02:=xQ0 b61 q02;replace q10:=xQ0 b61 q10;replace q11:=xQ0 b61 q11;replace q12:=xQ0 b61 q12;replace r00:=xQ0 b61 r00;replace r01:=xQ0 b61 r01;replace r02:=xQ0 b61 r02;replace lc0:=xQ0 b61 lc0;replace lc1:=xQ0 b61 lc1;replace hR0:=xQ3 b61 hR0;replace hP0:=xQ3 b61 hP0;replace hP1:=xQ3 b61 hP1;replace khp41:=khp41.later b61;replace khq41:=khq41.later b61;replace khp42:=khp42.later b61;replace khq42:=khq42.later b61;replace kM:=kM.later b61)
     | (go_at_call 44;(fail_if_success clear b62);refine (vqNorm_is (ng M) p (ln (am M)) (ln (am M)) (am M) a61 (ln D) (ln D) D V Z _ (by omega) kM (by omega) h4.seg G3.out).mono ?_;rintro e w62 ⟨p62,q62,rfl,hp62,hq62⟩;have b62:=hp62.below;replace hp62:=hp62.back hBW;replace hq62:=hq62.back hBW;replace hBW:=hBW.trans (b62.mono hBW.size);replace q00:=xQ0 b62 q00;replace q01:=xQ0 b62 q01;replace q02:=xQ0 b62 q02;replace q10:=xQ0 b62 q10;replace q11:=xQ0 b62 q11;replace q12:=xQ0 b62 q12;replace r00:=xQ0 b62 r00;replace r01:=xQ0 b62 r01;replace r02:=xQ0 b62 r02;replace lc0:=xQ0 b62 lc0;replace lc1:=xQ0 b62 lc1;replace hR0:=xQ3 b62 hR0;replace hP0:=xQ3 b62 hP0;replace hP1:=xQ3 b62 hP1;replace khp41:=khp41.later b62;replace khq41:=khq41.later b62;replace khp42:=khp42.later b62;replace khq42:=khq42.later b62;replace kM:=kM.later b62;replace h4:=h4.later b62;have fz:=fun o=>hR0.frozen o))
  | fail
 have fz0:=fun o=>hR0.frozen o
 go_wp2
 all_goals refine bodyPost_ret (v:=Value.agg #[Value.bool (ng Z),Value.slice p62 (ln (am Z)) (ln (am Z)),Value.slice q62 (ln V) (ln V)]) (by rw [xQ5 rfl];go_simp) rfl ?_
 all_goals exact ⟨p62,q62,rfl,hp62.mid hB (((((Mid.refl _ _ _).set _ _ (by omega) (by omega) _).set _ _ (by omega) (by omega) _).set _ _ (by omega) (by omega) _)),hq62.mid hB (((((Mid.refl _ _ _).set _ _ (by omega) (by omega) _).set _ _ (by omega) (by omega) _).set _ _ (by omega) (by omega) _))⟩
theorem lt_prod {a b:Int} {i j:Nat} (ha:am a < BB ^ i) (hb:am b < BB ^ j):am (a*b) < BB ^ (i+j):=by
 rw [am_mul,Nat.pow_add]
 exact Nat.mul_lt_mul'' ha hb
theorem lt_sum {a b:Int} {i j k:Nat} (ha:am a < BB ^ i) (hb:am b < BB ^ j) (hi:i+1≤k) (hj:j+1≤k):am (a+b) < BB ^ k :=
 Nat.lt_of_lt_of_le (Nat.lt_of_le_of_lt (am_add a b) (xJ3 (am a+am b))) (xX4 (ln_sum ha hb hi hj))
theorem ln1 {A D Z:Int} {V i j k:Nat} (h:Low A D Z V) (hA:am A < BB ^ i) (hD:am D < BB ^ j) (hi:i≤k) (hj:j≤k):ln (am Z)≤k∧ln V≤k :=
 ⟨Nat.le_trans (xQ4 (Nat.lt_of_le_of_lt h.le.1 hA)) hi,Nat.le_trans (xQ4 (Nat.lt_of_le_of_lt h.le.2 hD)) hj⟩
end Go.Proofs.YtgfmaejhdbmkoaaGreat
