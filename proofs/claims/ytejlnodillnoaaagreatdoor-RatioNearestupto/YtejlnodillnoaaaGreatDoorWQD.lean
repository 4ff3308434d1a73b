import Derived.Test.YtejlnodillnoaaaGreatDoorWQ9
set_option linter.unusedSimpArgs false
namespace Go.Proofs.YtejlnodillnoaaaGreatDoor
open Go.RowKit
set_option linter.unusedVariables false
theorem low_of2 {N D Z:Int} {V:Nat} (h:Low N D Z V):Low (rn (ng N != ng D) (am N) (am D)) ((rd (am D):Nat):Int) Z V:=by
 have hD:am D≠0:=fun e=>h.ne (am_eq_zero.1 e)
 rw [rn_of hD,rd_of hD]
 refine h.congr (by omega) ?_
 unfold sg ng am
 rcases Int.lt_or_le N 0 with h1 | h1 <;> rcases Int.lt_or_le D 0 with h2 | h2
 ·rw [show decide (N < 0)=true by simpa using h1,show decide (D < 0)=true by simpa using h2]
  simp only [bne_self_eq_false,Bool.false_eq_true,if_false]
  rw [show ((N.natAbs:Nat):Int) = -N by omega,show ((D.natAbs:Nat):Int) = -D by omega];grind
 ·rw [show decide (N < 0)=true by simpa using h1,show decide (D < 0)=false by simpa using h2]
  simp only [show (true != false)=true from rfl,if_true]
  rw [show ((N.natAbs:Nat):Int) = -N by omega,show ((D.natAbs:Nat):Int)=D by omega];grind
 ·rw [show decide (N < 0)=false by simpa using h1,show decide (D < 0)=true by simpa using h2]
  simp only [show (false != true)=true from rfl,if_true]
  rw [show ((N.natAbs:Nat):Int)=N by omega,show ((D.natAbs:Nat):Int) = -D by omega];grind
 ·rw [show decide (N < 0)=false by simpa using h1,show decide (D < 0)=false by simpa using h2]
  simp only [bne_self_eq_false,Bool.false_eq_true,if_false]
  rw [show ((N.natAbs:Nat):Int)=N by omega,show ((D.natAbs:Nat):Int)=D by omega]
set_option maxHeartbeats 2000000 in
set_option maxRecDepth 100000 in
theorem vqOf_is (s:Bool) (ao:Option Addr) (n cap X:Nat) (t:Bool) (ao2:Option Addr) (m cap2 Y V:Nat) (Z:Int) (w:World) (hm:n≤70368744177350) (hS:Seg w ao X n) (hm2:m≤70368744177350) (hS2:Seg w ao2 Y m) (hL:Low (sg s X) (sg t Y) Z V) :
  Calls Tryz.prog 74 #[.agg #[.bool s,.slice ao n cap],.agg #[.bool t,.slice ao2 m cap2]] w fun e w'=>∃ p q,e=.returned (.tuple #[.agg #[.bool (ng Z),.slice p (ln (am Z)) (ln (am Z)),.slice q (ln V) (ln V)],.int .i64 0])∧New w w' p (am Z) (ln (am Z))∧New w w' q V (ln V):=by
 obtain ⟨N,hN⟩:∃ N,sg s X=N:=⟨_,rfl⟩
 obtain ⟨D,hD⟩:∃ D,sg t Y=D:=⟨_,rfl⟩
 rw [hN,hD] at hL
 have lN:ln (am N)≤n:=by rw [←hN,am_sg];exact ln_le_of_lt hS.1
 have lD:ln (am D)≤m:=by rw [←hD,am_sg];exact ln_le_of_lt hS2.1
 have hb:(((ln (am D):Nat):Int) == 0)=false:=by
  rw [beq_eq_false_iff_ne]
  have h1:am D≠0:=fun e=>hL.ne (am_eq_zero.1 e)
  have:=mt ln_eq_zero.1 h1
  omega
 have hL2:Low (rn (!(ng N == ng D)) (am N) (am D)) ((rd (am D):Nat):Int) Z V:=low_of2 hL
 have H1:=hide' (fun w' k=>vNorm_is s ao n cap X N w' (by omega) k hN)
 have H2:=hide' (fun w' k=>vNorm_is t ao2 m cap2 Y D w' (by omega) k hD)
 have H3:=hide' (fun w' p q k1 k2=>vqNorm_is (!(ng N == ng D)) p (ln (am N)) (ln (am N)) (am N) q (ln (am D)) (ln (am D)) (am D) V Z w' (by omega) k1 (by omega) k2 hL2)
 clear hN hD hL hL2
 go_enter Tryz.func74,Tryz.ntmps74
 go_wp2_with fail
 obtain ⟨W,hW⟩:∃ W,(((w.alloc (.cells #[.bool s,.slice ao n cap] 25)).alloc (.cells #[.bool t,.slice ao2 m cap2] 25)).alloc (.cells #[.bool false,.slice none 0 0,.slice none 0 0] 27))=W:=⟨_,rfl⟩
 have q00:W.cell? ⟨w.heap.size,0,none⟩=some (.bool s):=by subst hW;go_simp
 have q01:W.cell? ⟨w.heap.size,1,none⟩=some (.slice ao n cap):=by subst hW;go_simp
 have q10:W.cell? ⟨w.heap.size+1,0,none⟩=some (.bool t):=by subst hW;go_simp
 have q11:W.cell? ⟨w.heap.size+1,1,none⟩=some (.slice ao2 m cap2):=by subst hW;go_simp
 have r00:W.cell? ⟨w.heap.size+1+1,0,none⟩=some (.bool false):=by subst hW;go_simp
 have r01:W.cell? ⟨w.heap.size+1+1,1,none⟩=some (.slice none 0 0):=by subst hW;go_simp
 have r02:W.cell? ⟨w.heap.size+1+1,2,none⟩=some (.slice none 0 0):=by subst hW;go_simp
 have hB:Below w.heap.size w W:=by subst hW;exact ((((Below.refl _ _).alloc (by (try simp only [World.size_alloc]);omega) _).alloc (by (try simp only [World.size_alloc]);omega) _).alloc (by (try simp only [World.size_alloc]);omega) _)
 have hR0:Row W (w.heap.size+1+1):=by
  have:=row_new (((w.alloc (.cells #[.bool s,.slice ao n cap] 25)).alloc (.cells #[.bool t,.slice ao2 m cap2] 25))) #[.bool false,.slice none 0 0,.slice none 0 0] 27
  try simp only [World.size_alloc] at this
  subst hW;exact this
 have hz:W.heap.size=w.heap.size+1+1+1:=by subst hW;simp only [World.size_alloc]
 rw [hW]
 clear hW
 have hBW:Below W.heap.size W W:=Below.refl _ _
 refine (H1.out _ (sb hS hB hBW)).mono ?_
 rintro e w1 ⟨a1,rfl,h1⟩
 have b1:=h1.below
 replace h1:=h1.back hBW
 replace hBW:=hBW.trans (b1.mono hBW.size)
 replace q00:=below_cell b1 q00
 replace q01:=below_cell b1 q01
 replace q10:=below_cell b1 q10
 replace q11:=below_cell b1 q11
 replace r00:=below_cell b1 r00
 replace r01:=below_cell b1 r01
 replace r02:=below_cell b1 r02
 replace hR0:=below_row b1 hR0
 have hsz1:=hBW.size
 have hlt1hR0:=hR0.lt
 have l100:((w1.alloc (.cells #[.bool (ng N),.slice a1 (ln (am N)) (ln (am N))] 25))).cell? ⟨w1.heap.size,0,none⟩=some (.bool (ng N)):=by go_simp
 have l101:((w1.alloc (.cells #[.bool (ng N),.slice a1 (ln (am N)) (ln (am N))] 25))).cell? ⟨w1.heap.size,1,none⟩=some (.slice a1 (ln (am N)) (ln (am N))):=by go_simp
 have cb1:Below w1.heap.size w1 ((w1.alloc (.cells #[.bool (ng N),.slice a1 (ln (am N)) (ln (am N))] 25))):=((Below.refl _ _).alloc (by (try simp only [World.size_alloc]);omega) _)
 replace hBW:=hBW.trans (cb1.mono hBW.size)
 replace q00:=below_cell cb1 q00
 replace q01:=below_cell cb1 q01
 replace q10:=below_cell cb1 q10
 replace q11:=below_cell cb1 q11
 replace r00:=below_cell cb1 r00
 replace r01:=below_cell cb1 r01
 replace r02:=below_cell cb1 r02
 replace hR0:=below_row cb1 hR0
 replace h1:=h1.later cb1
 have hL10:Row ((w1.alloc (.cells #[.bool (ng N),.slice a1 (ln (am N)) (ln (am N))] 25))) (w1.heap.size):=by
  have:=row_new (w1) #[.bool (ng N),.slice a1 (ln (am N)) (ln (am N))] 25
  try simp only [World.size_alloc] at this
  exact this
 go_wp2_with fail
 generalize (w1.alloc (.cells #[.bool (ng N),.slice a1 (ln (am N)) (ln (am N))] 25))=w1x at q00 q01 q10 q11 r00 r01 r02 l100 l101 hR0 hL10 h1 hBW cb1 ⊢
 clear cb1
 refine (H2.out _ (sb hS2 hB hBW)).mono ?_
 rintro e w2 ⟨a2,rfl,h2⟩
 have b2:=h2.below
 replace h2:=h2.back hBW
 replace hBW:=hBW.trans (b2.mono hBW.size)
 replace q00:=below_cell b2 q00
 replace q01:=below_cell b2 q01
 replace q10:=below_cell b2 q10
 replace q11:=below_cell b2 q11
 replace r00:=below_cell b2 r00
 replace r01:=below_cell b2 r01
 replace r02:=below_cell b2 r02
 replace l100:=below_cell b2 l100
 replace l101:=below_cell b2 l101
 replace hR0:=below_row b2 hR0
 replace hL10:=below_row b2 hL10
 replace h1:=h1.later b2
 have hsz2:=hBW.size
 have hlt2hR0:=hR0.lt
 have hlt2hL10:=hL10.lt
 have l200:((w2.alloc (.cells #[.bool (ng D),.slice a2 (ln (am D)) (ln (am D))] 25))).cell? ⟨w2.heap.size,0,none⟩=some (.bool (ng D)):=by go_simp
 have l201:((w2.alloc (.cells #[.bool (ng D),.slice a2 (ln (am D)) (ln (am D))] 25))).cell? ⟨w2.heap.size,1,none⟩=some (.slice a2 (ln (am D)) (ln (am D))):=by go_simp
 have cb2:Below w2.heap.size w2 ((w2.alloc (.cells #[.bool (ng D),.slice a2 (ln (am D)) (ln (am D))] 25))):=((Below.refl _ _).alloc (by (try simp only [World.size_alloc]);omega) _)
 replace hBW:=hBW.trans (cb2.mono hBW.size)
 replace q00:=below_cell cb2 q00
 replace q01:=below_cell cb2 q01
 replace q10:=below_cell cb2 q10
 replace q11:=below_cell cb2 q11
 replace r00:=below_cell cb2 r00
 replace r01:=below_cell cb2 r01
 replace r02:=below_cell cb2 r02
 replace l100:=below_cell cb2 l100
 replace l101:=below_cell cb2 l101
 replace hR0:=below_row cb2 hR0
 replace hL10:=below_row cb2 hL10
 replace h1:=h1.later cb2
 replace h2:=h2.later cb2
 have hL20:Row ((w2.alloc (.cells #[.bool (ng D),.slice a2 (ln (am D)) (ln (am D))] 25))) (w2.heap.size):=by
  have:=row_new (w2) #[.bool (ng D),.slice a2 (ln (am D)) (ln (am D))] 25
  try simp only [World.size_alloc] at this
  exact this
 go_wp2_with fail
 generalize (w2.alloc (.cells #[.bool (ng D),.slice a2 (ln (am D)) (ln (am D))] 25))=w2x at q00 q01 q10 q11 r00 r01 r02 l100 l101 l200 l201 hR0 hL10 hL20 h1 h2 hBW cb2 ⊢
 clear cb2
 refine (H3.out _ a1 a2 h1.seg h2.seg).mono ?_
 rintro e w3 ⟨p3,q3,rfl,hp3,hq3⟩
 have b3:=hp3.below
 replace hp3:=hp3.back hBW
 replace hq3:=hq3.back hBW
 replace hBW:=hBW.trans (b3.mono hBW.size)
 replace q00:=below_cell b3 q00
 replace q01:=below_cell b3 q01
 replace q10:=below_cell b3 q10
 replace q11:=below_cell b3 q11
 replace r00:=below_cell b3 r00
 replace r01:=below_cell b3 r01
 replace r02:=below_cell b3 r02
 replace l100:=below_cell b3 l100
 replace l101:=below_cell b3 l101
 replace l200:=below_cell b3 l200
 replace l201:=below_cell b3 l201
 replace hR0:=below_row b3 hR0
 replace hL10:=below_row b3 hL10
 replace hL20:=below_row b3 hL20
 replace h1:=h1.later b3
 replace h2:=h2.later b3
 have fz0:=fun o=>hR0.frozen o
 go_wp2
 all_goals refine bodyPost_ret (v:=.tuple #[Value.agg #[Value.bool (ng Z),Value.slice p3 (ln (am Z)) (ln (am Z)),Value.slice q3 (ln V) (ln V)],.int .i64 0]) (by rw [results_ct rfl];go_simp) rfl ?_
 all_goals exact ⟨p3,q3,rfl,hp3.mid hB (((((Mid.refl _ _ _).set _ _ (by omega) (by omega) _).set _ _ (by omega) (by omega) _).set _ _ (by omega) (by omega) _)),hq3.mid hB (((((Mid.refl _ _ _).set _ _ (by omega) (by omega) _).set _ _ (by omega) (by omega) _).set _ _ (by omega) (by omega) _))⟩
set_option maxHeartbeats 4000000 in
set_option maxRecDepth 100000 in
theorem vqInv_is (s0:Bool) (a0:Option Addr) (n0 c0 X0:Nat) (b0:Option Addr) (m0 d0 Y0:Nat) (Z:Int) (V:Nat) (w:World) (hc0:n0≤c0) (hm0:n0≤35184372088010) (hS0:Seg w a0 X0 n0) (hd0:m0≤d0) (hk0:m0≤35184372088010) (hT0:Seg w b0 Y0 m0) (hL:Low (rd Y0:Nat) (rn s0 X0 Y0) Z V) :
  Calls Tryz.prog 38 #[Value.agg #[Value.bool s0,Value.slice a0 n0 c0,Value.slice b0 m0 d0]] w fun e w'=>∃ p q,e=.returned (.tuple #[.agg #[.bool (ng Z),.slice p (ln (am Z)) (ln (am Z)),.slice q (ln V) (ln V)],.int .i64 0])∧New w w' p (am Z) (ln (am Z))∧New w w' q V (ln V):=by
 obtain ⟨Z1,V1,h1⟩:=low_ex (rn s0 X0 Y0) (rd Y0:Nat) (rd_ne Y0)
 obtain ⟨lZ,lV⟩:=low_ln hS0.1 hT0.1 h1
 have G1:=hide' h1
 have h2:Low (sg false V1) (sg (ng Z1) (am Z1)) Z V:=by
  rw [sg_na]
  refine hL.congr (fun e=>hL.ne ?_) ?_
  ·have:=h1.eq
   rw [e,Int.zero_mul] at this
   rcases Int.mul_eq_zero.1 this.symm with k | k
   ·exact k
   ·have:=h1.pos;omega
  ·have:=h1.eq
   show ((rd Y0:Nat):Int)*Z1=(V1:Int)*rn s0 X0 Y0
   grind
 have HO:=hide' (fun w' p q k1 k2=>vqOf_is false q (ln V1) (ln V1) V1 (ng Z1) p (ln (am Z1)) (ln (am Z1)) (am Z1) V Z w' (by omega) k1 (by omega) k2 h2)
 clear hL h1 h2
 go_enter Tryz.func38,Tryz.ntmps38
 go_wp2_with fail
 obtain ⟨W,hW⟩:∃ W,((w.alloc (.cells #[.bool s0,.slice a0 n0 c0,.slice b0 m0 d0] 27)).alloc (.cells #[.bool false,.slice none 0 0,.slice none 0 0] 27))=W:=⟨_,rfl⟩
 have q00:W.cell? ⟨w.heap.size,0,none⟩=some (.bool s0):=by subst hW;go_simp
 have q01:W.cell? ⟨w.heap.size,1,none⟩=some (.slice a0 n0 c0):=by subst hW;go_simp
 have q02:W.cell? ⟨w.heap.size,2,none⟩=some (.slice b0 m0 d0):=by subst hW;go_simp
 have r00:W.cell? ⟨w.heap.size+1,0,none⟩=some (.bool false):=by subst hW;go_simp
 have r01:W.cell? ⟨w.heap.size+1,1,none⟩=some (.slice none 0 0):=by subst hW;go_simp
 have r02:W.cell? ⟨w.heap.size+1,2,none⟩=some (.slice none 0 0):=by subst hW;go_simp
 have hB:Below w.heap.size w W:=by subst hW;exact (((Below.refl _ _).alloc (by (try simp only [World.size_alloc]);omega) _).alloc (by (try simp only [World.size_alloc]);omega) _)
 have hR0:Row W (w.heap.size+1):=by
  have:=row_new ((w.alloc (.cells #[.bool s0,.slice a0 n0 c0,.slice b0 m0 d0] 27))) #[.bool false,.slice none 0 0,.slice none 0 0] 27
  try simp only [World.size_alloc] at this
  subst hW;exact this
 have hP0:Row W (w.heap.size):=by
  have:=row_new (w) #[.bool s0,.slice a0 n0 c0,.slice b0 m0 d0] 27
  try simp only [World.size_alloc] at this
  subst hW;exact (this.alloc _)
 have hz:W.heap.size=w.heap.size+1+1:=by subst hW;simp only [World.size_alloc]
 rw [hW]
 clear hW
 have hBW:Below W.heap.size W W:=Below.refl _ _
 refine (vqNorm_is s0 a0 n0 c0 X0 b0 m0 d0 Y0 V1 Z1 _ (by omega) (sb hS0 hB hBW) (by omega) (sb hT0 hB hBW) G1.out).mono ?_
 rintro e w41 ⟨p41,q41,rfl,hp41,hq41⟩
 have b41:=hp41.below
 replace hp41:=hp41.back hBW
 replace hq41:=hq41.back hBW
 replace hBW:=hBW.trans (b41.mono hBW.size)
 replace q00:=below_cell b41 q00
 replace q01:=below_cell b41 q01
 replace q02:=below_cell b41 q02
 replace r00:=below_cell b41 r00
 replace r01:=below_cell b41 r01
 replace r02:=below_cell b41 r02
 replace hR0:=below_row b41 hR0
 replace hP0:=below_row b41 hP0
 have hsB:=hBW.size
 have hM:Mid w.heap.size W.heap.size w41 (((w41.setCell ⟨w.heap.size,0,none⟩ (.bool (ng Z1))).setCell ⟨w.heap.size,1,none⟩ (.slice p41 (ln (am Z1)) (ln (am Z1)))).setCell ⟨w.heap.size,2,none⟩ (.slice q41 (ln V1) (ln V1))):=((((Mid.refl _ _ _).set _ _ (by omega) (by omega) _).set _ _ (by omega) (by omega) _).set _ _ (by omega) (by omega) _)
 have eM:=set3_same (w:=w41) (c:=w.heap.size) (u0:=.bool (ng Z1)) (u1:=.slice p41 (ln (am Z1)) (ln (am Z1))) (u2:=.slice q41 (ln V1) (ln V1)) q00 q01 q02
 have q00_:((((w41.setCell ⟨w.heap.size,0,none⟩ (.bool (ng Z1))).setCell ⟨w.heap.size,1,none⟩ (.slice p41 (ln (am Z1)) (ln (am Z1)))).setCell ⟨w.heap.size,2,none⟩ (.slice q41 (ln V1) (ln V1)))).cell? ⟨w.heap.size,0,none⟩=some (.bool (ng Z1)):=eM.1
 have q01_:((((w41.setCell ⟨w.heap.size,0,none⟩ (.bool (ng Z1))).setCell ⟨w.heap.size,1,none⟩ (.slice p41 (ln (am Z1)) (ln (am Z1)))).setCell ⟨w.heap.size,2,none⟩ (.slice q41 (ln V1) (ln V1)))).cell? ⟨w.heap.size,1,none⟩=some (.slice p41 (ln (am Z1)) (ln (am Z1))):=eM.2.1
 have q02_:((((w41.setCell ⟨w.heap.size,0,none⟩ (.bool (ng Z1))).setCell ⟨w.heap.size,1,none⟩ (.slice p41 (ln (am Z1)) (ln (am Z1)))).setCell ⟨w.heap.size,2,none⟩ (.slice q41 (ln V1) (ln V1)))).cell? ⟨w.heap.size,2,none⟩=some (.slice q41 (ln V1) (ln V1)):=eM.2.2
 have r00_:((((w41.setCell ⟨w.heap.size,0,none⟩ (.bool (ng Z1))).setCell ⟨w.heap.size,1,none⟩ (.slice p41 (ln (am Z1)) (ln (am Z1)))).setCell ⟨w.heap.size,2,none⟩ (.slice q41 (ln V1) (ln V1)))).cell? ⟨w.heap.size+1,0,none⟩=some (.bool false):=(set3_far (by omega)).trans r00
 have r01_:((((w41.setCell ⟨w.heap.size,0,none⟩ (.bool (ng Z1))).setCell ⟨w.heap.size,1,none⟩ (.slice p41 (ln (am Z1)) (ln (am Z1)))).setCell ⟨w.heap.size,2,none⟩ (.slice q41 (ln V1) (ln V1)))).cell? ⟨w.heap.size+1,1,none⟩=some (.slice none 0 0):=(set3_far (by omega)).trans r01
 have r02_:((((w41.setCell ⟨w.heap.size,0,none⟩ (.bool (ng Z1))).setCell ⟨w.heap.size,1,none⟩ (.slice p41 (ln (am Z1)) (ln (am Z1)))).setCell ⟨w.heap.size,2,none⟩ (.slice q41 (ln V1) (ln V1)))).cell? ⟨w.heap.size+1,2,none⟩=some (.slice none 0 0):=(set3_far (by omega)).trans r02
 have hR0_:=(((hR0.setCell ⟨w.heap.size,0,none⟩ (.bool (ng Z1))).setCell ⟨w.heap.size,1,none⟩ (.slice p41 (ln (am Z1)) (ln (am Z1)))).setCell ⟨w.heap.size,2,none⟩ (.slice q41 (ln V1) (ln V1)))
 have fzhR0:=fun o=>hR0.frozen o
 have hP0_:=(((hP0.setCell ⟨w.heap.size,0,none⟩ (.bool (ng Z1))).setCell ⟨w.heap.size,1,none⟩ (.slice p41 (ln (am Z1)) (ln (am Z1)))).setCell ⟨w.heap.size,2,none⟩ (.slice q41 (ln V1) (ln V1)))
 have fzhP0:=fun o=>hP0.frozen o
 have khp41:=(hp41.mid hB hM).seg
 clear hp41
 have khq41:=(hq41.mid hB hM).seg
 clear hq41
 have hBn:=(hB.trans (hBW.mono hB.size)).trans (hM.below (Nat.le_trans hB.size hBW.size))
 have hsM:=hM.size
 clear hM eM
 go_wp2_with fail
 clear q00 q01 q02 r00 r01 r02 hR0 hP0 fzhR0 fzhP0 hB hBW
 generalize (((w41.setCell ⟨w.heap.size,0,none⟩ (.bool (ng Z1))).setCell ⟨w.heap.size,1,none⟩ (.slice p41 (ln (am Z1)) (ln (am Z1)))).setCell ⟨w.heap.size,2,none⟩ (.slice q41 (ln V1) (ln V1)))=w41y at q00_ q01_ q02_ r00_ r01_ r02_ hR0_ hP0_ khp41 khq41 hBn hsM ⊢
 have q00:=q00_
 clear q00_
 have q01:=q01_
 clear q01_
 have q02:=q02_
 clear q02_
 have r00:=r00_
 clear r00_
 have r01:=r01_
 clear r01_
 have r02:=r02_
 clear r02_
 have hR0:=hR0_
 clear hR0_
 have hP0:=hP0_
 clear hP0_
 have hB:=hBn
 clear hBn
 have hBW:Below w41y.heap.size w41y w41y:=Below.refl _ _
 replace hBW:=hBW.drew
 replace khp41:=khp41.drew
 replace khq41:=khq41.drew
 first
  | go_region_held3 (fun w'=>w'.cell? ⟨w.heap.size,0,none⟩=some (.bool (ng Z1))∧w'.cell? ⟨w.heap.size,1,none⟩=some (.slice p41 (ln (am Z1)) (ln (am Z1)))∧w'.cell? ⟨w.heap.size,2,none⟩=some (.slice q41 (ln V1) (ln V1))∧Below w.heap.size w w')
    (first | exact ⟨q00,q01,q02,hB.trans (hBW.mono hB.size)⟩ | exact kp3 b42 (by assumption) | exact kp3 b43 (by assumption) | exact kp3 (below_alloc _) (by assumption) | exact kp3 (below_alloc _) ⟨q00,q01,q02,hB.trans (hBW.mono hB.size)⟩ | exact kpT3_3 (by assumption) (by omega) (by omega) (by omega) (by omega))
    (first
     | (go_at_call 60;refine (positive_is q41 (ln V1) (ln V1) _).mono ?_;rintro e w42 ⟨rfl,b42⟩;replace hBW:=hBW.trans (b42.mono hBW.size);replace q00:=below_cell b42 q00;replace q01:=below_cell b42 q01;replace q02:=below_cell b42 q02;replace r00:=below_cell b42 r00;replace r01:=below_cell b42 r01;replace r02:=below_cell b42 r02;replace hR0:=below_row b42 hR0;replace hP0:=below_row b42 hP0;replace khp41:=khp41.later b42;replace khq41:=khq41.later b42)
     | (go_at_call 74;(fail_if_success clear b43);refine (HO.out _ p41 q41 khq41 khp41).mono ?_;rintro e w43 ⟨p43,q43,rfl,hp43,hq43⟩;have b43:=hp43.below;replace hp43:=hp43.back hBW;replace hq43:=hq43.back hBW;replace hBW:=hBW.trans (b43.mono hBW.size);replace q00:=below_cell b43 q00;replace q01:=below_cell b43 q01;replace q02:=below_cell b43 q02;replace r00:=below_cell b43 r00;replace r01:=below_cell b43 r01;replace r02:=below_cell b43 r02;replace hR0:=below_row b43 hR0;replace hP0:=below_row b43 hP0;replace khp41:=khp41.later b43;replace khq41:=khq41.later b43;have fz:=fun o=>hR0.frozen o))
  | fail
 have fz0:=fun o=>hR0.frozen o
 go_wp2
 all_goals refine bodyPost_ret (v:=.tuple #[Value.agg #[Value.bool (ng Z),Value.slice p43 (ln (am Z)) (ln (am Z)),Value.slice q43 (ln V) (ln V)],.int .i64 0]) (by rw [results_ct rfl];go_simp) rfl ?_
 all_goals exact ⟨p43,q43,rfl,hp43.mid hB (((((Mid.refl _ _ _).set _ _ (by omega) (by omega) _).set _ _ (by omega) (by omega) _).set _ _ (by omega) (by omega) _)),hq43.mid hB (((((Mid.refl _ _ _).set _ _ (by omega) (by omega) _).set _ _ (by omega) (by omega) _).set _ _ (by omega) (by omega) _))⟩
theorem none_is (w:World):Calls Tryz.prog 11 #[.agg #[.bool false,.slice none 0 0,.slice none 0 0]] w fun e w'=>e=.returned (.bool true)∧Below w.heap.size w w':=by
 go_enter Tryz.func11,Tryz.ntmps11
 have hB:Below w.heap.size w (w.alloc (.cells #[.bool false,.slice none 0 0,.slice none 0 0] 27)):=below_alloc _
 go_wp2
 go_ret
 exact ⟨rfl,hB⟩
end Go.Proofs.YtejlnodillnoaaaGreatDoor
