import Derived.Test.YtfppjaoddicgpaaGreatDoorWQ9
import Derived.Test.YtfppjaoddicgpaaGreatDoorWG3
import Derived.Test.YtfppjaoddicgpaaGreatDoorThr3
import Derived.Laws.OwnMore
import Derived.Test.YtfppjaoddicgpaaGreatDoorWD3
set_option linter.unusedSimpArgs false
namespace Go.Proofs.YtfppjaoddicgpaaGreatDoor
open Go.RowKit
set_option linter.unusedVariables false
theorem low_of2 {N D Z:Int} {V:Nat} (h:Low N D Z V):Low (rn (ng N != ng D) (am N) (am D)) ((rd (am D):Nat):Int) Z V:=by
 have hD:am D≠0:=fun e=>h.ne (am_eq_zero.1 e)
 rw [rn_of hD,rd_of hD]
 refine h.congr (by omega) ?_
 unfold sg ng am
 rcases Int.lt_or_le N 0 with h1 | h1 <;> rcases Int.lt_or_le D 0 with h2 | h2
 ·rw [show decide (N < 0)=true by simpa using h1,show decide (D < 0)=true by simpa using h2]
  simp only [bne_self_eq_false,Bool.false_eq_true,if_false]
  rw [show ((N.natAbs:Nat):Int) = -N by omega,show ((D.natAbs:Nat):Int) = -D by omega];grind
 ·rw [show decide (N < 0)=true by simpa using h1,show decide (D < 0)=false by simpa using h2]
  simp only [show (true != false)=true from rfl,if_true]
  rw [show ((N.natAbs:Nat):Int) = -N by omega,show ((D.natAbs:Nat):Int)=D by omega];grind
 ·rw [show decide (N < 0)=false by simpa using h1,show decide (D < 0)=true by simpa using h2]
  simp only [show (false != true)=true from rfl,if_true]
  rw [show ((N.natAbs:Nat):Int)=N by omega,show ((D.natAbs:Nat):Int) = -D by omega];grind
 ·rw [show decide (N < 0)=false by simpa using h1,show decide (D < 0)=false by simpa using h2]
  simp only [bne_self_eq_false,Bool.false_eq_true,if_false]
  rw [show ((N.natAbs:Nat):Int)=N by omega,show ((D.natAbs:Nat):Int)=D by omega]
set_option maxHeartbeats 2000000 in
set_option maxRecDepth 100000 in
theorem vqOf_is (s:Bool) (ao:Option Addr) (n cap X:Nat) (t:Bool) (ao2:Option Addr) (m cap2 Y V:Nat) (Z:Int) (w:World) (hm:n≤70368744177350) (hS:Seg w ao X n) (hm2:m≤70368744177350) (hS2:Seg w ao2 Y m) (hL:Low (sg s X) (sg t Y) Z V) :
  Calls Tryz.prog 93 #[.agg #[.bool s,.slice ao n cap],.agg #[.bool t,.slice ao2 m cap2]] w fun e w'=>∃ p q,e=.returned (.tuple #[.agg #[.bool (ng Z),.slice p (ln (am Z)) (ln (am Z)),.slice q (ln V) (ln V)],.int .i64 0])∧New w w' p (am Z) (ln (am Z))∧New w w' q V (ln V):=by
 obtain ⟨N,hN⟩:∃ N,sg s X=N:=⟨_,rfl⟩
 obtain ⟨D,hD⟩:∃ D,sg t Y=D:=⟨_,rfl⟩
 rw [hN,hD] at hL
 have lN:ln (am N)≤n:=by rw [←hN,am_sg];exact ln_le_of_lt hS.1
 have lD:ln (am D)≤m:=by rw [←hD,am_sg];exact ln_le_of_lt hS2.1
 have hb:(((ln (am D):Nat):Int) == 0)=false:=by
  rw [beq_eq_false_iff_ne]
  have h1:am D≠0:=fun e=>hL.ne (am_eq_zero.1 e)
  have:=mt ln_eq_zero.1 h1
  omega
 have hL2:Low (rn (!(ng N == ng D)) (am N) (am D)) ((rd (am D):Nat):Int) Z V:=low_of2 hL
 have H1:=hide' (fun w' k=>vNorm_is s ao n cap X N w' (by omega) k hN)
 have H2:=hide' (fun w' k=>vNorm_is t ao2 m cap2 Y D w' (by omega) k hD)
 have H3:=hide' (fun w' p q k1 k2=>vqNorm_is (!(ng N == ng D)) p (ln (am N)) (ln (am N)) (am N) q (ln (am D)) (ln (am D)) (am D) V Z w' (by omega) k1 (by omega) k2 hL2)
 clear hN hD hL hL2
 go_enter Tryz.func93,Tryz.ntmps93
 go_wp2_with fail
 obtain ⟨W,hW⟩:∃ W,(((w.alloc (.cells #[.bool s,.slice ao n cap] 25)).alloc (.cells #[.bool t,.slice ao2 m cap2] 25)).alloc (.cells #[.bool false,.slice none 0 0,.slice none 0 0] 27))=W:=⟨_,rfl⟩
 have q00:W.cell? ⟨w.heap.size,0,none⟩=some (.bool s):=by subst hW;go_simp
 have q01:W.cell? ⟨w.heap.size,1,none⟩=some (.slice ao n cap):=by subst hW;go_simp
 have q10:W.cell? ⟨w.heap.size+1,0,none⟩=some (.bool t):=by subst hW;go_simp
 have q11:W.cell? ⟨w.heap.size+1,1,none⟩=some (.slice ao2 m cap2):=by subst hW;go_simp
 have r00:W.cell? ⟨w.heap.size+1+1,0,none⟩=some (.bool false):=by subst hW;go_simp
 have r01:W.cell? ⟨w.heap.size+1+1,1,none⟩=some (.slice none 0 0):=by subst hW;go_simp
 have r02:W.cell? ⟨w.heap.size+1+1,2,none⟩=some (.slice none 0 0):=by subst hW;go_simp
 have hB:Below w.heap.size w W:=by subst hW;exact ((((Below.refl _ _).alloc (by (try simp only [World.size_alloc]);omega) _).alloc (by (try simp only [World.size_alloc]);omega) _).alloc (by (try simp only [World.size_alloc]);omega) _)
 have hR0:Row W (w.heap.size+1+1):=by
  have:=row_new (((w.alloc (.cells #[.bool s,.slice ao n cap] 25)).alloc (.cells #[.bool t,.slice ao2 m cap2] 25))) #[.bool false,.slice none 0 0,.slice none 0 0] 27
  try simp only [World.size_alloc] at this
  subst hW;exact this
 have hz:W.heap.size=w.heap.size+1+1+1:=by subst hW;simp only [World.size_alloc]
 rw [hW]
 clear hW
 have hBW:Below W.heap.size W W:=Below.refl _ _
 refine (H1.out _ (sb hS hB hBW)).mono ?_
 rintro e w1 ⟨a1,rfl,h1⟩
 have b1:=h1.below
 replace h1:=h1.back hBW
 replace hBW:=hBW.trans (b1.mono hBW.size)
 replace q00:=below_cell b1 q00
 replace q01:=below_cell b1 q01
 replace q10:=below_cell b1 q10
 replace q11:=below_cell b1 q11
 replace r00:=below_cell b1 r00
 replace r01:=below_cell b1 r01
 replace r02:=below_cell b1 r02
 replace hR0:=below_row b1 hR0
 have hsz1:=hBW.size
 have hlt1hR0:=hR0.lt
 have l100:((w1.alloc (.cells #[.bool (ng N),.slice a1 (ln (am N)) (ln (am N))] 25))).cell? ⟨w1.heap.size,0,none⟩=some (.bool (ng N)):=by go_simp
 have l101:((w1.alloc (.cells #[.bool (ng N),.slice a1 (ln (am N)) (ln (am N))] 25))).cell? ⟨w1.heap.size,1,none⟩=some (.slice a1 (ln (am N)) (ln (am N))):=by go_simp
 have cb1:Below w1.heap.size w1 ((w1.alloc (.cells #[.bool (ng N),.slice a1 (ln (am N)) (ln (am N))] 25))):=((Below.refl _ _).alloc (by (try simp only [World.size_alloc]);omega) _)
 replace hBW:=hBW.trans (cb1.mono hBW.size)
 replace q00:=below_cell cb1 q00
 replace q01:=below_cell cb1 q01
 replace q10:=below_cell cb1 q10
 replace q11:=below_cell cb1 q11
 replace r00:=below_cell cb1 r00
 replace r01:=below_cell cb1 r01
 replace r02:=below_cell cb1 r02
 replace hR0:=below_row cb1 hR0
 replace h1:=h1.later cb1
 have hL10:Row ((w1.alloc (.cells #[.bool (ng N),.slice a1 (ln (am N)) (ln (am N))] 25))) (w1.heap.size):=by
  have:=row_new (w1) #[.bool (ng N),.slice a1 (ln (am N)) (ln (am N))] 25
  try simp only [World.size_alloc] at this
  exact this
 go_wp2_with fail
 generalize (w1.alloc (.cells #[.bool (ng N),.slice a1 (ln (am N)) (ln (am N))] 25))=w1x at q00 q01 q10 q11 r00 r01 r02 l100 l101 hR0 hL10 h1 hBW cb1 ⊢
 clear cb1
 refine (H2.out _ (sb hS2 hB hBW)).mono ?_
 rintro e w2 ⟨a2,rfl,h2⟩
 have b2:=h2.below
 replace h2:=h2.back hBW
 replace hBW:=hBW.trans (b2.mono hBW.size)
 replace q00:=below_cell b2 q00
 replace q01:=below_cell b2 q01
 replace q10:=below_cell b2 q10
 replace q11:=below_cell b2 q11
 replace r00:=below_cell b2 r00
 replace r01:=below_cell b2 r01
 replace r02:=below_cell b2 r02
 replace l100:=below_cell b2 l100
 replace l101:=below_cell b2 l101
 replace hR0:=below_row b2 hR0
 replace hL10:=below_row b2 hL10
 replace h1:=h1.later b2
 have hsz2:=hBW.size
 have hlt2hR0:=hR0.lt
 have hlt2hL10:=hL10.lt
 have l200:((w2.alloc (.cells #[.bool (ng D),.slice a2 (ln (am D)) (ln (am D))] 25))).cell? ⟨w2.heap.size,0,none⟩=some (.bool (ng D)):=by go_simp
 have l201:((w2.alloc (.cells #[.bool (ng D),.slice a2 (ln (am D)) (ln (am D))] 25))).cell? ⟨w2.heap.size,1,none⟩=some (.slice a2 (ln (am D)) (ln (am D))):=by go_simp
 have cb2:Below w2.heap.size w2 ((w2.alloc (.cells #[.bool (ng D),.slice a2 (ln (am D)) (ln (am D))] 25))):=((Below.refl _ _).alloc (by (try simp only [World.size_alloc]);omega) _)
 replace hBW:=hBW.trans (cb2.mono hBW.size)
 replace q00:=below_cell cb2 q00
 replace q01:=below_cell cb2 q01
 replace q10:=below_cell cb2 q10
 replace q11:=below_cell cb2 q11
 replace r00:=below_cell cb2 r00
 replace r01:=below_cell cb2 r01
 replace r02:=below_cell cb2 r02
 replace l100:=below_cell cb2 l100
 replace l101:=below_cell cb2 l101
 replace hR0:=below_row cb2 hR0
 replace hL10:=below_row cb2 hL10
 replace h1:=h1.later cb2
 replace h2:=h2.later cb2
 have hL20:Row ((w2.alloc (.cells #[.bool (ng D),.slice a2 (ln (am D)) (ln (am D))] 25))) (w2.heap.size):=by
  have:=row_new (w2) #[.bool (ng D),.slice a2 (ln (am D)) (ln (am D))] 25
  try simp only [World.size_alloc] at this
  exact this
 go_wp2_with fail
 generalize (w2.alloc (.cells #[.bool (ng D),.slice a2 (ln (am D)) (ln (am D))] 25))=w2x at q00 q01 q10 q11 r00 r01 r02 l100 l101 l200 l201 hR0 hL10 hL20 h1 h2 hBW cb2 ⊢
 clear cb2
 refine (H3.out _ a1 a2 h1.seg h2.seg).mono ?_
 rintro e w3 ⟨p3,q3,rfl,hp3,hq3⟩
 have b3:=hp3.below
 replace hp3:=hp3.back hBW
 replace hq3:=hq3.back hBW
 replace hBW:=hBW.trans (b3.mono hBW.size)
 replace q00:=below_cell b3 q00
 replace q01:=below_cell b3 q01
 replace q10:=below_cell b3 q10
 replace q11:=below_cell b3 q11
 replace r00:=below_cell b3 r00
 replace r01:=below_cell b3 r01
 replace r02:=below_cell b3 r02
 replace l100:=below_cell b3 l100
 replace l101:=below_cell b3 l101
 replace l200:=below_cell b3 l200
 replace l201:=below_cell b3 l201
 replace hR0:=below_row b3 hR0
 replace hL10:=below_row b3 hL10
 replace hL20:=below_row b3 hL20
 replace h1:=h1.later b3
 replace h2:=h2.later b3
 have fz0:=fun o=>hR0.frozen o
 go_wp2
 all_goals refine bodyPost_ret (v:=.tuple #[Value.agg #[Value.bool (ng Z),Value.slice p3 (ln (am Z)) (ln (am Z)),Value.slice q3 (ln V) (ln V)],.int .i64 0]) (by rw [results_ct rfl];go_simp) rfl ?_
 all_goals exact ⟨p3,q3,rfl,hp3.mid hB (((((Mid.refl _ _ _).set _ _ (by omega) (by omega) _).set _ _ (by omega) (by omega) _).set _ _ (by omega) (by omega) _)),hq3.mid hB (((((Mid.refl _ _ _).set _ _ (by omega) (by omega) _).set _ _ (by omega) (by omega) _).set _ _ (by omega) (by omega) _))⟩
set_option maxHeartbeats 4000000 in
set_option maxRecDepth 100000 in
theorem vqInv_is (s0:Bool) (a0:Option Addr) (n0 c0 X0:Nat) (b0:Option Addr) (m0 d0 Y0:Nat) (Z:Int) (V:Nat) (w:World) (hc0:n0≤c0) (hm0:n0≤35184372088010) (hS0:Seg w a0 X0 n0) (hd0:m0≤d0) (hk0:m0≤35184372088010) (hT0:Seg w b0 Y0 m0) (hL:Low (rd Y0:Nat) (rn s0 X0 Y0) Z V) :
  Calls Tryz.prog 65 #[Value.agg #[Value.bool s0,Value.slice a0 n0 c0,Value.slice b0 m0 d0]] w fun e w'=>∃ p q,e=.returned (.tuple #[.agg #[.bool (ng Z),.slice p (ln (am Z)) (ln (am Z)),.slice q (ln V) (ln V)],.int .i64 0])∧New w w' p (am Z) (ln (am Z))∧New w w' q V (ln V):=by
 obtain ⟨Z1,V1,h1⟩:=low_ex (rn s0 X0 Y0) (rd Y0:Nat) (rd_ne Y0)
 obtain ⟨lZ,lV⟩:=low_ln hS0.1 hT0.1 h1
 have G1:=hide' h1
 have h2:Low (sg false V1) (sg (ng Z1) (am Z1)) Z V:=by
  rw [sg_na]
  refine hL.congr (fun e=>hL.ne ?_) ?_
  ·have:=h1.eq
   rw [e,Int.zero_mul] at this
   rcases Int.mul_eq_zero.1 this.symm with k | k
   ·exact k
   ·have:=h1.pos;omega
  ·have:=h1.eq
   show ((rd Y0:Nat):Int)*Z1=(V1:Int)*rn s0 X0 Y0
   grind
 have HO:=hide' (fun w' p q k1 k2=>vqOf_is false q (ln V1) (ln V1) V1 (ng Z1) p (ln (am Z1)) (ln (am Z1)) (am Z1) V Z w' (by omega) k1 (by omega) k2 h2)
 clear hL h1 h2
 go_enter Tryz.func65,Tryz.ntmps65
 go_wp2_with fail
 obtain ⟨W,hW⟩:∃ W,((w.alloc (.cells #[.bool s0,.slice a0 n0 c0,.slice b0 m0 d0] 27)).alloc (.cells #[.bool false,.slice none 0 0,.slice none 0 0] 27))=W:=⟨_,rfl⟩
 have q00:W.cell? ⟨w.heap.size,0,none⟩=some (.bool s0):=by subst hW;go_simp
 have q01:W.cell? ⟨w.heap.size,1,none⟩=some (.slice a0 n0 c0):=by subst hW;go_simp
 have q02:W.cell? ⟨w.heap.size,2,none⟩=some (.slice b0 m0 d0):=by subst hW;go_simp
 have r00:W.cell? ⟨w.heap.size+1,0,none⟩=some (.bool false):=by subst hW;go_simp
 have r01:W.cell? ⟨w.heap.size+1,1,none⟩=some (.slice none 0 0):=by subst hW;go_simp
 have r02:W.cell? ⟨w.heap.size+1,2,none⟩=some (.slice none 0 0):=by subst hW;go_simp
 have hB:Below w.heap.size w W:=by subst hW;exact (((Below.refl _ _).alloc (by (try simp only [World.size_alloc]);omega) _).alloc (by (try simp only [World.size_alloc]);omega) _)
 have hR0:Row W (w.heap.size+1):=by
  have:=row_new ((w.alloc (.cells #[.bool s0,.slice a0 n0 c0,.slice b0 m0 d0] 27))) #[.bool false,.slice none 0 0,.slice none 0 0] 27
  try simp only [World.size_alloc] at this
  subst hW;exact this
 have hP0:Row W (w.heap.size):=by
  have:=row_new (w) #[.bool s0,.slice a0 n0 c0,.slice b0 m0 d0] 27
  try simp only [World.size_alloc] at this
  subst hW;exact (this.alloc _)
 have hz:W.heap.size=w.heap.size+1+1:=by subst hW;simp only [World.size_alloc]
 rw [hW]
 clear hW
 have hBW:Below W.heap.size W W:=Below.refl _ _
 refine (vqNorm_is s0 a0 n0 c0 X0 b0 m0 d0 Y0 V1 Z1 _ (by omega) (sb hS0 hB hBW) (by omega) (sb hT0 hB hBW) G1.out).mono ?_
 rintro e w41 ⟨p41,q41,rfl,hp41,hq41⟩
 have b41:=hp41.below
 replace hp41:=hp41.back hBW
 replace hq41:=hq41.back hBW
 replace hBW:=hBW.trans (b41.mono hBW.size)
 replace q00:=below_cell b41 q00
 replace q01:=below_cell b41 q01
 replace q02:=below_cell b41 q02
 replace r00:=below_cell b41 r00
 replace r01:=below_cell b41 r01
 replace r02:=below_cell b41 r02
 replace hR0:=below_row b41 hR0
 replace hP0:=below_row b41 hP0
 have hsB:=hBW.size
 have hM:Mid w.heap.size W.heap.size w41 (((w41.setCell ⟨w.heap.size,0,none⟩ (.bool (ng Z1))).setCell ⟨w.heap.size,1,none⟩ (.slice p41 (ln (am Z1)) (ln (am Z1)))).setCell ⟨w.heap.size,2,none⟩ (.slice q41 (ln V1) (ln V1))):=((((Mid.refl _ _ _).set _ _ (by omega) (by omega) _).set _ _ (by omega) (by omega) _).set _ _ (by omega) (by omega) _)
 have eM:=set3_same (w:=w41) (c:=w.heap.size) (u0:=.bool (ng Z1)) (u1:=.slice p41 (ln (am Z1)) (ln (am Z1))) (u2:=.slice q41 (ln V1) (ln V1)) q00 q01 q02
 have q00_:((((w41.setCell ⟨w.heap.size,0,none⟩ (.bool (ng Z1))).setCell ⟨w.heap.size,1,none⟩ (.slice p41 (ln (am Z1)) (ln (am Z1)))).setCell ⟨w.heap.size,2,none⟩ (.slice q41 (ln V1) (ln V1)))).cell? ⟨w.heap.size,0,none⟩=some (.bool (ng Z1)):=eM.1
 have q01_:((((w41.setCell ⟨w.heap.size,0,none⟩ (.bool (ng Z1))).setCell ⟨w.heap.size,1,none⟩ (.slice p41 (ln (am Z1)) (ln (am Z1)))).setCell ⟨w.heap.size,2,none⟩ (.slice q41 (ln V1) (ln V1)))).cell? ⟨w.heap.size,1,none⟩=some (.slice p41 (ln (am Z1)) (ln (am Z1))):=eM.2.1
 have q02_:((((w41.setCell ⟨w.heap.size,0,none⟩ (.bool (ng Z1))).setCell ⟨w.heap.size,1,none⟩ (.slice p41 (ln (am Z1)) (ln (am Z1)))).setCell ⟨w.heap.size,2,none⟩ (.slice q41 (ln V1) (ln V1)))).cell? ⟨w.heap.size,2,none⟩=some (.slice q41 (ln V1) (ln V1)):=eM.2.2
 have r00_:((((w41.setCell ⟨w.heap.size,0,none⟩ (.bool (ng Z1))).setCell ⟨w.heap.size,1,none⟩ (.slice p41 (ln (am Z1)) (ln (am Z1)))).setCell ⟨w.heap.size,2,none⟩ (.slice q41 (ln V1) (ln V1)))).cell? ⟨w.heap.size+1,0,none⟩=some (.bool false):=(set3_far (by omega)).trans r00
 have r01_:((((w41.setCell ⟨w.heap.size,0,none⟩ (.bool (ng Z1))).setCell ⟨w.heap.size,1,none⟩ (.slice p41 (ln (am Z1)) (ln (am Z1)))).setCell ⟨w.heap.size,2,none⟩ (.slice q41 (ln V1) (ln V1)))).cell? ⟨w.heap.size+1,1,none⟩=some (.slice none 0 0):=(set3_far (by omega)).trans r01
 have r02_:((((w41.setCell ⟨w.heap.size,0,none⟩ (.bool (ng Z1))).setCell ⟨w.heap.size,1,none⟩ (.slice p41 (ln (am Z1)) (ln (am Z1)))).setCell ⟨w.heap.size,2,none⟩ (.slice q41 (ln V1) (ln V1)))).cell? ⟨w.heap.size+1,2,none⟩=some (.slice none 0 0):=(set3_far (by omega)).trans r02
 have hR0_:=(((hR0.setCell ⟨w.heap.size,0,none⟩ (.bool (ng Z1))).setCell ⟨w.heap.size,1,none⟩ (.slice p41 (ln (am Z1)) (ln (am Z1)))).setCell ⟨w.heap.size,2,none⟩ (.slice q41 (ln V1) (ln V1)))
 have fzhR0:=fun o=>hR0.frozen o
 have hP0_:=(((hP0.setCell ⟨w.heap.size,0,none⟩ (.bool (ng Z1))).setCell ⟨w.heap.size,1,none⟩ (.slice p41 (ln (am Z1)) (ln (am Z1)))).setCell ⟨w.heap.size,2,none⟩ (.slice q41 (ln V1) (ln V1)))
 have fzhP0:=fun o=>hP0.frozen o
 have khp41:=(hp41.mid hB hM).seg
 clear hp41
 have khq41:=(hq41.mid hB hM).seg
 clear hq41
 have hBn:=(hB.trans (hBW.mono hB.size)).trans (hM.below (Nat.le_trans hB.size hBW.size))
 have hsM:=hM.size
 clear hM eM
 go_wp2_with fail
 clear q00 q01 q02 r00 r01 r02 hR0 hP0 fzhR0 fzhP0 hB hBW
 generalize (((w41.setCell ⟨w.heap.size,0,none⟩ (.bool (ng Z1))).setCell ⟨w.heap.size,1,none⟩ (.slice p41 (ln (am Z1)) (ln (am Z1)))).setCell ⟨w.heap.size,2,none⟩ (.slice q41 (ln V1) (ln V1)))=w41y at q00_ q01_ q02_ r00_ r01_ r02_ hR0_ hP0_ khp41 khq41 hBn hsM ⊢
 have q00:=q00_
 clear q00_
 have q01:=q01_
 clear q01_
 have q02:=q02_
 clear q02_
 have r00:=r00_
 clear r00_
 have r01:=r01_
 clear r01_
 have r02:=r02_
 clear r02_
 have hR0:=hR0_
 clear hR0_
 have hP0:=hP0_
 clear hP0_
 have hB:=hBn
 clear hBn
 have hBW:Below w41y.heap.size w41y w41y:=Below.refl _ _
 replace hBW:=hBW.drew
 replace khp41:=khp41.drew
 replace khq41:=khq41.drew
 first
  | go_region_held3 (fun w'=>w'.cell? ⟨w.heap.size,0,none⟩=some (.bool (ng Z1))∧w'.cell? ⟨w.heap.size,1,none⟩=some (.slice p41 (ln (am Z1)) (ln (am Z1)))∧w'.cell? ⟨w.heap.size,2,none⟩=some (.slice q41 (ln V1) (ln V1))∧Below w.heap.size w w')
    (first | exact ⟨q00,q01,q02,hB.trans (hBW.mono hB.size)⟩ | exact kp3 b42 (by assumption) | exact kp3 b43 (by assumption) | exact kp3 (below_alloc _) (by assumption) | exact kp3 (below_alloc _) ⟨q00,q01,q02,hB.trans (hBW.mono hB.size)⟩ | exact kpT3_3 (by assumption) (by omega) (by omega) (by omega) (by omega))
    (first
     | (go_at_call 73;refine (positive_is q41 (ln V1) (ln V1) _).mono ?_;rintro e w42 ⟨rfl,b42⟩;replace hBW:=hBW.trans (b42.mono hBW.size);replace q00:=below_cell b42 q00;replace q01:=below_cell b42 q01;replace q02:=below_cell b42 q02;replace r00:=below_cell b42 r00;replace r01:=below_cell b42 r01;replace r02:=below_cell b42 r02;replace hR0:=below_row b42 hR0;replace hP0:=below_row b42 hP0;replace khp41:=khp41.later b42;replace khq41:=khq41.later b42)
     | (go_at_call 93;(fail_if_success clear b43);refine (HO.out _ p41 q41 khq41 khp41).mono ?_;rintro e w43 ⟨p43,q43,rfl,hp43,hq43⟩;have b43:=hp43.below;replace hp43:=hp43.back hBW;replace hq43:=hq43.back hBW;replace hBW:=hBW.trans (b43.mono hBW.size);replace q00:=below_cell b43 q00;replace q01:=below_cell b43 q01;replace q02:=below_cell b43 q02;replace r00:=below_cell b43 r00;replace r01:=below_cell b43 r01;replace r02:=below_cell b43 r02;replace hR0:=below_row b43 hR0;replace hP0:=below_row b43 hP0;replace khp41:=khp41.later b43;replace khq41:=khq41.later b43;have fz:=fun o=>hR0.frozen o))
  | fail
 have fz0:=fun o=>hR0.frozen o
 go_wp2
 all_goals refine bodyPost_ret (v:=.tuple #[Value.agg #[Value.bool (ng Z),Value.slice p43 (ln (am Z)) (ln (am Z)),Value.slice q43 (ln V) (ln V)],.int .i64 0]) (by rw [results_ct rfl];go_simp) rfl ?_
 all_goals exact ⟨p43,q43,rfl,hp43.mid hB (((((Mid.refl _ _ _).set _ _ (by omega) (by omega) _).set _ _ (by omega) (by omega) _).set _ _ (by omega) (by omega) _)),hq43.mid hB (((((Mid.refl _ _ _).set _ _ (by omega) (by omega) _).set _ _ (by omega) (by omega) _).set _ _ (by omega) (by omega) _))⟩
set_option maxHeartbeats 4000000 in
set_option maxRecDepth 100000 in
theorem vqDiv_is (s0:Bool) (a0:Option Addr) (n0 c0 X0:Nat) (b0:Option Addr) (m0 d0 Y0:Nat) (s1:Bool) (a1:Option Addr) (n1 c1 X1:Nat) (b1:Option Addr) (m1 d1 Y1:Nat) (Z:Int) (V:Nat) (w:World) (hc0:n0≤c0) (hm0:n0≤35184372088000) (hS0:Seg w a0 X0 n0) (hd0:m0≤d0) (hk0:m0≤35184372088000) (hT0:Seg w b0 Y0 m0) (hc1:n1≤c1) (hm1:n1≤35184372088000) (hS1:Seg w a1 X1 n1) (hd1:m1≤d1) (hk1:m1≤35184372088000) (hT1:Seg w b1 Y1 m1) (hL:Low (rn s0 X0 Y0*(rd Y1:Nat)) ((rd Y0:Nat)*rn s1 X1 Y1) Z V) :
  Calls Tryz.prog 41 #[Value.agg #[Value.bool s0,Value.slice a0 n0 c0,Value.slice b0 m0 d0],Value.agg #[Value.bool s1,Value.slice a1 n1 c1,Value.slice b1 m1 d1]] w fun e w'=>∃ p q,e=.returned (.tuple #[.agg #[.bool (ng Z),.slice p (ln (am Z)) (ln (am Z)),.slice q (ln V) (ln V)],.int .i64 0])∧New w w' p (am Z) (ln (am Z))∧New w w' q V (ln V):=by
 have hne:rn s1 X1 Y1≠0:=fun e=>hL.ne (by rw [e,Int.mul_zero])
 obtain ⟨Z1,V1,h1⟩:=low_ex ((rd Y1:Nat):Int) (rn s1 X1 Y1) hne
 have hl:=h1.le
 rw [am_nat] at hl
 have lZ:ln (am Z1)≤m1+1:=ln_le_of_lt (Nat.lt_of_le_of_lt hl.1 (rd_lt hT1.1))
 have lV:ln V1≤n1:=ln_le_of_lt (Nat.lt_of_le_of_lt (Nat.le_trans hl.2 (rn_am s1 X1 Y1)) hS1.1)
 have h2:Low (rn s0 X0 Y0*rn (ng Z1) (am Z1) V1) (((rd Y0:Nat):Int)*((rd V1:Nat):Int)) Z V:=by
  rw [rn_nf h1.pos,rd_nf h1.pos]
  have e1:=h1.eq
  have p1:=h1.pos
  refine hL.congr (Int.mul_ne_zero (rd_ne Y0) (by omega)) ?_
  grind
 have G1:=hide' h1
 have G2:=hide' h2
 clear hL h1 h2 hl hne
 go_enter Tryz.func41,Tryz.ntmps41
 go_wp2_with fail
 obtain ⟨W,hW⟩:∃ W,(((w.alloc (.cells #[.bool s0,.slice a0 n0 c0,.slice b0 m0 d0] 27)).alloc (.cells #[.bool s1,.slice a1 n1 c1,.slice b1 m1 d1] 27)).alloc (.cells #[.bool false,.slice none 0 0,.slice none 0 0] 27))=W:=⟨_,rfl⟩
 have q00:W.cell? ⟨w.heap.size,0,none⟩=some (.bool s0):=by subst hW;go_simp
 have q01:W.cell? ⟨w.heap.size,1,none⟩=some (.slice a0 n0 c0):=by subst hW;go_simp
 have q02:W.cell? ⟨w.heap.size,2,none⟩=some (.slice b0 m0 d0):=by subst hW;go_simp
 have q10:W.cell? ⟨w.heap.size+1,0,none⟩=some (.bool s1):=by subst hW;go_simp
 have q11:W.cell? ⟨w.heap.size+1,1,none⟩=some (.slice a1 n1 c1):=by subst hW;go_simp
 have q12:W.cell? ⟨w.heap.size+1,2,none⟩=some (.slice b1 m1 d1):=by subst hW;go_simp
 have r00:W.cell? ⟨w.heap.size+1+1,0,none⟩=some (.bool false):=by subst hW;go_simp
 have r01:W.cell? ⟨w.heap.size+1+1,1,none⟩=some (.slice none 0 0):=by subst hW;go_simp
 have r02:W.cell? ⟨w.heap.size+1+1,2,none⟩=some (.slice none 0 0):=by subst hW;go_simp
 have hB:Below w.heap.size w W:=by subst hW;exact ((((Below.refl _ _).alloc (by (try simp only [World.size_alloc]);omega) _).alloc (by (try simp only [World.size_alloc]);omega) _).alloc (by (try simp only [World.size_alloc]);omega) _)
 have hR0:Row W (w.heap.size+1+1):=by
  have:=row_new (((w.alloc (.cells #[.bool s0,.slice a0 n0 c0,.slice b0 m0 d0] 27)).alloc (.cells #[.bool s1,.slice a1 n1 c1,.slice b1 m1 d1] 27))) #[.bool false,.slice none 0 0,.slice none 0 0] 27
  try simp only [World.size_alloc] at this
  subst hW;exact this
 have hz:W.heap.size=w.heap.size+1+1+1:=by subst hW;simp only [World.size_alloc]
 rw [hW]
 clear hW
 have hBW:Below W.heap.size W W:=Below.refl _ _
 refine (vqInv_is s1 a1 n1 c1 X1 b1 m1 d1 Y1 Z1 V1 _ hc1 (by omega) (sb hS1 hB hBW) hd1 (by omega) (sb hT1 hB hBW) G1.out).mono ?_
 rintro e w41 ⟨p41,q41,rfl,hp41,hq41⟩
 have b41:=hp41.below
 replace hp41:=hp41.back hBW
 replace hq41:=hq41.back hBW
 replace hBW:=hBW.trans (b41.mono hBW.size)
 replace q00:=below_cell b41 q00
 replace q01:=below_cell b41 q01
 replace q02:=below_cell b41 q02
 replace q10:=below_cell b41 q10
 replace q11:=below_cell b41 q11
 replace q12:=below_cell b41 q12
 replace r00:=below_cell b41 r00
 replace r01:=below_cell b41 r01
 replace r02:=below_cell b41 r02
 replace hR0:=below_row b41 hR0
 have hsz41:=hBW.size
 have hlt41hR0:=hR0.lt
 have l4100:((w41.alloc (.cells #[.bool (ng Z1),.slice p41 (ln (am Z1)) (ln (am Z1)),.slice q41 (ln V1) (ln V1)] 27))).cell? ⟨w41.heap.size,0,none⟩=some (.bool (ng Z1)):=by go_simp
 have l4101:((w41.alloc (.cells #[.bool (ng Z1),.slice p41 (ln (am Z1)) (ln (am Z1)),.slice q41 (ln V1) (ln V1)] 27))).cell? ⟨w41.heap.size,1,none⟩=some (.slice p41 (ln (am Z1)) (ln (am Z1))):=by go_simp
 have l4102:((w41.alloc (.cells #[.bool (ng Z1),.slice p41 (ln (am Z1)) (ln (am Z1)),.slice q41 (ln V1) (ln V1)] 27))).cell? ⟨w41.heap.size,2,none⟩=some (.slice q41 (ln V1) (ln V1)):=by go_simp
 have cb41:Below w41.heap.size w41 ((w41.alloc (.cells #[.bool (ng Z1),.slice p41 (ln (am Z1)) (ln (am Z1)),.slice q41 (ln V1) (ln V1)] 27))):=((Below.refl _ _).alloc (by (try simp only [World.size_alloc]);omega) _)
 replace hBW:=hBW.trans (cb41.mono hBW.size)
 replace q00:=below_cell cb41 q00
 replace q01:=below_cell cb41 q01
 replace q02:=below_cell cb41 q02
 replace q10:=below_cell cb41 q10
 replace q11:=below_cell cb41 q11
 replace q12:=below_cell cb41 q12
 replace r00:=below_cell cb41 r00
 replace r01:=below_cell cb41 r01
 replace r02:=below_cell cb41 r02
 replace hR0:=below_row cb41 hR0
 replace hp41:=hp41.later cb41
 replace hq41:=hq41.later cb41
 have hL410:Row ((w41.alloc (.cells #[.bool (ng Z1),.slice p41 (ln (am Z1)) (ln (am Z1)),.slice q41 (ln V1) (ln V1)] 27))) (w41.heap.size):=by
  have:=row_new (w41) #[.bool (ng Z1),.slice p41 (ln (am Z1)) (ln (am Z1)),.slice q41 (ln V1) (ln V1)] 27
  try simp only [World.size_alloc] at this
  exact this
 go_wp2_with fail
 generalize (w41.alloc (.cells #[.bool (ng Z1),.slice p41 (ln (am Z1)) (ln (am Z1)),.slice q41 (ln V1) (ln V1)] 27))=w41x at q00 q01 q02 q10 q11 q12 r00 r01 r02 l4100 l4101 l4102 hR0 hL410 hp41 hq41 hBW cb41 ⊢
 clear cb41
 refine (vqMul_is s0 a0 n0 c0 X0 b0 m0 d0 Y0 (ng Z1) p41 (ln (am Z1)) (ln (am Z1)) (am Z1) q41 (ln V1) (ln V1) V1 Z V _ hc0 (by omega) (sb hS0 hB hBW) hd0 (by omega) (sb hT0 hB hBW) (Nat.le_refl _) (by omega) hp41.seg (Nat.le_refl _) (by omega) hq41.seg G2.out).mono ?_
 rintro e w42 ⟨p42,q42,rfl,hp42,hq42⟩
 have b42:=hp42.below
 replace hp42:=hp42.back hBW
 replace hq42:=hq42.back hBW
 replace hBW:=hBW.trans (b42.mono hBW.size)
 replace q00:=below_cell b42 q00
 replace q01:=below_cell b42 q01
 replace q02:=below_cell b42 q02
 replace q10:=below_cell b42 q10
 replace q11:=below_cell b42 q11
 replace q12:=below_cell b42 q12
 replace r00:=below_cell b42 r00
 replace r01:=below_cell b42 r01
 replace r02:=below_cell b42 r02
 replace l4100:=below_cell b42 l4100
 replace l4101:=below_cell b42 l4101
 replace l4102:=below_cell b42 l4102
 replace hR0:=below_row b42 hR0
 replace hL410:=below_row b42 hL410
 replace hp41:=hp41.later b42
 replace hq41:=hq41.later b42
 have fz0:=fun o=>hR0.frozen o
 go_wp2
 all_goals refine bodyPost_ret (v:=.tuple #[Value.agg #[Value.bool (ng Z),Value.slice p42 (ln (am Z)) (ln (am Z)),Value.slice q42 (ln V) (ln V)],.int .i64 0]) (by rw [results_ct rfl];go_simp) rfl ?_
 all_goals exact ⟨p42,q42,rfl,hp42.mid hB (((((Mid.refl _ _ _).set _ _ (by omega) (by omega) _).set _ _ (by omega) (by omega) _).set _ _ (by omega) (by omega) _)),hq42.mid hB (((((Mid.refl _ _ _).set _ _ (by omega) (by omega) _).set _ _ (by omega) (by omega) _).set _ _ (by omega) (by omega) _))⟩
theorem vsubQ (A B:RatV) (S:Rat) (w:World) (hA:A.ok w) (hB:B.ok w) (hn:A.n≤100000000∧A.m≤100000000∧B.n≤100000000∧B.m≤100000000) (hS:A.val - B.val=S) (hz:sz 100000000 S):Calls Tryz.prog 39 #[.agg #[.bool A.s,.slice A.a A.n A.c,.slice A.b A.m A.e],.agg #[.bool B.s,.slice B.a B.n B.c,.slice B.b B.m B.e]] w (QA w S):=by
 subst hS
 refine (vqSub_is A.s A.a A.n A.c A.X A.b A.m A.e A.Y B.s B.a B.n B.c B.X B.b B.m B.e B.Y _ _ w hA.2.1 (by omega) hA.1 hA.2.2.2.2.1 (by omega) hA.2.2.2.1 hB.2.1 (by omega) hB.1 hB.2.2.2.2.1 (by omega) hB.2.2.2.1 (low_subY A B)).mono ?_
 rintro e w1 ⟨p,q,rfl,n1,n2⟩
 exact ⟨p,q,rfl,n1.below,ok_nR hz n1 n2⟩
theorem vdivQ (A B:RatV) (S:Rat) (w:World) (hA:A.ok w) (hB:B.ok w) (hn:A.n≤100000000∧A.m≤100000000∧B.n≤100000000∧B.m≤100000000) (h0:B.val≠0) (hS:A.val / B.val=S) (hz:sz 100000000 S):Calls Tryz.prog 41 #[.agg #[.bool A.s,.slice A.a A.n A.c,.slice A.b A.m A.e],.agg #[.bool B.s,.slice B.a B.n B.c,.slice B.b B.m B.e]] w fun e w1=>∃ p q,e=.returned (.tuple #[.agg #[.bool (ng S.num),.slice p (ln (am S.num)) (ln (am S.num)),.slice q (ln S.den) (ln S.den)],.int .i64 0])∧Below w.heap.size w w1∧(nR S p q).ok w1:=by
 subst hS
 refine (vqDiv_is A.s A.a A.n A.c A.X A.b A.m A.e A.Y B.s B.a B.n B.c B.X B.b B.m B.e B.Y _ _ w hA.2.1 (by omega) hA.1 hA.2.2.2.2.1 (by omega) hA.2.2.2.1 hB.2.1 (by omega) hB.1 hB.2.2.2.2.1 (by omega) hB.2.2.2.1 (low_divY A B h0)).mono ?_
 rintro e w1 ⟨p,q,rfl,n1,n2⟩
 exact ⟨p,q,rfl,n1.below,ok_nR hz n1 n2⟩
theorem vcmpQ (A B:RatV) (w:World) (hA:A.ok w) (hB:B.ok w) (hn:A.n≤100000000∧A.m≤100000000∧B.n≤100000000∧B.m≤100000000) (C:Int) (hS:sR (A.val - B.val)=C):Calls Tryz.prog 42 #[.agg #[.bool A.s,.slice A.a A.n A.c,.slice A.b A.m A.e],.agg #[.bool B.s,.slice B.a B.n B.c,.slice B.b B.m B.e]] w fun e w1=>e=.returned (.int .i64 C)∧Below w.heap.size w w1 :=
 vqCmp_is A.s A.a A.n A.c A.X A.b A.m A.e A.Y B.s B.a B.n B.c B.X B.b B.m B.e B.Y C w hA.2.1 (by omega) hA.1 hA.2.2.2.2.1 (by omega) hA.2.2.2.1 hB.2.1 (by omega) hB.1 hB.2.2.2.2.1 (by omega) hB.2.2.2.1 ((sR_sub A B).trans hS)
theorem vsignQ (A:RatV) (w:World) (hA:A.ok w) (C:Int) (hS:sR A.val=C):Calls Tryz.prog 40 #[.agg #[.bool A.s,.slice A.a A.n A.c,.slice A.b A.m A.e]] w fun e w1=>e=.returned (.int .i64 C)∧Below w.heap.size w w1 :=
 have h1:=hA.2.2.1
 have h2:=hA.2.2.2.2.2
 vqSign_is A.s A.a A.n A.c A.X A.b A.m A.e A.Y C w hA.2.1 (by omega) hA.1 hA.2.2.2.2.1 (by omega) hA.2.2.2.1 ((sR_val A).trans hS)
theorem vwholeQ1 (w:World):Calls Tryz.prog 33 #[.int .i64 1] w (QA w 1):=by
 refine (vqWhole_is 1 w (by omega) (by omega)).mono ?_
 rintro e w1 ⟨p,q,rfl,n1,n2⟩
 exact ⟨p,q,rfl,n1.below,ok_nR (one_sz.mono (by omega)) n1 n2⟩
def cellsM (w:World) (c o:Nat) (zs:List Value):Prop:=∀ i z,zs[i]?=some z→w.cell? ⟨c,o+i,none⟩=some z
theorem set_farM {w:World} {c k b q:Nat} {u x:Value} (h:w.cell? ⟨b,q,none⟩=some x) (hne:c=b→k≠q):(w.setCell ⟨c,k,none⟩ u).cell? ⟨b,q,none⟩=some x:=by
 rw [World.cell?_setCell_other _ _ _ _ (fun e=>by simp only [Addr.mk.injEq,and_true] at e;exact hne e.1 e.2)]
 exact h
theorem cellsM.tail {w:World} {c o:Nat} {z:Value} {zs:List Value} (h:cellsM w c o (z :: zs)):cellsM w c (o+1) zs:=fun i y hy=>by
 have:=h (i+1) y (by simpa using hy)
 rwa [show o+(i+1)=o+1+i by omega] at this
theorem cellsM.head {w:World} {c o:Nat} {z:Value} {zs:List Value} (h:cellsM w c o (z :: zs)):w.cell? ⟨c,o,none⟩=some z:=h 0 z rfl
theorem cellsM.set {w:World} {c o k:Nat} {u:Value} {zs:List Value} (h:cellsM w c o zs) (hk:k < o):cellsM (w.setCell ⟨c,k,none⟩ u) c o zs:=fun i z hz=>set_farM (h i z hz) (fun _=>by omega)
def GapV.cells (g:GapV):List Value:=[.bool g.lo.a.s,.slice g.lo.a.a g.lo.a.n g.lo.a.c,.slice g.lo.a.b g.lo.a.m g.lo.a.e,.bool g.lo.b.s,.slice g.lo.b.a g.lo.b.n g.lo.b.c,.slice g.lo.b.b g.lo.b.m g.lo.b.e,.bool g.hi.a.s,.slice g.hi.a.a g.hi.a.n g.hi.a.c,.slice g.hi.a.b g.hi.a.m g.hi.a.e,.bool g.hi.b.s,.slice g.hi.b.a g.hi.b.n g.hi.b.c,.slice g.hi.b.b g.hi.b.m g.hi.b.e]
def GapsO (w:World) (gb n j:Nat) (k' k:Nat→GapV):Prop:=GapsAt w (some ⟨gb,0,none⟩) n k'∧∀ i,i < j→(k' i).ok w∧(k' i).tiny∧(k' i).val=(k i).val
theorem GapsO.later {w w':World} {gb n j:Nat} {k' k:Nat→GapV} (h:GapsO w gb n j k' k) (hb:Below w.heap.size w w'):GapsO w' gb n j k' k:=⟨h.1.later hb,fun i hi=>⟨(h.2 i hi).1.on hb,(h.2 i hi).2⟩⟩
theorem sR_pos {r:Rat}:(sR r≤0↔¬ 0 < r):=by
 rcases sR_cases r with ⟨h1,e⟩ | ⟨h1,e⟩ | ⟨h1,e⟩ <;> rw [e]
 ·exact ⟨fun _=>by grind,fun _=>by omega⟩
 ·exact ⟨fun _=>by grind,fun _=>by omega⟩
 ·exact ⟨fun k=>absurd k (by omega),fun k=>absurd h1 k⟩
end Go.Proofs.YtfppjaoddicgpaaGreatDoor
