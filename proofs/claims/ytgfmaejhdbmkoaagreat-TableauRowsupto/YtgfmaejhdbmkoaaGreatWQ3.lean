import Derived.Test.YtgfmaejhdbmkoaaGreatWQ2
import Derived.Deep.CutRange
set_option linter.unusedSimpArgs false
namespace Go.Proofs.YtgfmaejhdbmkoaaGreat
open Go.RowKit
set_option linter.unusedVariables false
theorem lt_al {w w1:World} {o:Obj} {n:Nat} (h:n≤w.heap.size) (b:Below (w.alloc o).heap.size (w.alloc o) w1):w.heap.size < (w.alloc o).heap.size:=by rw [World.size_alloc];omega
theorem un_drew {X w1:World} {o:Obj} (b:Below (X.alloc o).drew.heap.size (X.alloc o).drew w1):Below (X.drew.alloc o).heap.size (X.drew.alloc o) w1:=b
theorem size_drew (w:World):w.drew.heap.size=w.heap.size:=rfl
theorem New.seg2 {w1 w3:World} {p:Option Addr} {Z n c:Nat} (h:New w1 w3 p Z n) (hc:c < w1.heap.size) (u v:Value):Seg ((w3.setCell ⟨c,0,none⟩ u).setCell ⟨c,1,none⟩ v) p Z n :=
 (h.fre.mid (((Mid.refl 0 w1.heap.size w3).set c 0 (Nat.zero_le _) hc u).set c 1 (Nat.zero_le _) hc v)).seg
set_option maxHeartbeats 4000000 in
set_option maxRecDepth 100000 in
theorem qsum_is (s0:Bool) (a0:Option Addr) (n0 c0 X0:Nat) (b0:Option Addr) (m0 d0 Y0:Nat) (s1:Bool) (a1:Option Addr) (n1 c1 X1:Nat) (b1:Option Addr) (m1 d1 Y1:Nat) (A0 A1 Z:Int) (V:Nat) (w:World) (hc0:n0≤c0) (hm0:n0≤1099511627776) (hS0:Seg w a0 X0 n0) (hd0:m0≤d0) (hk0:m0≤1099511627776) (hT0:Seg w b0 Y0 m0) (hc1:n1≤c1) (hm1:n1≤1099511627776) (hS1:Seg w a1 X1 n1) (hd1:m1≤d1) (hk1:m1≤1099511627776) (hT1:Seg w b1 Y1 m1) (h0:sg s0 X0=A0) (h1:sg s1 X1=A1) (hL:Low (A0*(Y1:Int)+A1*(Y0:Int)) ((Y0:Int)*(Y1:Int)) Z V) :
  Calls Tryz.prog 117 #[Value.agg #[Value.bool s0,Value.slice a0 n0 c0,Value.bool false,Value.slice b0 m0 d0],Value.agg #[Value.bool s1,Value.slice a1 n1 c1,Value.bool false,Value.slice b1 m1 d1]] w fun e w'=>∃ p q,e=.returned (.agg #[.bool (ng Z),.slice p (ln (am Z)) (ln (am Z)),.slice q (ln V) (ln V)])∧New w w' p (am Z) (ln (am Z))∧New w w' q V (ln V):=by
 obtain ⟨P,hP⟩:∃ P,A0*(Y1:Int)=P:=⟨_,rfl⟩
 obtain ⟨Q,hQ⟩:∃ Q,A1*(Y0:Int)=Q:=⟨_,rfl⟩
 obtain ⟨M,hM⟩:∃ M,P+Q=M:=⟨_,rfl⟩
 obtain ⟨D,hD⟩:∃ D,Y0*Y1=D:=⟨_,rfl⟩
 rw [hP,hQ,hM,←Int.natCast_mul,hD] at hL
 have hp:sg s0 X0*sg false Y1=P:=by rw [h0];exact hP
 have hq:sg s1 X1*sg false Y0=Q:=by rw [h1];exact hQ
 have hd:sg false Y0*sg false Y1=((D:Nat):Int):=by rw [sg_mul,hD];rfl
 have lp:ln (am P)≤70368744176010:=by rw [←hp,am_mul,am_sg,am_sg];have:=ln_prod hS0.1 hT1.1;omega
 have lq:ln (am Q)≤70368744176010:=by rw [←hq,am_mul,am_sg,am_sg];have:=ln_prod hS1.1 hT0.1;omega
 have lM:ln (am M)≤70368744176011:=by
  have h1:am M≤am P+am Q:=by rw [←hM];exact am_add P Q
  have h2:=xZ4 h1
  have h3:=ln_sum (xJ3 (am P)) (xJ3 (am Q)) (k:=70368744176011) (by omega) (by omega)
  omega
 have lD:ln D≤70368744176010:=by rw [←hD];have:=ln_prod hT0.1 hT1.1;omega
 have H1:=xQ1 (fun w' k1 k2=>wMul_is s0 a0 n0 c0 X0 false b1 m1 d1 Y1 P w' hc0 (by omega) k1 hd1 (by omega) k2 hp)
 have H2:=xQ1 (fun w' k1 k2=>wMul_is s1 a1 n1 c1 X1 false b0 m0 d0 Y0 Q w' hc1 (by omega) k1 hd0 (by omega) k2 hq)
 have H3:=xQ1 (fun w' p q k1 k2=>wAdd_is (ng P) p (ln (am P)) (ln (am P)) (am P) (ng Q) q (ln (am Q)) (ln (am Q)) (am Q) M w' (Nat.le_refl _) (by omega) k1 (Nat.le_refl _) (by omega) k2 (by rw [sg_na,sg_na];exact hM))
 have H4':=fun w' k1 k2=>wMul_is false b0 m0 d0 Y0 false b1 m1 d1 Y1 (D:Nat) w' hd0 (by omega) k1 hd1 (by omega) k2 hd
 rw [ng_nat,am_nat] at H4'
 have H4:=xQ1 H4'
 have H5:=xQ1 (fun w' p q k1 k2=>lowest_is (ng M) p (ln (am M)) (ln (am M)) (am M) q (ln D) (ln D) D V Z w' (Nat.le_refl _) (by omega) k1 (Nat.le_refl _) (by omega) k2 (by rw [sg_na];exact hL))
 clear hL hP hQ hM hD hp hq hd h0 h1 H4'
 go_enter Tryz.func117,Tryz.ntmps117
 go_upto_region 1 with fail
 obtain ⟨W,hW⟩:∃ W,(((w.alloc (.cells #[.bool s0,.slice a0 n0 c0,.bool false,.slice b0 m0 d0] 111)).alloc (.cells #[.bool s1,.slice a1 n1 c1,.bool false,.slice b1 m1 d1] 111)).alloc (.cells #[.bool false,.slice none 0 0,.slice none 0 0] 55))=W:=⟨_,rfl⟩
 have q00:W.cell? ⟨w.heap.size,0,none⟩=some (.bool s0):=by subst hW;go_simp
 have q01:W.cell? ⟨w.heap.size,1,none⟩=some (.slice a0 n0 c0):=by subst hW;go_simp
 have q02:W.cell? ⟨w.heap.size,2,none⟩=some (.bool false):=by subst hW;go_simp
 have q03:W.cell? ⟨w.heap.size,3,none⟩=some (.slice b0 m0 d0):=by subst hW;go_simp
 have q10:W.cell? ⟨w.heap.size+1,0,none⟩=some (.bool s1):=by subst hW;go_simp
 have q11:W.cell? ⟨w.heap.size+1,1,none⟩=some (.slice a1 n1 c1):=by subst hW;go_simp
 have q12:W.cell? ⟨w.heap.size+1,2,none⟩=some (.bool false):=by subst hW;go_simp
 have q13:W.cell? ⟨w.heap.size+1,3,none⟩=some (.slice b1 m1 d1):=by subst hW;go_simp
 have r00:W.cell? ⟨w.heap.size+1+1,0,none⟩=some (.bool false):=by subst hW;go_simp
 have r01:W.cell? ⟨w.heap.size+1+1,1,none⟩=some (.slice none 0 0):=by subst hW;go_simp
 have r02:W.cell? ⟨w.heap.size+1+1,2,none⟩=some (.slice none 0 0):=by subst hW;go_simp
 have hB:Below w.heap.size w W:=by subst hW;exact ((((Below.refl _ _).alloc (by (try simp only [World.size_alloc]);omega) _).alloc (by (try simp only [World.size_alloc]);omega) _).alloc (by (try simp only [World.size_alloc]);omega) _)
 have hR0:Row W (w.heap.size+1+1):=by
  have:=xQ9 (((w.alloc (.cells #[.bool s0,.slice a0 n0 c0,.bool false,.slice b0 m0 d0] 111)).alloc (.cells #[.bool s1,.slice a1 n1 c1,.bool false,.slice b1 m1 d1] 111))) #[.bool false,.slice none 0 0,.slice none 0 0] 55
  try simp only [World.size_alloc] at this
  subst hW;exact this
 have hz:W.heap.size=w.heap.size+1+1+1:=by subst hW;simp only [World.size_alloc]
 rw [hW]
 clear hW
 have hBW:Below W.heap.size W W:=Below.refl _ _
 have hz1:=Nat.le_of_eq hz
 have hz2:=Nat.le_of_eq hz.symm
 clear hz
 go_cut [5] from 6 to 16 (fun s5 wx=>∃ c p,s5=.pointer (some ⟨c,0,none⟩)∧W.heap.size≤c∧wx.cell? ⟨c,0,none⟩=some (.bool (ng M))∧wx.cell? ⟨c,1,none⟩=some (.slice p (ln (am M)) (ln (am M)))∧Seg wx p (am M) (ln (am M))∧Below W.heap.size W wx)
 case first =>
  replace hBW:=hBW.drew
  first
   | go_region_held3 (fun w'=>w'.cell? ⟨w.heap.size,0,none⟩=some (.bool s0)∧w'.cell? ⟨w.heap.size,1,none⟩=some (.slice a0 n0 c0)∧w'.cell? ⟨w.heap.size,2,none⟩=some (.bool false)∧w'.cell? ⟨w.heap.size,3,none⟩=some (.slice b0 m0 d0)∧w'.cell? ⟨w.heap.size+1,0,none⟩=some (.bool s1)∧w'.cell? ⟨w.heap.size+1,1,none⟩=some (.slice a1 n1 c1)∧w'.cell? ⟨w.heap.size+1,2,none⟩=some (.bool false)∧w'.cell? ⟨w.heap.size+1,3,none⟩=some (.slice b1 m1 d1)∧Below w.heap.size w w')
     (first | exact ⟨q00,q01,q02,q03,q10,q11,q12,q13,hB.trans (hBW.mono hB.size)⟩ | exact kp8 b11 (by assumption) | exact kp8 b12 (by assumption) | exact kp8 b13 (by assumption) | exact kp8 (xQ2 _) (by assumption) | exact kp8 (xQ2 _) ⟨q00,q01,q02,q03,q10,q11,q12,q13,hB.trans (hBW.mono hB.size)⟩ | exact kpT8_2 (by assumption) (by omega) (by omega) (by omega) (by omega) (by omega) (by omega) (by omega) (by omega) (by omega))
     (first
      | (go_at_call 116;go_at_call_of 116 (Value.agg #[Value.bool s0,Value.slice a0 n0 c0]);go_at_call_of 116 (Value.agg #[Value.bool false,Value.slice b1 m1 d1]);(fail_if_success clear b11);refine Calls.mono (H1.out _ (by first | exact (sb hS0 hB hBW) | exact ((sb hS0 hB hBW)).later (xQ2 _)) (by first | exact (sb hT1 hB hBW) | exact ((sb hT1 hB hBW)).later (xQ2 _))) ?_;rintro e w11 ⟨a11,rfl,h11⟩;have b11:=h11.below;(try replace b11:=un_drew b11);(try ((fail_if_success (have hh:=laR));obtain ⟨la0,la1,laR⟩:=al2 b11;have lage:=hBW.size;have lac:=lt_al (w:=_) (o:=_) (Nat.le_refl _) b11;(try simp only [size_drew] at la0 la1 laR lage lac);replace b11:=below_al b11));(try (have lac:=laR.lt;replace la0:=xQ0 b11 la0;replace la1:=xQ0 b11 la1;replace laR:=xQ3 b11 laR));(try (have laf:=fun o=>laR.frozen o));have k1:=h11.seg;clear h11;replace hBW:=hBW.trans (b11.mono hBW.size);replace q00:=xQ0 b11 q00;replace q01:=xQ0 b11 q01;replace q02:=xQ0 b11 q02;replace q03:=xQ0 b11 q03;replace q10:=xQ0 b11 q10;replace q11:=xQ0 b11 q11;replace q12:=xQ0 b11 q12;replace q13:=xQ0 b11 q13;replace r00:=xQ0 b11 r00;replace r01:=xQ0 b11 r01;replace r02:=xQ0 b11 r02;replace hR0:=xQ3 b11 hR0)
      | (go_at_call 116;go_at_call_of 116 (Value.agg #[Value.bool s1,Value.slice a1 n1 c1]);go_at_call_of 116 (Value.agg #[Value.bool false,Value.slice b0 m0 d0]);(fail_if_success clear b12);refine Calls.mono (H2.out _ (by first | exact (sb hS1 hB hBW) | exact ((sb hS1 hB hBW)).later (xQ2 _)) (by first | exact (sb hT0 hB hBW) | exact ((sb hT0 hB hBW)).later (xQ2 _))) ?_;rintro e w12 ⟨a12,rfl,h12⟩;have b12:=h12.below;(try replace b12:=un_drew b12);(try ((fail_if_success (have hh:=laR));obtain ⟨la0,la1,laR⟩:=al2 b12;have lage:=hBW.size;have lac:=lt_al (w:=_) (o:=_) (Nat.le_refl _) b12;(try simp only [size_drew] at la0 la1 laR lage lac);replace b12:=below_al b12));(try (have lac:=laR.lt;replace la0:=xQ0 b12 la0;replace la1:=xQ0 b12 la1;replace laR:=xQ3 b12 laR));(try (have laf:=fun o=>laR.frozen o));have k2:=h12.seg;clear h12;replace hBW:=hBW.trans (b12.mono hBW.size);replace q00:=xQ0 b12 q00;replace q01:=xQ0 b12 q01;replace q02:=xQ0 b12 q02;replace q03:=xQ0 b12 q03;replace q10:=xQ0 b12 q10;replace q11:=xQ0 b12 q11;replace q12:=xQ0 b12 q12;replace q13:=xQ0 b12 q13;replace r00:=xQ0 b12 r00;replace r01:=xQ0 b12 r01;replace r02:=xQ0 b12 r02;replace hR0:=xQ3 b12 hR0;replace k1:=k1.later b12)
      | (go_at_call 133;(fail_if_success clear b13);refine Calls.mono (H3.out _ a11 a12 (by first | exact k1 | exact (k1).later (xQ2 _)) (by first | exact k2 | exact (k2).later (xQ2 _))) ?_;rintro e w13 ⟨a13,rfl,h13⟩;have b13:=h13.below;(try replace b13:=un_drew b13);(try ((fail_if_success (have hh:=laR));obtain ⟨la0,la1,laR⟩:=al2 b13;have lage:=hBW.size;have lac:=lt_al (w:=_) (o:=_) (Nat.le_refl _) b13;(try simp only [size_drew] at la0 la1 laR lage lac);replace b13:=below_al b13));(try (have lac:=laR.lt;replace la0:=xQ0 b13 la0;replace la1:=xQ0 b13 la1;replace laR:=xQ3 b13 laR));(try (have laf:=fun o=>laR.frozen o));have k3:=h13.seg;replace hBW:=hBW.trans (b13.mono hBW.size);replace q00:=xQ0 b13 q00;replace q01:=xQ0 b13 q01;replace q02:=xQ0 b13 q02;replace q03:=xQ0 b13 q03;replace q10:=xQ0 b13 q10;replace q11:=xQ0 b13 q11;replace q12:=xQ0 b13 q12;replace q13:=xQ0 b13 q13;replace r00:=xQ0 b13 r00;replace r01:=xQ0 b13 r01;replace r02:=xQ0 b13 r02;replace hR0:=xQ3 b13 hR0;replace k1:=k1.later b13;replace k2:=k2.later b13))
   | fail
  all_goals go_wp2_with fail
  all_goals go_meet
  all_goals first
   | exact ⟨_,_,rfl,lage,(set2_same la0 la1).1,(set2_same la0 la1).2,h13.seg2 lac _ _,(hBW.setCell lage _).setCell lage _⟩
   | exact ⟨_,_,rfl,hBW.size,by go_simp,by go_simp,k3.later (xQ2 _),hBW.trans ((xQ2 _).mono hBW.size)⟩
 case rest =>
 clear hBW H1 H2 H3
 obtain ⟨c,p,rfl,hge,lc0,lc1,kM,hBW⟩:=hcut
 replace q00:=xQ0 hBW q00
 replace q01:=xQ0 hBW q01
 replace q02:=xQ0 hBW q02
 replace q03:=xQ0 hBW q03
 replace q10:=xQ0 hBW q10
 replace q11:=xQ0 hBW q11
 replace q12:=xQ0 hBW q12
 replace q13:=xQ0 hBW q13
 replace r00:=xQ0 hBW r00
 replace r01:=xQ0 hBW r01
 replace r02:=xQ0 hBW r02
 replace hR0:=xQ3 hBW hR0
 go_wp2_with fail
 replace hBW:=hBW.drew
 replace kM:=kM.drew
 first
  | go_region_held3 (fun w'=>w'.cell? ⟨w.heap.size,0,none⟩=some (.bool s0)∧w'.cell? ⟨w.heap.size,1,none⟩=some (.slice a0 n0 c0)∧w'.cell? ⟨w.heap.size,2,none⟩=some (.bool false)∧w'.cell? ⟨w.heap.size,3,none⟩=some (.slice b0 m0 d0)∧w'.cell? ⟨w.heap.size+1,0,none⟩=some (.bool s1)∧w'.cell? ⟨w.heap.size+1,1,none⟩=some (.slice a1 n1 c1)∧w'.cell? ⟨w.heap.size+1,2,none⟩=some (.bool false)∧w'.cell? ⟨w.heap.size+1,3,none⟩=some (.slice b1 m1 d1)∧w'.cell? ⟨c,0,none⟩=some (.bool (ng M))∧w'.cell? ⟨c,1,none⟩=some (.slice p (ln (am M)) (ln (am M)))∧Below w.heap.size w w')
    (first | exact ⟨q00,q01,q02,q03,q10,q11,q12,q13,lc0,lc1,hB.trans (hBW.mono hB.size)⟩ | exact kp10 b21 (by assumption) | exact kp10 b22 (by assumption) | exact kp10 (xQ2 _) (by assumption) | exact kp10 (xQ2 _) ⟨q00,q01,q02,q03,q10,q11,q12,q13,lc0,lc1,hB.trans (hBW.mono hB.size)⟩ | exact kpT10_3 (by assumption) (by omega) (by omega) (by omega) (by omega) (by omega) (by omega) (by omega) (by omega) (by omega) (by omega) (by omega))
    (first
     | (go_at_call 116;(fail_if_success clear b21);refine (H4.out _ (sb hT0 hB hBW) (sb hT1 hB hBW)).mono ?_;rintro e w21 ⟨a21,rfl,h4⟩;have b21:=h4.below;replace h4:=h4.back hBW;replace hBW:=hBW.trans (b21.mono hBW.size);replace q00:=xQ0 b21 q00;replace q01:=xQ0 b21 q01;replace q02:=xQ0 b21 q02;replace q03:=xQ0 b21 q03;replace q10:=xQ0 b21 q10;replace q11:=xQ0 b21 q11;replace q12:=xQ0 b21 q12;replace q13:=xQ0 b21 q13;replace r00:=xQ0 b21 r00;replace r01:=xQ0 b21 r01;replace r02:=xQ0 b21 r02;replace lc0:=xQ0 b21 lc0;replace lc1:=xQ0 b21 lc1;replace hR0:=xQ3 b21 hR0;replace kM:=kM.later b21)
     | (go_at_call 75;(fail_if_success clear b22);refine (H5.out _ p a21 kM h4.seg).mono ?_;rintro e w22 ⟨p22,q22,rfl,hp22,hq22⟩;have b22:=hp22.below;replace hp22:=hp22.back hBW;replace hq22:=hq22.back hBW;replace hBW:=hBW.trans (b22.mono hBW.size);replace q00:=xQ0 b22 q00;replace q01:=xQ0 b22 q01;replace q02:=xQ0 b22 q02;replace q03:=xQ0 b22 q03;replace q10:=xQ0 b22 q10;replace q11:=xQ0 b22 q11;replace q12:=xQ0 b22 q12;replace q13:=xQ0 b22 q13;replace r00:=xQ0 b22 r00;replace r01:=xQ0 b22 r01;replace r02:=xQ0 b22 r02;replace lc0:=xQ0 b22 lc0;replace lc1:=xQ0 b22 lc1;replace hR0:=xQ3 b22 hR0;replace kM:=kM.later b22;replace h4:=h4.later b22;have fz:=fun o=>hR0.frozen o))
  | fail
 have fz0:=fun o=>hR0.frozen o
 go_wp2
 all_goals refine bodyPost_ret (v:=Value.agg #[Value.bool (ng Z),Value.slice p22 (ln (am Z)) (ln (am Z)),Value.slice q22 (ln V) (ln V)]) (by rw [xQ5 rfl];go_simp) rfl ?_
 all_goals exact ⟨p22,q22,rfl,hp22.mid hB (((((Mid.refl _ _ _).set _ _ (by omega) (by omega) _).set _ _ (by omega) (by omega) _).set _ _ (by omega) (by omega) _)),hq22.mid hB (((((Mid.refl _ _ _).set _ _ (by omega) (by omega) _).set _ _ (by omega) (by omega) _).set _ _ (by omega) (by omega) _))⟩
end Go.Proofs.YtgfmaejhdbmkoaaGreat
