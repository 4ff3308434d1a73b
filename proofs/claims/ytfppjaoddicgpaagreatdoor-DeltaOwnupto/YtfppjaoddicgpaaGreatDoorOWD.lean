import Derived.Test.YtfppjaoddicgpaaGreatDoorOWL
import Derived.Test.YtfppjaoddicgpaaGreatDoorWD3
set_option linter.unusedSimpArgs false
namespace Go.Proofs.YtfppjaoddicgpaaGreatDoor
open Go.RowKit
set_option linter.unusedVariables false
theorem Ap.symm {a b:Option Addr} {n m:Nat} (h:Ap a n b m):Ap b m a n:=fun h1 h2 x i y j e1 e2 e=>h h2 h1 y j x i e2 e1 e.symm
def Four (p:Option Addr) (n:Nat) (q:Option Addr) (m:Nat) (r:Option Addr) (k:Nat) (t:Option Addr) (l:Nat):Prop:=Ap p n q m∧Ap r k t l∧Ap p n r k∧Ap p n t l∧Ap q m r k∧Ap q m t l
set_option maxHeartbeats 2000000 in
set_option maxRecDepth 100000 in
theorem qNeg_ap (s0:Bool) (a0:Option Addr) (n0 c0 X0:Nat) (b0:Option Addr) (m0 d0 Y0:Nat) (Z:Int) (V:Nat) (w:World) (hc0:n0≤c0) (hm0:n0≤35184372088000) (hS0:Seg w a0 X0 n0) (hd0:m0≤d0) (hk0:m0≤35184372088000) (hT0:Seg w b0 Y0 m0) (hL:Low (-(rn s0 X0 Y0)) (rd Y0:Nat) Z V) :
  Calls Tryz.prog 54 #[Value.agg #[Value.bool s0,Value.slice a0 n0 c0,Value.slice b0 m0 d0]] w fun e w'=>∃ p q,e=.returned (.agg #[.bool (ng Z),.slice p (ln (am Z)) (ln (am Z)),.slice q (ln V) (ln V)])∧New w w' p (am Z) (ln (am Z))∧New w w' q V (ln V)∧Ap p (ln (am Z)) q (ln V):=by
 have HL:=hide' hL
 clear hL
 go_enter Tryz.func54,Tryz.ntmps54
 go_wp2_with fail
 obtain ⟨W,hW⟩:∃ W,((w.alloc (.cells #[.bool s0,.slice a0 n0 c0,.slice b0 m0 d0] 27)).alloc (.cells #[.bool false,.slice none 0 0,.slice none 0 0] 27))=W:=⟨_,rfl⟩
 have q00:W.cell? ⟨w.heap.size,0,none⟩=some (.bool s0):=by subst hW;go_simp
 have q01:W.cell? ⟨w.heap.size,1,none⟩=some (.slice a0 n0 c0):=by subst hW;go_simp
 have q02:W.cell? ⟨w.heap.size,2,none⟩=some (.slice b0 m0 d0):=by subst hW;go_simp
 have r00:W.cell? ⟨w.heap.size+1,0,none⟩=some (.bool false):=by subst hW;go_simp
 have r01:W.cell? ⟨w.heap.size+1,1,none⟩=some (.slice none 0 0):=by subst hW;go_simp
 have r02:W.cell? ⟨w.heap.size+1,2,none⟩=some (.slice none 0 0):=by subst hW;go_simp
 have hB:Below w.heap.size w W:=by subst hW;exact (((Below.refl _ _).alloc (by (try simp only [World.size_alloc]);omega) _).alloc (by (try simp only [World.size_alloc]);omega) _)
 have hR0:Row W (w.heap.size+1):=by
  have:=row_new ((w.alloc (.cells #[.bool s0,.slice a0 n0 c0,.slice b0 m0 d0] 27))) #[.bool false,.slice none 0 0,.slice none 0 0] 27
  try simp only [World.size_alloc] at this
  subst hW;exact this
 have hz:W.heap.size=w.heap.size+1+1:=by subst hW;simp only [World.size_alloc]
 rw [hW]
 clear hW
 have hBW:Below W.heap.size W W:=Below.refl _ _
 go_wp2_with fail
 refine (read_is s0 a0 n0 c0 X0 b0 m0 d0 Y0 35184372088000 _ hc0 hm0 (sb hS0 hB hBW) hd0 hk0 (sb hT0 hB hBW) (by omega) (by omega)).mono ?_
 rintro e w11 ⟨zs11,zp11,zn11,zc11,zX11,zq11,zm11,zd11,rfl,ga11,gb11,gc11,gd11,kS11,kT11,ge11,bb11⟩
 have b11:=bb11
 replace hBW:=hBW.trans (b11.mono hBW.size)
 replace q00:=below_cell b11 q00
 replace q01:=below_cell b11 q01
 replace q02:=below_cell b11 q02
 replace r00:=below_cell b11 r00
 replace r01:=below_cell b11 r01
 replace r02:=below_cell b11 r02
 replace hR0:=below_row b11 hR0
 go_wp2_with fail
 refine (opposite_is zs11 zp11 zn11 zc11 false zq11 zm11 zd11 _).mono ?_
 rintro e w12 ⟨rfl,b12⟩
 replace hBW:=hBW.trans (b12.mono hBW.size)
 replace q00:=below_cell b12 q00
 replace q01:=below_cell b12 q01
 replace q02:=below_cell b12 q02
 replace r00:=below_cell b12 r00
 replace r01:=below_cell b12 r01
 replace r02:=below_cell b12 r02
 replace hR0:=below_row b12 hR0
 replace kS11:=kS11.later b12
 replace kT11:=kT11.later b12
 go_wp2_with fail
 refine (lowest_ap (!zs11) zp11 zn11 zc11 zX11 zq11 zm11 zd11 (rd Y0) V Z _ ga11 (by omega) kS11 gc11 (by omega) kT11 (by rw [sg_not,ge11];exact HL.out)).mono ?_
 rintro e w13 ⟨p13,q13,rfl,hp13,hq13,hap13⟩
 have b13:=hp13.below
 replace hp13:=hp13.back hBW
 replace hq13:=hq13.back hBW
 replace hBW:=hBW.trans (b13.mono hBW.size)
 replace q00:=below_cell b13 q00
 replace q01:=below_cell b13 q01
 replace q02:=below_cell b13 q02
 replace r00:=below_cell b13 r00
 replace r01:=below_cell b13 r01
 replace r02:=below_cell b13 r02
 replace hR0:=below_row b13 hR0
 replace kS11:=kS11.later b13
 replace kT11:=kT11.later b13
 have fz0:=fun o=>hR0.frozen o
 go_wp2
 all_goals refine bodyPost_ret (v:=Value.agg #[Value.bool (ng Z),Value.slice p13 (ln (am Z)) (ln (am Z)),Value.slice q13 (ln V) (ln V)]) (by rw [results_cell rfl];go_simp) rfl ?_
 all_goals exact ⟨p13,q13,rfl,hp13.mid hB (((((Mid.refl _ _ _).set _ _ (by omega) (by omega) _).set _ _ (by omega) (by omega) _).set _ _ (by omega) (by omega) _)),hq13.mid hB (((((Mid.refl _ _ _).set _ _ (by omega) (by omega) _).set _ _ (by omega) (by omega) _).set _ _ (by omega) (by omega) _)),hap13⟩
set_option maxHeartbeats 4000000 in
set_option maxRecDepth 100000 in
theorem qsum_ap (s0:Bool) (a0:Option Addr) (n0 c0 X0:Nat) (b0:Option Addr) (m0 d0 Y0:Nat) (s1:Bool) (a1:Option Addr) (n1 c1 X1:Nat) (b1:Option Addr) (m1 d1 Y1:Nat) (A0 A1 Z:Int) (V:Nat) (w:World) (hc0:n0≤c0) (hm0:n0≤35184372088000) (hS0:Seg w a0 X0 n0) (hd0:m0≤d0) (hk0:m0≤35184372088000) (hT0:Seg w b0 Y0 m0) (hc1:n1≤c1) (hm1:n1≤35184372088000) (hS1:Seg w a1 X1 n1) (hd1:m1≤d1) (hk1:m1≤35184372088000) (hT1:Seg w b1 Y1 m1) (h0:sg s0 X0=A0) (h1:sg s1 X1=A1) (hL:Low (A0*(Y1:Int)+A1*(Y0:Int)) ((Y0:Int)*(Y1:Int)) Z V) :
  Calls Tryz.prog 81 #[Value.agg #[Value.bool s0,Value.slice a0 n0 c0,Value.bool false,Value.slice b0 m0 d0],Value.agg #[Value.bool s1,Value.slice a1 n1 c1,Value.bool false,Value.slice b1 m1 d1]] w fun e w'=>∃ p q,e=.returned (.agg #[.bool (ng Z),.slice p (ln (am Z)) (ln (am Z)),.slice q (ln V) (ln V)])∧New w w' p (am Z) (ln (am Z))∧New w w' q V (ln V)∧Ap p (ln (am Z)) q (ln V):=by
 obtain ⟨P,hP⟩:∃ P,A0*(Y1:Int)=P:=⟨_,rfl⟩
 obtain ⟨Q,hQ⟩:∃ Q,A1*(Y0:Int)=Q:=⟨_,rfl⟩
 obtain ⟨M,hM⟩:∃ M,P+Q=M:=⟨_,rfl⟩
 obtain ⟨D,hD⟩:∃ D,Y0*Y1=D:=⟨_,rfl⟩
 rw [hP,hQ,hM,←Int.natCast_mul,hD] at hL
 have hp:sg s0 X0*sg false Y1=P:=by rw [h0];exact hP
 have hq:sg s1 X1*sg false Y0=Q:=by rw [h1];exact hQ
 have hd:sg false Y0*sg false Y1=((D:Nat):Int):=by rw [sg_mul,hD];rfl
 have lp:ln (am P)≤70368744176010:=by rw [←hp,am_mul,am_sg,am_sg];have:=ln_prod hS0.1 hT1.1;omega
 have lq:ln (am Q)≤70368744176010:=by rw [←hq,am_mul,am_sg,am_sg];have:=ln_prod hS1.1 hT0.1;omega
 have lM:ln (am M)≤70368744176011:=by
  have h1:am M≤am P+am Q:=by rw [←hM];exact am_add P Q
  have h2:=ln_mono h1
  have h3:=ln_sum (ln_lt (am P)) (ln_lt (am Q)) (k:=70368744176011) (by omega) (by omega)
  omega
 have lD:ln D≤70368744176010:=by rw [←hD];have:=ln_prod hT0.1 hT1.1;omega
 have H1:=hide' (fun w' k1 k2=>wMul_is s0 a0 n0 c0 X0 false b1 m1 d1 Y1 P w' hc0 (by omega) k1 hd1 (by omega) k2 hp)
 have H2:=hide' (fun w' k1 k2=>wMul_is s1 a1 n1 c1 X1 false b0 m0 d0 Y0 Q w' hc1 (by omega) k1 hd0 (by omega) k2 hq)
 have H3:=hide' (fun w' p q k1 k2=>wAdd_is (ng P) p (ln (am P)) (ln (am P)) (am P) (ng Q) q (ln (am Q)) (ln (am Q)) (am Q) M w' (Nat.le_refl _) (by omega) k1 (Nat.le_refl _) (by omega) k2 (by rw [sg_na,sg_na];exact hM))
 have H4':=fun w' k1 k2=>wMul_is false b0 m0 d0 Y0 false b1 m1 d1 Y1 (D:Nat) w' hd0 (by omega) k1 hd1 (by omega) k2 hd
 rw [ng_nat,am_nat] at H4'
 have H4:=hide' H4'
 have H5:=hide' (fun w' p q k1 k2=>lowest_ap (ng M) p (ln (am M)) (ln (am M)) (am M) q (ln D) (ln D) D V Z w' (Nat.le_refl _) (by omega) k1 (Nat.le_refl _) (by omega) k2 (by rw [sg_na];exact hL))
 clear hL hP hQ hM hD hp hq hd h0 h1 H4'
 go_enter Tryz.func81,Tryz.ntmps81
 go_upto_region 1 with fail
 obtain ⟨W,hW⟩:∃ W,(((w.alloc (.cells #[.bool s0,.slice a0 n0 c0,.bool false,.slice b0 m0 d0] 85)).alloc (.cells #[.bool s1,.slice a1 n1 c1,.bool false,.slice b1 m1 d1] 85)).alloc (.cells #[.bool false,.slice none 0 0,.slice none 0 0] 27))=W:=⟨_,rfl⟩
 have q00:W.cell? ⟨w.heap.size,0,none⟩=some (.bool s0):=by subst hW;go_simp
 have q01:W.cell? ⟨w.heap.size,1,none⟩=some (.slice a0 n0 c0):=by subst hW;go_simp
 have q02:W.cell? ⟨w.heap.size,2,none⟩=some (.bool false):=by subst hW;go_simp
 have q03:W.cell? ⟨w.heap.size,3,none⟩=some (.slice b0 m0 d0):=by subst hW;go_simp
 have q10:W.cell? ⟨w.heap.size+1,0,none⟩=some (.bool s1):=by subst hW;go_simp
 have q11:W.cell? ⟨w.heap.size+1,1,none⟩=some (.slice a1 n1 c1):=by subst hW;go_simp
 have q12:W.cell? ⟨w.heap.size+1,2,none⟩=some (.bool false):=by subst hW;go_simp
 have q13:W.cell? ⟨w.heap.size+1,3,none⟩=some (.slice b1 m1 d1):=by subst hW;go_simp
 have r00:W.cell? ⟨w.heap.size+1+1,0,none⟩=some (.bool false):=by subst hW;go_simp
 have r01:W.cell? ⟨w.heap.size+1+1,1,none⟩=some (.slice none 0 0):=by subst hW;go_simp
 have r02:W.cell? ⟨w.heap.size+1+1,2,none⟩=some (.slice none 0 0):=by subst hW;go_simp
 have hB:Below w.heap.size w W:=by subst hW;exact ((((Below.refl _ _).alloc (by (try simp only [World.size_alloc]);omega) _).alloc (by (try simp only [World.size_alloc]);omega) _).alloc (by (try simp only [World.size_alloc]);omega) _)
 have hR0:Row W (w.heap.size+1+1):=by
  have:=row_new (((w.alloc (.cells #[.bool s0,.slice a0 n0 c0,.bool false,.slice b0 m0 d0] 85)).alloc (.cells #[.bool s1,.slice a1 n1 c1,.bool false,.slice b1 m1 d1] 85))) #[.bool false,.slice none 0 0,.slice none 0 0] 27
  try simp only [World.size_alloc] at this
  subst hW;exact this
 have hz:W.heap.size=w.heap.size+1+1+1:=by subst hW;simp only [World.size_alloc]
 rw [hW]
 clear hW
 have hBW:Below W.heap.size W W:=Below.refl _ _
 have hz1:=Nat.le_of_eq hz
 have hz2:=Nat.le_of_eq hz.symm
 clear hz
 go_cut [5] from 6 to 16 (fun s5 wx=>∃ c p,s5=.pointer (some ⟨c,0,none⟩)∧W.heap.size≤c∧wx.cell? ⟨c,0,none⟩=some (.bool (ng M))∧wx.cell? ⟨c,1,none⟩=some (.slice p (ln (am M)) (ln (am M)))∧Seg wx p (am M) (ln (am M))∧Below W.heap.size W wx)
 case first =>
  replace hBW:=hBW.drew
  first
   | go_region_held3 (fun w'=>w'.cell? ⟨w.heap.size,0,none⟩=some (.bool s0)∧w'.cell? ⟨w.heap.size,1,none⟩=some (.slice a0 n0 c0)∧w'.cell? ⟨w.heap.size,2,none⟩=some (.bool false)∧w'.cell? ⟨w.heap.size,3,none⟩=some (.slice b0 m0 d0)∧w'.cell? ⟨w.heap.size+1,0,none⟩=some (.bool s1)∧w'.cell? ⟨w.heap.size+1,1,none⟩=some (.slice a1 n1 c1)∧w'.cell? ⟨w.heap.size+1,2,none⟩=some (.bool false)∧w'.cell? ⟨w.heap.size+1,3,none⟩=some (.slice b1 m1 d1)∧Below w.heap.size w w')
     (first | exact ⟨q00,q01,q02,q03,q10,q11,q12,q13,hB.trans (hBW.mono hB.size)⟩ | exact kp8 b11 (by assumption) | exact kp8 b12 (by assumption) | exact kp8 b13 (by assumption) | exact kp8 (below_alloc _) (by assumption) | exact kp8 (below_alloc _) ⟨q00,q01,q02,q03,q10,q11,q12,q13,hB.trans (hBW.mono hB.size)⟩ | exact kpT8_2 (by assumption) (by omega) (by omega) (by omega) (by omega) (by omega) (by omega) (by omega) (by omega) (by omega))
     (first
      | (go_at_call 82;go_at_call_of 82 (Value.agg #[Value.bool s0,Value.slice a0 n0 c0]);go_at_call_of 82 (Value.agg #[Value.bool false,Value.slice b1 m1 d1]);(fail_if_success clear b11);refine Calls.mono (H1.out _ (by first | exact (sb hS0 hB hBW) | exact ((sb hS0 hB hBW)).later (below_alloc _)) (by first | exact (sb hT1 hB hBW) | exact ((sb hT1 hB hBW)).later (below_alloc _))) ?_;rintro e w11 ⟨a11,rfl,h11⟩;have b11:=h11.below;(try replace b11:=un_drew b11);(try ((fail_if_success (have hh:=laR));obtain ⟨la0,la1,laR⟩:=al2 b11;have lage:=hBW.size;have lac:=lt_al (w:=_) (o:=_) (Nat.le_refl _) b11;(try simp only [size_drew] at la0 la1 laR lage lac);replace b11:=below_al b11));(try (have lac:=laR.lt;replace la0:=below_cell b11 la0;replace la1:=below_cell b11 la1;replace laR:=below_row b11 laR));(try (have laf:=fun o=>laR.frozen o));have k1:=h11.seg;clear h11;replace hBW:=hBW.trans (b11.mono hBW.size);replace q00:=below_cell b11 q00;replace q01:=below_cell b11 q01;replace q02:=below_cell b11 q02;replace q03:=below_cell b11 q03;replace q10:=below_cell b11 q10;replace q11:=below_cell b11 q11;replace q12:=below_cell b11 q12;replace q13:=below_cell b11 q13;replace r00:=below_cell b11 r00;replace r01:=below_cell b11 r01;replace r02:=below_cell b11 r02;replace hR0:=below_row b11 hR0)
      | (go_at_call 82;go_at_call_of 82 (Value.agg #[Value.bool s1,Value.slice a1 n1 c1]);go_at_call_of 82 (Value.agg #[Value.bool false,Value.slice b0 m0 d0]);(fail_if_success clear b12);refine Calls.mono (H2.out _ (by first | exact (sb hS1 hB hBW) | exact ((sb hS1 hB hBW)).later (below_alloc _)) (by first | exact (sb hT0 hB hBW) | exact ((sb hT0 hB hBW)).later (below_alloc _))) ?_;rintro e w12 ⟨a12,rfl,h12⟩;have b12:=h12.below;(try replace b12:=un_drew b12);(try ((fail_if_success (have hh:=laR));obtain ⟨la0,la1,laR⟩:=al2 b12;have lage:=hBW.size;have lac:=lt_al (w:=_) (o:=_) (Nat.le_refl _) b12;(try simp only [size_drew] at la0 la1 laR lage lac);replace b12:=below_al b12));(try (have lac:=laR.lt;replace la0:=below_cell b12 la0;replace la1:=below_cell b12 la1;replace laR:=below_row b12 laR));(try (have laf:=fun o=>laR.frozen o));have k2:=h12.seg;clear h12;replace hBW:=hBW.trans (b12.mono hBW.size);replace q00:=below_cell b12 q00;replace q01:=below_cell b12 q01;replace q02:=below_cell b12 q02;replace q03:=below_cell b12 q03;replace q10:=below_cell b12 q10;replace q11:=below_cell b12 q11;replace q12:=below_cell b12 q12;replace q13:=below_cell b12 q13;replace r00:=below_cell b12 r00;replace r01:=below_cell b12 r01;replace r02:=below_cell b12 r02;replace hR0:=below_row b12 hR0;replace k1:=k1.later b12)
      | (go_at_call 108;(fail_if_success clear b13);refine Calls.mono (H3.out _ a11 a12 (by first | exact k1 | exact (k1).later (below_alloc _)) (by first | exact k2 | exact (k2).later (below_alloc _))) ?_;rintro e w13 ⟨a13,rfl,h13⟩;have b13:=h13.below;(try replace b13:=un_drew b13);(try ((fail_if_success (have hh:=laR));obtain ⟨la0,la1,laR⟩:=al2 b13;have lage:=hBW.size;have lac:=lt_al (w:=_) (o:=_) (Nat.le_refl _) b13;(try simp only [size_drew] at la0 la1 laR lage lac);replace b13:=below_al b13));(try (have lac:=laR.lt;replace la0:=below_cell b13 la0;replace la1:=below_cell b13 la1;replace laR:=below_row b13 laR));(try (have laf:=fun o=>laR.frozen o));have k3:=h13.seg;replace hBW:=hBW.trans (b13.mono hBW.size);replace q00:=below_cell b13 q00;replace q01:=below_cell b13 q01;replace q02:=below_cell b13 q02;replace q03:=below_cell b13 q03;replace q10:=below_cell b13 q10;replace q11:=below_cell b13 q11;replace q12:=below_cell b13 q12;replace q13:=below_cell b13 q13;replace r00:=below_cell b13 r00;replace r01:=below_cell b13 r01;replace r02:=below_cell b13 r02;replace hR0:=below_row b13 hR0;replace k1:=k1.later b13;replace k2:=k2.later b13))
   | fail
  all_goals go_wp2_with fail
  all_goals go_meet
  all_goals first
   | exact ⟨_,_,rfl,lage,(set2_same la0 la1).1,(set2_same la0 la1).2,h13.seg2 lac _ _,(hBW.setCell lage _).setCell lage _⟩
   | exact ⟨_,_,rfl,hBW.size,by go_simp,by go_simp,k3.later (below_alloc _),hBW.trans ((below_alloc _).mono hBW.size)⟩
 case rest =>
 clear hBW H1 H2 H3
 obtain ⟨c,p,rfl,hge,lc0,lc1,kM,hBW⟩:=hcut
 replace q00:=below_cell hBW q00
 replace q01:=below_cell hBW q01
 replace q02:=below_cell hBW q02
 replace q03:=below_cell hBW q03
 replace q10:=below_cell hBW q10
 replace q11:=below_cell hBW q11
 replace q12:=below_cell hBW q12
 replace q13:=below_cell hBW q13
 replace r00:=below_cell hBW r00
 replace r01:=below_cell hBW r01
 replace r02:=below_cell hBW r02
 replace hR0:=below_row hBW hR0
 go_wp2_with fail
 replace hBW:=hBW.drew
 replace kM:=kM.drew
 first
  | go_region_held3 (fun w'=>w'.cell? ⟨w.heap.size,0,none⟩=some (.bool s0)∧w'.cell? ⟨w.heap.size,1,none⟩=some (.slice a0 n0 c0)∧w'.cell? ⟨w.heap.size,2,none⟩=some (.bool false)∧w'.cell? ⟨w.heap.size,3,none⟩=some (.slice b0 m0 d0)∧w'.cell? ⟨w.heap.size+1,0,none⟩=some (.bool s1)∧w'.cell? ⟨w.heap.size+1,1,none⟩=some (.slice a1 n1 c1)∧w'.cell? ⟨w.heap.size+1,2,none⟩=some (.bool false)∧w'.cell? ⟨w.heap.size+1,3,none⟩=some (.slice b1 m1 d1)∧w'.cell? ⟨c,0,none⟩=some (.bool (ng M))∧w'.cell? ⟨c,1,none⟩=some (.slice p (ln (am M)) (ln (am M)))∧Below w.heap.size w w')
    (first | exact ⟨q00,q01,q02,q03,q10,q11,q12,q13,lc0,lc1,hB.trans (hBW.mono hB.size)⟩ | exact kp10 b21 (by assumption) | exact kp10 b22 (by assumption) | exact kp10 (below_alloc _) (by assumption) | exact kp10 (below_alloc _) ⟨q00,q01,q02,q03,q10,q11,q12,q13,lc0,lc1,hB.trans (hBW.mono hB.size)⟩ | exact kpT10_3 (by assumption) (by omega) (by omega) (by omega) (by omega) (by omega) (by omega) (by omega) (by omega) (by omega) (by omega) (by omega))
    (first
     | (go_at_call 82;(fail_if_success clear b21);refine (H4.out _ (sb hT0 hB hBW) (sb hT1 hB hBW)).mono ?_;rintro e w21 ⟨a21,rfl,h4⟩;have b21:=h4.below;replace h4:=h4.back hBW;replace hBW:=hBW.trans (b21.mono hBW.size);replace q00:=below_cell b21 q00;replace q01:=below_cell b21 q01;replace q02:=below_cell b21 q02;replace q03:=below_cell b21 q03;replace q10:=below_cell b21 q10;replace q11:=below_cell b21 q11;replace q12:=below_cell b21 q12;replace q13:=below_cell b21 q13;replace r00:=below_cell b21 r00;replace r01:=below_cell b21 r01;replace r02:=below_cell b21 r02;replace lc0:=below_cell b21 lc0;replace lc1:=below_cell b21 lc1;replace hR0:=below_row b21 hR0;replace kM:=kM.later b21)
     | (go_at_call 75;(fail_if_success clear b22);refine (H5.out _ p a21 kM h4.seg).mono ?_;rintro e w22 ⟨p22,q22,rfl,hp22,hq22,hap22⟩;have b22:=hp22.below;replace hp22:=hp22.back hBW;replace hq22:=hq22.back hBW;replace hBW:=hBW.trans (b22.mono hBW.size);replace q00:=below_cell b22 q00;replace q01:=below_cell b22 q01;replace q02:=below_cell b22 q02;replace q03:=below_cell b22 q03;replace q10:=below_cell b22 q10;replace q11:=below_cell b22 q11;replace q12:=below_cell b22 q12;replace q13:=below_cell b22 q13;replace r00:=below_cell b22 r00;replace r01:=below_cell b22 r01;replace r02:=below_cell b22 r02;replace lc0:=below_cell b22 lc0;replace lc1:=below_cell b22 lc1;replace hR0:=below_row b22 hR0;replace kM:=kM.later b22;replace h4:=h4.later b22;have fz:=fun o=>hR0.frozen o))
  | fail
 have fz0:=fun o=>hR0.frozen o
 go_wp2
 all_goals refine bodyPost_ret (v:=Value.agg #[Value.bool (ng Z),Value.slice p22 (ln (am Z)) (ln (am Z)),Value.slice q22 (ln V) (ln V)]) (by rw [results_cell rfl];go_simp) rfl ?_
 all_goals exact ⟨p22,q22,rfl,hp22.mid hB (((((Mid.refl _ _ _).set _ _ (by omega) (by omega) _).set _ _ (by omega) (by omega) _).set _ _ (by omega) (by omega) _)),hq22.mid hB (((((Mid.refl _ _ _).set _ _ (by omega) (by omega) _).set _ _ (by omega) (by omega) _).set _ _ (by omega) (by omega) _)),hap22⟩
set_option maxHeartbeats 4000000 in
set_option maxRecDepth 100000 in
theorem qAdd_ap (s0:Bool) (a0:Option Addr) (n0 c0 X0:Nat) (b0:Option Addr) (m0 d0 Y0:Nat) (s1:Bool) (a1:Option Addr) (n1 c1 X1:Nat) (b1:Option Addr) (m1 d1 Y1:Nat) (Z:Int) (V:Nat) (w:World) (hc0:n0≤c0) (hm0:n0≤35184372088000) (hS0:Seg w a0 X0 n0) (hd0:m0≤d0) (hk0:m0≤35184372088000) (hT0:Seg w b0 Y0 m0) (hc1:n1≤c1) (hm1:n1≤35184372088000) (hS1:Seg w a1 X1 n1) (hd1:m1≤d1) (hk1:m1≤35184372088000) (hT1:Seg w b1 Y1 m1) (hL:Low (rn s0 X0 Y0*(rd Y1:Nat)+rn s1 X1 Y1*(rd Y0:Nat)) ((rd Y0:Nat)*(rd Y1:Nat)) Z V) :
  Calls Tryz.prog 55 #[Value.agg #[Value.bool s0,Value.slice a0 n0 c0,Value.slice b0 m0 d0],Value.agg #[Value.bool s1,Value.slice a1 n1 c1,Value.slice b1 m1 d1]] w fun e w'=>∃ p q,e=.returned (.agg #[.bool (ng Z),.slice p (ln (am Z)) (ln (am Z)),.slice q (ln V) (ln V)])∧New w w' p (am Z) (ln (am Z))∧New w w' q V (ln V)∧Ap p (ln (am Z)) q (ln V):=by
 have HL:=hide' hL
 clear hL
 go_enter Tryz.func55,Tryz.ntmps55
 go_wp2_with fail
 obtain ⟨W,hW⟩:∃ W,(((w.alloc (.cells #[.bool s0,.slice a0 n0 c0,.slice b0 m0 d0] 27)).alloc (.cells #[.bool s1,.slice a1 n1 c1,.slice b1 m1 d1] 27)).alloc (.cells #[.bool false,.slice none 0 0,.slice none 0 0] 27))=W:=⟨_,rfl⟩
 have q00:W.cell? ⟨w.heap.size,0,none⟩=some (.bool s0):=by subst hW;go_simp
 have q01:W.cell? ⟨w.heap.size,1,none⟩=some (.slice a0 n0 c0):=by subst hW;go_simp
 have q02:W.cell? ⟨w.heap.size,2,none⟩=some (.slice b0 m0 d0):=by subst hW;go_simp
 have q10:W.cell? ⟨w.heap.size+1,0,none⟩=some (.bool s1):=by subst hW;go_simp
 have q11:W.cell? ⟨w.heap.size+1,1,none⟩=some (.slice a1 n1 c1):=by subst hW;go_simp
 have q12:W.cell? ⟨w.heap.size+1,2,none⟩=some (.slice b1 m1 d1):=by subst hW;go_simp
 have r00:W.cell? ⟨w.heap.size+1+1,0,none⟩=some (.bool false):=by subst hW;go_simp
 have r01:W.cell? ⟨w.heap.size+1+1,1,none⟩=some (.slice none 0 0):=by subst hW;go_simp
 have r02:W.cell? ⟨w.heap.size+1+1,2,none⟩=some (.slice none 0 0):=by subst hW;go_simp
 have hB:Below w.heap.size w W:=by subst hW;exact ((((Below.refl _ _).alloc (by (try simp only [World.size_alloc]);omega) _).alloc (by (try simp only [World.size_alloc]);omega) _).alloc (by (try simp only [World.size_alloc]);omega) _)
 have hR0:Row W (w.heap.size+1+1):=by
  have:=row_new (((w.alloc (.cells #[.bool s0,.slice a0 n0 c0,.slice b0 m0 d0] 27)).alloc (.cells #[.bool s1,.slice a1 n1 c1,.slice b1 m1 d1] 27))) #[.bool false,.slice none 0 0,.slice none 0 0] 27
  try simp only [World.size_alloc] at this
  subst hW;exact this
 have hz:W.heap.size=w.heap.size+1+1+1:=by subst hW;simp only [World.size_alloc]
 rw [hW]
 clear hW
 have hBW:Below W.heap.size W W:=Below.refl _ _
 replace hBW:=hBW.drew
 first
  | go_region_held3 (fun w'=>w'.cell? ⟨w.heap.size,0,none⟩=some (.bool s0)∧w'.cell? ⟨w.heap.size,1,none⟩=some (.slice a0 n0 c0)∧w'.cell? ⟨w.heap.size,2,none⟩=some (.slice b0 m0 d0)∧w'.cell? ⟨w.heap.size+1,0,none⟩=some (.bool s1)∧w'.cell? ⟨w.heap.size+1,1,none⟩=some (.slice a1 n1 c1)∧w'.cell? ⟨w.heap.size+1,2,none⟩=some (.slice b1 m1 d1)∧Below w.heap.size w w')
    (first | exact ⟨q00,q01,q02,q10,q11,q12,hB.trans (hBW.mono hB.size)⟩ | exact kp6 b11 (by assumption) | exact kp6 b12 (by assumption) | exact kp6 b13 (by assumption) | exact kp6 (below_alloc _) (by assumption) | exact kp6 (below_alloc _) ⟨q00,q01,q02,q10,q11,q12,hB.trans (hBW.mono hB.size)⟩ | exact kpT6_3 (by assumption) (by omega) (by omega) (by omega) (by omega) (by omega) (by omega) (by omega))
    (first
     | (go_at_call 79;go_at_call_of 79 (Value.agg #[Value.bool s0,Value.slice a0 n0 c0,Value.slice b0 m0 d0]);(fail_if_success clear b11);refine (read_is s0 a0 n0 c0 X0 b0 m0 d0 Y0 35184372088000 _ hc0 hm0 (sb hS0 hB hBW) hd0 hk0 (sb hT0 hB hBW) (by omega) (by omega)).mono ?_;rintro e w11 ⟨zs11,zp11,zn11,zc11,zX11,zq11,zm11,zd11,rfl,ga11,gb11,gc11,gd11,kS11,kT11,ge11,bb11⟩;have b11:=bb11;replace hBW:=hBW.trans (b11.mono hBW.size);replace q00:=below_cell b11 q00;replace q01:=below_cell b11 q01;replace q02:=below_cell b11 q02;replace q10:=below_cell b11 q10;replace q11:=below_cell b11 q11;replace q12:=below_cell b11 q12;replace r00:=below_cell b11 r00;replace r01:=below_cell b11 r01;replace r02:=below_cell b11 r02;replace hR0:=below_row b11 hR0)
     | (go_at_call 79;go_at_call_of 79 (Value.agg #[Value.bool s1,Value.slice a1 n1 c1,Value.slice b1 m1 d1]);(fail_if_success clear b12);refine (read_is s1 a1 n1 c1 X1 b1 m1 d1 Y1 35184372088000 _ hc1 hm1 (sb hS1 hB hBW) hd1 hk1 (sb hT1 hB hBW) (by omega) (by omega)).mono ?_;rintro e w12 ⟨zs12,zp12,zn12,zc12,zX12,zq12,zm12,zd12,rfl,ga12,gb12,gc12,gd12,kS12,kT12,ge12,bb12⟩;have b12:=bb12;replace hBW:=hBW.trans (b12.mono hBW.size);replace q00:=below_cell b12 q00;replace q01:=below_cell b12 q01;replace q02:=below_cell b12 q02;replace q10:=below_cell b12 q10;replace q11:=below_cell b12 q11;replace q12:=below_cell b12 q12;replace r00:=below_cell b12 r00;replace r01:=below_cell b12 r01;replace r02:=below_cell b12 r02;replace hR0:=below_row b12 hR0;replace kS11:=kS11.later b12;replace kT11:=kT11.later b12)
     | (go_at_call 81;(fail_if_success clear b13);refine (qsum_ap zs11 zp11 zn11 zc11 zX11 zq11 zm11 zd11 (rd Y0) zs12 zp12 zn12 zc12 zX12 zq12 zm12 zd12 (rd Y1) _ _ Z V _ ga11 gb11 kS11 gc11 gd11 kT11 ga12 gb12 kS12 gc12 gd12 kT12 ge11 ge12 HL.out).mono ?_;rintro e w13 ⟨p13,q13,rfl,hp13,hq13,hap13⟩;have b13:=hp13.below;replace hp13:=hp13.back hBW;replace hq13:=hq13.back hBW;replace hBW:=hBW.trans (b13.mono hBW.size);replace q00:=below_cell b13 q00;replace q01:=below_cell b13 q01;replace q02:=below_cell b13 q02;replace q10:=below_cell b13 q10;replace q11:=below_cell b13 q11;replace q12:=below_cell b13 q12;replace r00:=below_cell b13 r00;replace r01:=below_cell b13 r01;replace r02:=below_cell b13 r02;replace hR0:=below_row b13 hR0;replace kS11:=kS11.later b13;replace kT11:=kT11.later b13;replace kS12:=kS12.later b13;replace kT12:=kT12.later b13;have fz:=fun o=>hR0.frozen o))
  | fail
 have fz0:=fun o=>hR0.frozen o
 go_wp2
 all_goals refine bodyPost_ret (v:=Value.agg #[Value.bool (ng Z),Value.slice p13 (ln (am Z)) (ln (am Z)),Value.slice q13 (ln V) (ln V)]) (by rw [results_cell rfl];go_simp) rfl ?_
 all_goals exact ⟨p13,q13,rfl,hp13.mid hB (((((Mid.refl _ _ _).set _ _ (by omega) (by omega) _).set _ _ (by omega) (by omega) _).set _ _ (by omega) (by omega) _)),hq13.mid hB (((((Mid.refl _ _ _).set _ _ (by omega) (by omega) _).set _ _ (by omega) (by omega) _).set _ _ (by omega) (by omega) _)),hap13⟩
set_option maxHeartbeats 4000000 in
set_option maxRecDepth 100000 in
theorem qSub_ap (s0:Bool) (a0:Option Addr) (n0 c0 X0:Nat) (b0:Option Addr) (m0 d0 Y0:Nat) (s1:Bool) (a1:Option Addr) (n1 c1 X1:Nat) (b1:Option Addr) (m1 d1 Y1:Nat) (Z:Int) (V:Nat) (w:World) (hc0:n0≤c0) (hm0:n0≤35184372088000) (hS0:Seg w a0 X0 n0) (hd0:m0≤d0) (hk0:m0≤35184372088000) (hT0:Seg w b0 Y0 m0) (hc1:n1≤c1) (hm1:n1≤35184372088000) (hS1:Seg w a1 X1 n1) (hd1:m1≤d1) (hk1:m1≤35184372088000) (hT1:Seg w b1 Y1 m1) (hL:Low (rn s0 X0 Y0*(rd Y1:Nat)+-(rn s1 X1 Y1)*(rd Y0:Nat)) ((rd Y0:Nat)*(rd Y1:Nat)) Z V) :
  Calls Tryz.prog 56 #[Value.agg #[Value.bool s0,Value.slice a0 n0 c0,Value.slice b0 m0 d0],Value.agg #[Value.bool s1,Value.slice a1 n1 c1,Value.slice b1 m1 d1]] w fun e w'=>∃ p q,e=.returned (.agg #[.bool (ng Z),.slice p (ln (am Z)) (ln (am Z)),.slice q (ln V) (ln V)])∧New w w' p (am Z) (ln (am Z))∧New w w' q V (ln V)∧Ap p (ln (am Z)) q (ln V):=by
 have HL:=hide' hL
 clear hL
 go_enter Tryz.func56,Tryz.ntmps56
 go_wp2_with fail
 obtain ⟨W,hW⟩:∃ W,(((w.alloc (.cells #[.bool s0,.slice a0 n0 c0,.slice b0 m0 d0] 27)).alloc (.cells #[.bool s1,.slice a1 n1 c1,.slice b1 m1 d1] 27)).alloc (.cells #[.bool false,.slice none 0 0,.slice none 0 0] 27))=W:=⟨_,rfl⟩
 have q00:W.cell? ⟨w.heap.size,0,none⟩=some (.bool s0):=by subst hW;go_simp
 have q01:W.cell? ⟨w.heap.size,1,none⟩=some (.slice a0 n0 c0):=by subst hW;go_simp
 have q02:W.cell? ⟨w.heap.size,2,none⟩=some (.slice b0 m0 d0):=by subst hW;go_simp
 have q10:W.cell? ⟨w.heap.size+1,0,none⟩=some (.bool s1):=by subst hW;go_simp
 have q11:W.cell? ⟨w.heap.size+1,1,none⟩=some (.slice a1 n1 c1):=by subst hW;go_simp
 have q12:W.cell? ⟨w.heap.size+1,2,none⟩=some (.slice b1 m1 d1):=by subst hW;go_simp
 have r00:W.cell? ⟨w.heap.size+1+1,0,none⟩=some (.bool false):=by subst hW;go_simp
 have r01:W.cell? ⟨w.heap.size+1+1,1,none⟩=some (.slice none 0 0):=by subst hW;go_simp
 have r02:W.cell? ⟨w.heap.size+1+1,2,none⟩=some (.slice none 0 0):=by subst hW;go_simp
 have hB:Below w.heap.size w W:=by subst hW;exact ((((Below.refl _ _).alloc (by (try simp only [World.size_alloc]);omega) _).alloc (by (try simp only [World.size_alloc]);omega) _).alloc (by (try simp only [World.size_alloc]);omega) _)
 have hR0:Row W (w.heap.size+1+1):=by
  have:=row_new (((w.alloc (.cells #[.bool s0,.slice a0 n0 c0,.slice b0 m0 d0] 27)).alloc (.cells #[.bool s1,.slice a1 n1 c1,.slice b1 m1 d1] 27))) #[.bool false,.slice none 0 0,.slice none 0 0] 27
  try simp only [World.size_alloc] at this
  subst hW;exact this
 have hz:W.heap.size=w.heap.size+1+1+1:=by subst hW;simp only [World.size_alloc]
 rw [hW]
 clear hW
 have hBW:Below W.heap.size W W:=Below.refl _ _
 replace hBW:=hBW.drew
 first
  | go_region_held3 (fun w'=>w'.cell? ⟨w.heap.size,0,none⟩=some (.bool s0)∧w'.cell? ⟨w.heap.size,1,none⟩=some (.slice a0 n0 c0)∧w'.cell? ⟨w.heap.size,2,none⟩=some (.slice b0 m0 d0)∧w'.cell? ⟨w.heap.size+1,0,none⟩=some (.bool s1)∧w'.cell? ⟨w.heap.size+1,1,none⟩=some (.slice a1 n1 c1)∧w'.cell? ⟨w.heap.size+1,2,none⟩=some (.slice b1 m1 d1)∧Below w.heap.size w w')
    (first | exact ⟨q00,q01,q02,q10,q11,q12,hB.trans (hBW.mono hB.size)⟩ | exact kp6 b11 (by assumption) | exact kp6 b12 (by assumption) | exact kp6 b13 (by assumption) | exact kp6 b14 (by assumption) | exact kp6 (below_alloc _) (by assumption) | exact kp6 (below_alloc _) ⟨q00,q01,q02,q10,q11,q12,hB.trans (hBW.mono hB.size)⟩ | exact kpT6_3 (by assumption) (by omega) (by omega) (by omega) (by omega) (by omega) (by omega) (by omega))
    (first
     | (go_at_call 79;go_at_call_of 79 (Value.agg #[Value.bool s0,Value.slice a0 n0 c0,Value.slice b0 m0 d0]);(fail_if_success clear b11);refine (read_is s0 a0 n0 c0 X0 b0 m0 d0 Y0 35184372088000 _ hc0 hm0 (sb hS0 hB hBW) hd0 hk0 (sb hT0 hB hBW) (by omega) (by omega)).mono ?_;rintro e w11 ⟨zs11,zp11,zn11,zc11,zX11,zq11,zm11,zd11,rfl,ga11,gb11,gc11,gd11,kS11,kT11,ge11,bb11⟩;have b11:=bb11;replace hBW:=hBW.trans (b11.mono hBW.size);replace q00:=below_cell b11 q00;replace q01:=below_cell b11 q01;replace q02:=below_cell b11 q02;replace q10:=below_cell b11 q10;replace q11:=below_cell b11 q11;replace q12:=below_cell b11 q12;replace r00:=below_cell b11 r00;replace r01:=below_cell b11 r01;replace r02:=below_cell b11 r02;replace hR0:=below_row b11 hR0)
     | (go_at_call 79;go_at_call_of 79 (Value.agg #[Value.bool s1,Value.slice a1 n1 c1,Value.slice b1 m1 d1]);(fail_if_success clear b12);refine (read_is s1 a1 n1 c1 X1 b1 m1 d1 Y1 35184372088000 _ hc1 hm1 (sb hS1 hB hBW) hd1 hk1 (sb hT1 hB hBW) (by omega) (by omega)).mono ?_;rintro e w12 ⟨zs12,zp12,zn12,zc12,zX12,zq12,zm12,zd12,rfl,ga12,gb12,gc12,gd12,kS12,kT12,ge12,bb12⟩;have b12:=bb12;replace hBW:=hBW.trans (b12.mono hBW.size);replace q00:=below_cell b12 q00;replace q01:=below_cell b12 q01;replace q02:=below_cell b12 q02;replace q10:=below_cell b12 q10;replace q11:=below_cell b12 q11;replace q12:=below_cell b12 q12;replace r00:=below_cell b12 r00;replace r01:=below_cell b12 r01;replace r02:=below_cell b12 r02;replace hR0:=below_row b12 hR0;replace kS11:=kS11.later b12;replace kT11:=kT11.later b12)
     | (go_at_call 80;refine (opposite_is zs12 zp12 zn12 zc12 false zq12 zm12 zd12 _).mono ?_;rintro e w13 ⟨rfl,b13⟩;replace hBW:=hBW.trans (b13.mono hBW.size);replace q00:=below_cell b13 q00;replace q01:=below_cell b13 q01;replace q02:=below_cell b13 q02;replace q10:=below_cell b13 q10;replace q11:=below_cell b13 q11;replace q12:=below_cell b13 q12;replace r00:=below_cell b13 r00;replace r01:=below_cell b13 r01;replace r02:=below_cell b13 r02;replace hR0:=below_row b13 hR0;replace kS11:=kS11.later b13;replace kT11:=kT11.later b13;replace kS12:=kS12.later b13;replace kT12:=kT12.later b13)
     | (go_at_call 81;(fail_if_success clear b14);refine (qsum_ap zs11 zp11 zn11 zc11 zX11 zq11 zm11 zd11 (rd Y0) (!zs12) zp12 zn12 zc12 zX12 zq12 zm12 zd12 (rd Y1) _ _ Z V _ ga11 gb11 kS11 gc11 gd11 kT11 ga12 gb12 kS12 gc12 gd12 kT12 ge11 (by rw [sg_not,ge12]) HL.out).mono ?_;rintro e w14 ⟨p14,q14,rfl,hp14,hq14,hap14⟩;have b14:=hp14.below;replace hp14:=hp14.back hBW;replace hq14:=hq14.back hBW;replace hBW:=hBW.trans (b14.mono hBW.size);replace q00:=below_cell b14 q00;replace q01:=below_cell b14 q01;replace q02:=below_cell b14 q02;replace q10:=below_cell b14 q10;replace q11:=below_cell b14 q11;replace q12:=below_cell b14 q12;replace r00:=below_cell b14 r00;replace r01:=below_cell b14 r01;replace r02:=below_cell b14 r02;replace hR0:=below_row b14 hR0;replace kS11:=kS11.later b14;replace kT11:=kT11.later b14;replace kS12:=kS12.later b14;replace kT12:=kT12.later b14;have fz:=fun o=>hR0.frozen o))
  | fail
 have fz0:=fun o=>hR0.frozen o
 go_wp2
 all_goals refine bodyPost_ret (v:=Value.agg #[Value.bool (ng Z),Value.slice p14 (ln (am Z)) (ln (am Z)),Value.slice q14 (ln V) (ln V)]) (by rw [results_cell rfl];go_simp) rfl ?_
 all_goals exact ⟨p14,q14,rfl,hp14.mid hB (((((Mid.refl _ _ _).set _ _ (by omega) (by omega) _).set _ _ (by omega) (by omega) _).set _ _ (by omega) (by omega) _)),hq14.mid hB (((((Mid.refl _ _ _).set _ _ (by omega) (by omega) _).set _ _ (by omega) (by omega) _).set _ _ (by omega) (by omega) _)),hap14⟩
set_option maxHeartbeats 4000000 in
set_option maxRecDepth 100000 in
theorem qMul_ap (s0:Bool) (a0:Option Addr) (n0 c0 X0:Nat) (b0:Option Addr) (m0 d0 Y0:Nat) (s1:Bool) (a1:Option Addr) (n1 c1 X1:Nat) (b1:Option Addr) (m1 d1 Y1:Nat) (Z:Int) (V:Nat) (w:World) (hc0:n0≤c0) (hm0:n0≤35184372088000) (hS0:Seg w a0 X0 n0) (hd0:m0≤d0) (hk0:m0≤35184372088000) (hT0:Seg w b0 Y0 m0) (hc1:n1≤c1) (hm1:n1≤35184372088000) (hS1:Seg w a1 X1 n1) (hd1:m1≤d1) (hk1:m1≤35184372088000) (hT1:Seg w b1 Y1 m1) (hL:Low (rn s0 X0 Y0*rn s1 X1 Y1) ((rd Y0:Nat)*(rd Y1:Nat)) Z V) :
  Calls Tryz.prog 57 #[Value.agg #[Value.bool s0,Value.slice a0 n0 c0,Value.slice b0 m0 d0],Value.agg #[Value.bool s1,Value.slice a1 n1 c1,Value.slice b1 m1 d1]] w fun e w'=>∃ p q,e=.returned (.agg #[.bool (ng Z),.slice p (ln (am Z)) (ln (am Z)),.slice q (ln V) (ln V)])∧New w w' p (am Z) (ln (am Z))∧New w w' q V (ln V)∧Ap p (ln (am Z)) q (ln V):=by
 have HL:=hide' hL
 clear hL
 obtain ⟨P,hP⟩:∃ P,rn s0 X0 Y0*rn s1 X1 Y1=P:=⟨_,rfl⟩
 obtain ⟨D,hD⟩:∃ D,rd Y0*rd Y1=D:=⟨_,rfl⟩
 have hL:=HL.out
 rw [hP,←Int.natCast_mul,hD] at hL
 have lP:ln (am P)≤70368744176010:=by rw [←hP,am_mul];have:=ln_prod (Nat.lt_of_le_of_lt (rn_am s0 X0 Y0) hS0.1) (Nat.lt_of_le_of_lt (rn_am s1 X1 Y1) hS1.1);omega
 have lD:ln D≤70368744176012:=by rw [←hD];have:=ln_prod (rd_lt hT0.1) (rd_lt hT1.1);omega
 have H4':=fun w' zq11 zm11 zd11 zq12 zm12 zd12 (g1:zm11≤zd11) (g2:zm11≤35184372088000) k1 (g3:zm12≤zd12) (g4:zm12≤35184372088000) k2=>wMul_is false zq11 zm11 zd11 (rd Y0) false zq12 zm12 zd12 (rd Y1) (D:Nat) w' g1 (by omega) k1 g3 (by omega) k2 (by rw [sg_mul,hD];rfl)
 rw [ng_nat,am_nat] at H4'
 have H4:=hide' H4'
 have H5:=hide' (fun w' p q k1 k2=>lowest_ap (ng P) p (ln (am P)) (ln (am P)) (am P) q (ln D) (ln D) D V Z w' (Nat.le_refl _) (by omega) k1 (Nat.le_refl _) (by omega) k2 (by rw [sg_na];exact hL))
 have HP:=hide' hP
 clear hL hP hD H4' HL
 have HR0:=hide' (fun w' k1 k2=>read_is s0 a0 n0 c0 X0 b0 m0 d0 Y0 35184372088000 w' hc0 hm0 k1 hd0 hk0 k2 (by omega) (by omega))
 have HR1:=hide' (fun w' k1 k2=>read_is s1 a1 n1 c1 X1 b1 m1 d1 Y1 35184372088000 w' hc1 hm1 k1 hd1 hk1 k2 (by omega) (by omega))
 go_enter Tryz.func57,Tryz.ntmps57
 go_upto_region 1 with fail
 obtain ⟨W,hW⟩:∃ W,(((w.alloc (.cells #[.bool s0,.slice a0 n0 c0,.slice b0 m0 d0] 27)).alloc (.cells #[.bool s1,.slice a1 n1 c1,.slice b1 m1 d1] 27)).alloc (.cells #[.bool false,.slice none 0 0,.slice none 0 0] 27))=W:=⟨_,rfl⟩
 have q00:W.cell? ⟨w.heap.size,0,none⟩=some (.bool s0):=by subst hW;go_simp
 have q01:W.cell? ⟨w.heap.size,1,none⟩=some (.slice a0 n0 c0):=by subst hW;go_simp
 have q02:W.cell? ⟨w.heap.size,2,none⟩=some (.slice b0 m0 d0):=by subst hW;go_simp
 have q10:W.cell? ⟨w.heap.size+1,0,none⟩=some (.bool s1):=by subst hW;go_simp
 have q11:W.cell? ⟨w.heap.size+1,1,none⟩=some (.slice a1 n1 c1):=by subst hW;go_simp
 have q12:W.cell? ⟨w.heap.size+1,2,none⟩=some (.slice b1 m1 d1):=by subst hW;go_simp
 have r00:W.cell? ⟨w.heap.size+1+1,0,none⟩=some (.bool false):=by subst hW;go_simp
 have r01:W.cell? ⟨w.heap.size+1+1,1,none⟩=some (.slice none 0 0):=by subst hW;go_simp
 have r02:W.cell? ⟨w.heap.size+1+1,2,none⟩=some (.slice none 0 0):=by subst hW;go_simp
 have hB:Below w.heap.size w W:=by subst hW;exact ((((Below.refl _ _).alloc (by (try simp only [World.size_alloc]);omega) _).alloc (by (try simp only [World.size_alloc]);omega) _).alloc (by (try simp only [World.size_alloc]);omega) _)
 have hR0:Row W (w.heap.size+1+1):=by
  have:=row_new (((w.alloc (.cells #[.bool s0,.slice a0 n0 c0,.slice b0 m0 d0] 27)).alloc (.cells #[.bool s1,.slice a1 n1 c1,.slice b1 m1 d1] 27))) #[.bool false,.slice none 0 0,.slice none 0 0] 27
  try simp only [World.size_alloc] at this
  subst hW;exact this
 have hz:W.heap.size=w.heap.size+1+1+1:=by subst hW;simp only [World.size_alloc]
 rw [hW]
 clear hW
 have hBW:Below W.heap.size W W:=Below.refl _ _
 have hz1:=Nat.le_of_eq hz
 have hz2:=Nat.le_of_eq hz.symm
 clear hz
 go_cut [5,6] from 7 to 10 (fun s5 s6 wx=>∃ c d zs11 zp11 zn11 zc11 zX11 zq11 zm11 zd11 zs12 zp12 zn12 zc12 zX12 zq12 zm12 zd12,s5=.pointer (some ⟨c,0,none⟩)∧s6=.pointer (some ⟨d,0,none⟩)∧W.heap.size≤c∧W.heap.size≤d∧Below W.heap.size W wx∧wx.cell? ⟨c,0,none⟩=some (.bool zs11)∧wx.cell? ⟨c,1,none⟩=some (.slice zp11 zn11 zc11)∧wx.cell? ⟨c,2,none⟩=some (.bool false)∧wx.cell? ⟨c,3,none⟩=some (.slice zq11 zm11 zd11)∧wx.cell? ⟨d,0,none⟩=some (.bool zs12)∧wx.cell? ⟨d,1,none⟩=some (.slice zp12 zn12 zc12)∧wx.cell? ⟨d,2,none⟩=some (.bool false)∧wx.cell? ⟨d,3,none⟩=some (.slice zq12 zm12 zd12)∧zn11≤zc11∧zn11≤35184372088000∧zm11≤zd11∧zm11≤35184372088000∧Seg wx zp11 zX11 zn11∧Seg wx zq11 (rd Y0) zm11∧sg zs11 zX11=rn s0 X0 Y0∧zn12≤zc12∧zn12≤35184372088000∧zm12≤zd12∧zm12≤35184372088000∧Seg wx zp12 zX12 zn12∧Seg wx zq12 (rd Y1) zm12∧sg zs12 zX12=rn s1 X1 Y1)
 case first =>
  have Qq00:=q00
  have Qq01:=q01
  have Qq02:=q02
  have Qq10:=q10
  have Qq11:=q11
  have Qq12:=q12
  clear q00 q01 q02 q10 q11 q12 r00 r01 r02 hR0
  replace hBW:=hBW.drew
  refine wp_region_held_drew (S:=(fun w'=>w'.cell? ⟨w.heap.size,0,none⟩=some (.bool s0)∧w'.cell? ⟨w.heap.size,1,none⟩=some (.slice a0 n0 c0)∧w'.cell? ⟨w.heap.size,2,none⟩=some (.slice b0 m0 d0)∧w'.cell? ⟨w.heap.size+1,0,none⟩=some (.bool s1)∧w'.cell? ⟨w.heap.size+1,1,none⟩=some (.slice a1 n1 c1)∧w'.cell? ⟨w.heap.size+1,2,none⟩=some (.slice b1 m1 d1)∧Below w.heap.size w w')) (by kernel_rfl) (kp6 (W:=W) hBW ⟨Qq00,Qq01,Qq02,Qq10,Qq11,Qq12,hB⟩) (fun hHeld=>?_)
  generalize W.drew=w0 at hBW hHeld ⊢
  refine tk 0 (v:=?_) rfl (Or.inl ⟨by rfl,?_⟩) ?_
  rotate_left
  ·intro w9 hSw
   go_simp
   first | done | with_reducible rfl
  simp only [pP,pN,pS,pZ,pC]
  refine tk 2 (v:=?_) rfl (Or.inl ⟨by rfl,?_⟩) ?_
  rotate_left
  ·intro w9 hSw
   go_simp
   first | done | with_reducible rfl
  simp only [pP,pN,pS,pZ,pC]
  have hs0:=hBW.size
  obtain ⟨va0,hva0⟩:∃ v,Value.agg #[.bool s0,.slice a0 n0 c0,.slice b0 m0 d0]=v:=⟨_,rfl⟩
  rw [hva0] at HR0 ⊢
  obtain ⟨P0,hP0⟩:∃ P:World→Value→Prop,P=fun W v=>∃ zs11 zp11 zn11 zc11 zX11 zq11 zm11 zd11,v=.agg #[.bool zs11,.slice zp11 zn11 zc11,.bool false,.slice zq11 zm11 zd11]∧zn11≤zc11∧zn11≤35184372088000∧zm11≤zd11∧zm11≤35184372088000∧Seg W zp11 zX11 zn11∧Seg W zq11 (rd Y0) zm11∧sg zs11 zX11=rn s0 X0 Y0:=⟨_,rfl⟩
  have P0_b:∀ {W W':World} {v:Value},Below W.heap.size W W'→P0 W v→P0 W' v:=fun {W W' v} hb h=>by
   rw [hP0] at h ⊢
   obtain ⟨zs11,zp11,zn11,zc11,zX11,zq11,zm11,zd11,e,ga11,gb11,gc11,gd11,kS11,kT11,ge11⟩:=h
   exact ⟨zs11,zp11,zn11,zc11,zX11,zq11,zm11,zd11,e,ga11,gb11,gc11,gd11,kS11.later hb,kT11.later hb,ge11⟩
  have GC0:∀ W':World,Below w0.heap.size w0 W'→Calls Tryz.prog 79 #[va0] W' fun e w'=>∃ v,e=.returned v∧Below W'.heap.size W' w'∧P0 w' v:=fun W' hb=>by
   have hX:=hBW.trans (hb.mono hBW.size)
   refine (HR0.out _ (sb hS0 hB hX) (sb hT0 hB hX)).mono ?_
   rintro e W2 ⟨zs11,zp11,zn11,zc11,zX11,zq11,zm11,zd11,rfl,ga11,gb11,gc11,gd11,kS11,kT11,ge11,bb11⟩
   exact ⟨_,rfl,bb11,by rw [hP0];exact ⟨zs11,zp11,zn11,zc11,zX11,zq11,zm11,zd11,rfl,ga11,gb11,gc11,gd11,kS11,kT11,ge11⟩⟩
  obtain ⟨va1,hva1⟩:∃ v,Value.agg #[.bool s1,.slice a1 n1 c1,.slice b1 m1 d1]=v:=⟨_,rfl⟩
  rw [hva1] at HR1 ⊢
  obtain ⟨P1,hP1⟩:∃ P:World→Value→Prop,P=fun W v=>∃ zs12 zp12 zn12 zc12 zX12 zq12 zm12 zd12,v=.agg #[.bool zs12,.slice zp12 zn12 zc12,.bool false,.slice zq12 zm12 zd12]∧zn12≤zc12∧zn12≤35184372088000∧zm12≤zd12∧zm12≤35184372088000∧Seg W zp12 zX12 zn12∧Seg W zq12 (rd Y1) zm12∧sg zs12 zX12=rn s1 X1 Y1:=⟨_,rfl⟩
  have P1_b:∀ {W W':World} {v:Value},Below W.heap.size W W'→P1 W v→P1 W' v:=fun {W W' v} hb h=>by
   rw [hP1] at h ⊢
   obtain ⟨zs12,zp12,zn12,zc12,zX12,zq12,zm12,zd12,e,ga12,gb12,gc12,gd12,kS12,kT12,ge12⟩:=h
   exact ⟨zs12,zp12,zn12,zc12,zX12,zq12,zm12,zd12,e,ga12,gb12,gc12,gd12,kS12.later hb,kT12.later hb,ge12⟩
  have GC1:∀ W':World,Below w0.heap.size w0 W'→Calls Tryz.prog 79 #[va1] W' fun e w'=>∃ v,e=.returned v∧Below W'.heap.size W' w'∧P1 w' v:=fun W' hb=>by
   have hX:=hBW.trans (hb.mono hBW.size)
   refine (HR1.out _ (sb hS1 hB hX) (sb hT1 hB hX)).mono ?_
   rintro e W2 ⟨zs12,zp12,zn12,zc12,zX12,zq12,zm12,zd12,rfl,ga12,gb12,gc12,gd12,kS12,kT12,ge12,bb12⟩
   exact ⟨_,rfl,bb12,by rw [hP1];exact ⟨zs12,zp12,zn12,zc12,zX12,zq12,zm12,zd12,rfl,ga12,gb12,gc12,gd12,kS12,kT12,ge12⟩⟩
  have bZ:Below w0.heap.size w0 w0:=Below.refl _ _
  refine nameH w0.heap.size (fun W1 W2 hb h=>(⟨below_cell hb h.1,below_cell hb h.2.1,below_cell hb h.2.2.1,below_cell hb h.2.2.2.1,below_cell hb h.2.2.2.2.1,below_cell hb h.2.2.2.2.2.1,h.2.2.2.2.2.2.trans (hb.mono h.2.2.2.2.2.2.size)⟩:_∧_∧_∧_∧_∧_∧_)) (fun W1 W2 c hg hk h=>(⟨cellsT hk (by omega) h.1,cellsT hk (by omega) h.2.1,cellsT hk (by omega) h.2.2.1,cellsT hk (by omega) h.2.2.2.1,cellsT hk (by omega) h.2.2.2.2.1,cellsT hk (by omega) h.2.2.2.2.2.1,h.2.2.2.2.2.2.trans (hk.below (by omega))⟩:_∧_∧_∧_∧_∧_∧_)) ?_
  intro G SS F hG hS0 hSB hSC hF
  replace hHeld:=hS0 _ hHeld
  clear hS0
  obtain ⟨z0V,hz0V⟩:∃ z:Array Value,#[.bool false,.slice none 0 0,.bool false,.slice none 0 0]=z:=⟨_,rfl⟩
  have b0V:∀ W:World,Below W.heap.size W (W.alloc (.cells z0V 85)):=fun W=>below_alloc _
  have st2cd:∀ (WW:World) (v0 v1:Value) (cc cd:Nat),P0 WW v0→P1 WW v1→Vb w0.heap.size z0V 85 WW cc→Vb w0.heap.size z0V 85 WW cd→cc≠cd→Below w0.heap.size w0 WW→SS WW→G 2 #[true,true,true,true,true,true,false,false] (F [(8,v0),(10,v1),(5,.pointer (some ⟨cc,0,none⟩)),(6,.pointer (some ⟨cd,0,none⟩))]) WW:=by
   intro WW v0 v1 cc cd k0 k1 qc qd ncd bT hH
   rw [hF]
   simp only [List.foldl_cons,List.foldl_nil,List.setIfInBounds_toArray,List.set_cons_zero,List.set_cons_succ]
   refine (hG _ _ _ _).2 ?_
   rw [hP0] at k0
   obtain ⟨zs11,zp11,zn11,zc11,zX11,zq11,zm11,zd11,rfl,ga11,gb11,gc11,gd11,kS11,kT11,ge11⟩:=k0
   rw [hP1] at k1
   obtain ⟨zs12,zp12,zn12,zc12,zX12,zq12,zm12,zd12,rfl,ga12,gb12,gc12,gd12,kS12,kT12,ge12⟩:=k1
   obtain ⟨qc,lcge⟩:=qc
   obtain ⟨qd,ldge⟩:=qd
   subst hva0 hva1 hz0V
   refine wpAnyH_ready (rs:=[6]) (by kernel_rfl) (by simp) ?_
   refine cons' rfl (fun KK hKK=>?_)
   have z0:=qc.cell 0
   have z1:=qc.cell 1
   have z2:=qc.cell 2
   have z3:=qc.cell 3
   simp only [List.getElem?_toArray,List.getElem?_cons_zero,List.getElem?_cons_succ] at z0 z1 z2 z3
   have fz:=fun o=>qc.frozen o
   obtain ⟨c9,q9⟩:=qc.set4 (.bool zs11) (.slice zp11 zn11 zc11) (.bool false) (.slice zq11 zm11 zd11)
   have hno:=qc.no (by simp)
   replace kS11:=kS11.ch c9 hno
   replace kT11:=kT11.ch c9 hno
   replace kS12:=kS12.ch c9 hno
   replace kT12:=kT12.ch c9 hno
   replace qd:=qd.ch c9 (by omega)
   replace bT:=bT.trans (c9.below lcge)
   replace hH:=hSC _ _ _ lcge c9 hH
   go_simp
   clear z0 z1 z2 z3 fz hno c9
   replace qc:=q9
   refine hKK.out _ _ hH ?_
   intro _
   clear hKK KK
   try simp only [pP,pN,pS,pZ,pC]
   generalize ((((WW.setCell ⟨cc,0,none⟩ (.bool zs11)).setCell ⟨cc,1,none⟩ (.slice zp11 zn11 zc11)).setCell ⟨cc,2,none⟩ (.bool false)).setCell ⟨cc,3,none⟩ (.slice zq11 zm11 zd11))=wLc at kS11 kT11 kS12 kT12 qc qd bT hH ⊢
   refine wpAnyH_ready (rs:=[7]) (by kernel_rfl) (by simp) ?_
   refine cons' rfl (fun KK hKK=>?_)
   have z0:=qd.cell 0
   have z1:=qd.cell 1
   have z2:=qd.cell 2
   have z3:=qd.cell 3
   simp only [List.getElem?_toArray,List.getElem?_cons_zero,List.getElem?_cons_succ] at z0 z1 z2 z3
   have fz:=fun o=>qd.frozen o
   obtain ⟨c9,q9⟩:=qd.set4 (.bool zs12) (.slice zp12 zn12 zc12) (.bool false) (.slice zq12 zm12 zd12)
   have hno:=qd.no (by simp)
   replace kS11:=kS11.ch c9 hno
   replace kT11:=kT11.ch c9 hno
   replace kS12:=kS12.ch c9 hno
   replace kT12:=kT12.ch c9 hno
   replace qc:=qc.ch c9 (by omega)
   replace bT:=bT.trans (c9.below ldge)
   replace hH:=hSC _ _ _ ldge c9 hH
   go_simp
   clear z0 z1 z2 z3 fz hno c9
   replace qd:=q9
   refine hKK.out _ _ hH ?_
   intro _
   clear hKK KK
   try simp only [pP,pN,pS,pZ,pC]
   generalize ((((wLc.setCell ⟨cd,0,none⟩ (.bool zs12)).setCell ⟨cd,1,none⟩ (.slice zp12 zn12 zc12)).setCell ⟨cd,2,none⟩ (.bool false)).setCell ⟨cd,3,none⟩ (.slice zq12 zm12 zd12))=wLd at kS11 kT11 kS12 kT12 qc qd bT hH ⊢
   refine wpAnyH_done (by kernel_rfl) ?_ _
   have lc0:=qc.cell 0
   have lc1:=qc.cell 1
   have lc2:=qc.cell 2
   have lc3:=qc.cell 3
   have ld0:=qd.cell 0
   have ld1:=qd.cell 1
   have ld2:=qd.cell 2
   have ld3:=qd.cell 3
   simp only [List.getElem?_toArray,List.getElem?_cons_zero,List.getElem?_cons_succ] at lc0 lc1 lc2 lc3 ld0 ld1 ld2 ld3
   replace lcge:=Nat.le_trans hs0 lcge
   replace ldge:=Nat.le_trans hs0 ldge
   have hBW:=hBW.trans (bT.mono hs0)
   go_wp2_with fail
   go_meet
   exact ⟨cc,cd,zs11,zp11,zn11,zc11,zX11,zq11,zm11,zd11,zs12,zp12,zn12,zc12,zX12,zq12,zm12,zd12,rfl,rfl,lcge,ldge,hBW,lc0,lc1,lc2,lc3,ld0,ld1,ld2,ld3,ga11,gb11,gc11,gd11,kS11,kT11,ge11,ga12,gb12,gc12,gd12,kS12,kT12,ge12⟩
  have st2c:∀ (WW:World) (v0 v1:Value) (cc:Nat),P0 WW v0→P1 WW v1→Vb w0.heap.size z0V 85 WW cc→Below w0.heap.size w0 WW→SS WW→G 3 #[true,true,true,true,true,false,false,false] (F [(8,v0),(10,v1),(5,.pointer (some ⟨cc,0,none⟩))]) WW:=by
   intro WW v0 v1 cc k0 k1 qc bT hH
   rw [hF]
   simp only [List.foldl_cons,List.foldl_nil,List.setIfInBounds_toArray,List.set_cons_zero,List.set_cons_succ]
   refine (hG _ _ _ _).2 ?_
   refine wpAnyH_ready (rs:=[5]) (by kernel_rfl) (by simp) ?_
   refine consT rfl (fun KK hKK=>?_) ?_
   ·go_simp
    try rw [hz0V]
    refine hKK.out _ _ (hSB _ _ (b0V WW) hH) ?_
    intro _
    try simp only [pP,pN,pS,pZ,pC]
    exact (hG _ _ _ _).1 (Geq (by kernel_rfl) (by kernel_rfl) (by rw [hF];kernel_rfl) (st2cd _ v0 v1 cc WW.heap.size (P0_b (b0V WW) k0) (P1_b (b0V WW) k1) (qc.later (b0V WW)) (Vb.new _ _ bT (Nat.le_refl _)) (Nat.ne_of_lt qc.1.lt) (blw bT (b0V WW)) (hSB _ _ (b0V WW) hH)))
   exact AllReadyH.nil
  have st2d:∀ (WW:World) (v0 v1:Value) (cd:Nat),P0 WW v0→P1 WW v1→Vb w0.heap.size z0V 85 WW cd→Below w0.heap.size w0 WW→SS WW→G 3 #[true,true,true,true,false,true,false,false] (F [(8,v0),(10,v1),(6,.pointer (some ⟨cd,0,none⟩))]) WW:=by
   intro WW v0 v1 cd k0 k1 qd bT hH
   rw [hF]
   simp only [List.foldl_cons,List.foldl_nil,List.setIfInBounds_toArray,List.set_cons_zero,List.set_cons_succ]
   refine (hG _ _ _ _).2 ?_
   refine wpAnyH_ready (rs:=[4]) (by kernel_rfl) (by simp) ?_
   refine consT rfl (fun KK hKK=>?_) ?_
   ·go_simp
    try rw [hz0V]
    refine hKK.out _ _ (hSB _ _ (b0V WW) hH) ?_
    intro _
    try simp only [pP,pN,pS,pZ,pC]
    exact (hG _ _ _ _).1 (Geq (by kernel_rfl) (by kernel_rfl) (by rw [hF];kernel_rfl) (st2cd _ v0 v1 WW.heap.size cd (P0_b (b0V WW) k0) (P1_b (b0V WW) k1) (Vb.new _ _ bT (Nat.le_refl _)) (qd.later (b0V WW)) (Nat.ne_of_gt qd.1.lt) (blw bT (b0V WW)) (hSB _ _ (b0V WW) hH)))
   exact AllReadyH.nil
  have st2:∀ (WW:World) (v0 v1:Value),P0 WW v0→P1 WW v1→Below w0.heap.size w0 WW→SS WW→G 4 #[true,true,true,true,false,false,false,false] (F [(8,v0),(10,v1)]) WW:=by
   intro WW v0 v1 k0 k1 bT hH
   rw [hF]
   simp only [List.foldl_cons,List.foldl_nil,List.setIfInBounds_toArray,List.set_cons_zero,List.set_cons_succ]
   refine (hG _ _ _ _).2 ?_
   refine wpAnyH_ready (rs:=[4,5]) (by kernel_rfl) (by simp) ?_
   refine consT rfl (fun KK hKK=>?_) ?_
   ·go_simp
    try rw [hz0V]
    refine hKK.out _ _ (hSB _ _ (b0V WW) hH) ?_
    intro _
    try simp only [pP,pN,pS,pZ,pC]
    exact (hG _ _ _ _).1 (Geq (by kernel_rfl) (by kernel_rfl) (by rw [hF];kernel_rfl) (st2c _ v0 v1 WW.heap.size (P0_b (b0V WW) k0) (P1_b (b0V WW) k1) (Vb.new _ _ bT (Nat.le_refl _)) (blw bT (b0V WW)) (hSB _ _ (b0V WW) hH)))
   refine consT rfl (fun KK hKK=>?_) ?_
   ·go_simp
    try rw [hz0V]
    refine hKK.out _ _ (hSB _ _ (b0V WW) hH) ?_
    intro _
    try simp only [pP,pN,pS,pZ,pC]
    exact (hG _ _ _ _).1 (Geq (by kernel_rfl) (by kernel_rfl) (by rw [hF];kernel_rfl) (st2d _ v0 v1 WW.heap.size (P0_b (b0V WW) k0) (P1_b (b0V WW) k1) (Vb.new _ _ bT (Nat.le_refl _)) (blw bT (b0V WW)) (hSB _ _ (b0V WW) hH)))
   exact AllReadyH.nil
  have st1cd:∀ (WW:World) (v0:Value) (cc cd:Nat),P0 WW v0→Vb w0.heap.size z0V 85 WW cc→Vb w0.heap.size z0V 85 WW cd→cc≠cd→Below w0.heap.size w0 WW→SS WW→G 3 #[true,true,true,false,true,true,false,false] (F [(8,v0),(5,.pointer (some ⟨cc,0,none⟩)),(6,.pointer (some ⟨cd,0,none⟩))]) WW:=by
   intro WW v0 cc cd k0 qc qd ncd bT hH
   rw [hF]
   simp only [List.foldl_cons,List.foldl_nil,List.setIfInBounds_toArray,List.set_cons_zero,List.set_cons_succ]
   refine (hG _ _ _ _).2 ?_
   refine wpAnyH_ready (rs:=[3]) (by kernel_rfl) (by simp) ?_
   refine consT rfl (fun KK hKK=>?_) ?_
   ·go_simp
    refine (GC1 _ bT).mono ?_
    rintro e W2 ⟨v1,rfl,bC,k1⟩
    go_wp2_with fail
    refine hKK.out _ _ (hSB _ _ bC hH) ?_
    intro _
    try simp only [pP,pN,pS,pZ,pC]
    exact (hG _ _ _ _).1 (Geq (by kernel_rfl) (by kernel_rfl) (by rw [hF];kernel_rfl) (st2cd W2 v0 v1 cc cd (P0_b bC k0) k1 (qc.later bC) (qd.later bC) ncd (blw bT bC) (hSB _ _ bC hH)))
   exact AllReadyH.nil
  have st1c:∀ (WW:World) (v0:Value) (cc:Nat),P0 WW v0→Vb w0.heap.size z0V 85 WW cc→Below w0.heap.size w0 WW→SS WW→G 4 #[true,true,true,false,true,false,false,false] (F [(8,v0),(5,.pointer (some ⟨cc,0,none⟩))]) WW:=by
   intro WW v0 cc k0 qc bT hH
   rw [hF]
   simp only [List.foldl_cons,List.foldl_nil,List.setIfInBounds_toArray,List.set_cons_zero,List.set_cons_succ]
   refine (hG _ _ _ _).2 ?_
   refine wpAnyH_ready (rs:=[3,5]) (by kernel_rfl) (by simp) ?_
   refine consT rfl (fun KK hKK=>?_) ?_
   ·go_simp
    refine (GC1 _ bT).mono ?_
    rintro e W2 ⟨v1,rfl,bC,k1⟩
    go_wp2_with fail
    refine hKK.out _ _ (hSB _ _ bC hH) ?_
    intro _
    try simp only [pP,pN,pS,pZ,pC]
    exact (hG _ _ _ _).1 (Geq (by kernel_rfl) (by kernel_rfl) (by rw [hF];kernel_rfl) (st2c W2 v0 v1 cc (P0_b bC k0) k1 (qc.later bC) (blw bT bC) (hSB _ _ bC hH)))
   refine consT rfl (fun KK hKK=>?_) ?_
   ·go_simp
    try rw [hz0V]
    refine hKK.out _ _ (hSB _ _ (b0V WW) hH) ?_
    intro _
    try simp only [pP,pN,pS,pZ,pC]
    exact (hG _ _ _ _).1 (Geq (by kernel_rfl) (by kernel_rfl) (by rw [hF];kernel_rfl) (st1cd _ v0 cc WW.heap.size (P0_b (b0V WW) k0) (qc.later (b0V WW)) (Vb.new _ _ bT (Nat.le_refl _)) (Nat.ne_of_lt qc.1.lt) (blw bT (b0V WW)) (hSB _ _ (b0V WW) hH)))
   exact AllReadyH.nil
  have st1d:∀ (WW:World) (v0:Value) (cd:Nat),P0 WW v0→Vb w0.heap.size z0V 85 WW cd→Below w0.heap.size w0 WW→SS WW→G 4 #[true,true,true,false,false,true,false,false] (F [(8,v0),(6,.pointer (some ⟨cd,0,none⟩))]) WW:=by
   intro WW v0 cd k0 qd bT hH
   rw [hF]
   simp only [List.foldl_cons,List.foldl_nil,List.setIfInBounds_toArray,List.set_cons_zero,List.set_cons_succ]
   refine (hG _ _ _ _).2 ?_
   refine wpAnyH_ready (rs:=[3,4]) (by kernel_rfl) (by simp) ?_
   refine consT rfl (fun KK hKK=>?_) ?_
   ·go_simp
    refine (GC1 _ bT).mono ?_
    rintro e W2 ⟨v1,rfl,bC,k1⟩
    go_wp2_with fail
    refine hKK.out _ _ (hSB _ _ bC hH) ?_
    intro _
    try simp only [pP,pN,pS,pZ,pC]
    exact (hG _ _ _ _).1 (Geq (by kernel_rfl) (by kernel_rfl) (by rw [hF];kernel_rfl) (st2d W2 v0 v1 cd (P0_b bC k0) k1 (qd.later bC) (blw bT bC) (hSB _ _ bC hH)))
   refine consT rfl (fun KK hKK=>?_) ?_
   ·go_simp
    try rw [hz0V]
    refine hKK.out _ _ (hSB _ _ (b0V WW) hH) ?_
    intro _
    try simp only [pP,pN,pS,pZ,pC]
    exact (hG _ _ _ _).1 (Geq (by kernel_rfl) (by kernel_rfl) (by rw [hF];kernel_rfl) (st1cd _ v0 WW.heap.size cd (P0_b (b0V WW) k0) (Vb.new _ _ bT (Nat.le_refl _)) (qd.later (b0V WW)) (Nat.ne_of_gt qd.1.lt) (blw bT (b0V WW)) (hSB _ _ (b0V WW) hH)))
   exact AllReadyH.nil
  have st1:∀ (WW:World) (v0:Value),P0 WW v0→Below w0.heap.size w0 WW→SS WW→G 5 #[true,true,true,false,false,false,false,false] (F [(8,v0)]) WW:=by
   intro WW v0 k0 bT hH
   rw [hF]
   simp only [List.foldl_cons,List.foldl_nil,List.setIfInBounds_toArray,List.set_cons_zero,List.set_cons_succ]
   refine (hG _ _ _ _).2 ?_
   refine wpAnyH_ready (rs:=[3,4,5]) (by kernel_rfl) (by simp) ?_
   refine consT rfl (fun KK hKK=>?_) ?_
   ·go_simp
    refine (GC1 _ bT).mono ?_
    rintro e W2 ⟨v1,rfl,bC,k1⟩
    go_wp2_with fail
    refine hKK.out _ _ (hSB _ _ bC hH) ?_
    intro _
    try simp only [pP,pN,pS,pZ,pC]
    exact (hG _ _ _ _).1 (Geq (by kernel_rfl) (by kernel_rfl) (by rw [hF];kernel_rfl) (st2 W2 v0 v1 (P0_b bC k0) k1 (blw bT bC) (hSB _ _ bC hH)))
   refine consT rfl (fun KK hKK=>?_) ?_
   ·go_simp
    try rw [hz0V]
    refine hKK.out _ _ (hSB _ _ (b0V WW) hH) ?_
    intro _
    try simp only [pP,pN,pS,pZ,pC]
    exact (hG _ _ _ _).1 (Geq (by kernel_rfl) (by kernel_rfl) (by rw [hF];kernel_rfl) (st1c _ v0 WW.heap.size (P0_b (b0V WW) k0) (Vb.new _ _ bT (Nat.le_refl _)) (blw bT (b0V WW)) (hSB _ _ (b0V WW) hH)))
   refine consT rfl (fun KK hKK=>?_) ?_
   ·go_simp
    try rw [hz0V]
    refine hKK.out _ _ (hSB _ _ (b0V WW) hH) ?_
    intro _
    try simp only [pP,pN,pS,pZ,pC]
    exact (hG _ _ _ _).1 (Geq (by kernel_rfl) (by kernel_rfl) (by rw [hF];kernel_rfl) (st1d _ v0 WW.heap.size (P0_b (b0V WW) k0) (Vb.new _ _ bT (Nat.le_refl _)) (blw bT (b0V WW)) (hSB _ _ (b0V WW) hH)))
   exact AllReadyH.nil
  have st0cd:∀ (WW:World) (cc cd:Nat),Vb w0.heap.size z0V 85 WW cc→Vb w0.heap.size z0V 85 WW cd→cc≠cd→Below w0.heap.size w0 WW→SS WW→G 4 #[true,false,true,false,true,true,false,false] (F [(5,.pointer (some ⟨cc,0,none⟩)),(6,.pointer (some ⟨cd,0,none⟩))]) WW:=by
   intro WW cc cd qc qd ncd bT hH
   rw [hF]
   simp only [List.foldl_cons,List.foldl_nil,List.setIfInBounds_toArray,List.set_cons_zero,List.set_cons_succ]
   refine (hG _ _ _ _).2 ?_
   refine wpAnyH_ready (rs:=[1]) (by kernel_rfl) (by simp) ?_
   refine consT rfl (fun KK hKK=>?_) ?_
   ·go_simp
    refine (GC0 _ bT).mono ?_
    rintro e W2 ⟨v0,rfl,bC,k0⟩
    go_wp2_with fail
    refine hKK.out _ _ (hSB _ _ bC hH) ?_
    intro _
    try simp only [pP,pN,pS,pZ,pC]
    exact (hG _ _ _ _).1 (Geq (by kernel_rfl) (by kernel_rfl) (by rw [hF];kernel_rfl) (st1cd W2 v0 cc cd k0 (qc.later bC) (qd.later bC) ncd (blw bT bC) (hSB _ _ bC hH)))
   exact AllReadyH.nil
  have st0c:∀ (WW:World) (cc:Nat),Vb w0.heap.size z0V 85 WW cc→Below w0.heap.size w0 WW→SS WW→G 5 #[true,false,true,false,true,false,false,false] (F [(5,.pointer (some ⟨cc,0,none⟩))]) WW:=by
   intro WW cc qc bT hH
   rw [hF]
   simp only [List.foldl_cons,List.foldl_nil,List.setIfInBounds_toArray,List.set_cons_zero,List.set_cons_succ]
   refine (hG _ _ _ _).2 ?_
   refine wpAnyH_ready (rs:=[1,5]) (by kernel_rfl) (by simp) ?_
   refine consT rfl (fun KK hKK=>?_) ?_
   ·go_simp
    refine (GC0 _ bT).mono ?_
    rintro e W2 ⟨v0,rfl,bC,k0⟩
    go_wp2_with fail
    refine hKK.out _ _ (hSB _ _ bC hH) ?_
    intro _
    try simp only [pP,pN,pS,pZ,pC]
    exact (hG _ _ _ _).1 (Geq (by kernel_rfl) (by kernel_rfl) (by rw [hF];kernel_rfl) (st1c W2 v0 cc k0 (qc.later bC) (blw bT bC) (hSB _ _ bC hH)))
   refine consT rfl (fun KK hKK=>?_) ?_
   ·go_simp
    try rw [hz0V]
    refine hKK.out _ _ (hSB _ _ (b0V WW) hH) ?_
    intro _
    try simp only [pP,pN,pS,pZ,pC]
    exact (hG _ _ _ _).1 (Geq (by kernel_rfl) (by kernel_rfl) (by rw [hF];kernel_rfl) (st0cd _ cc WW.heap.size (qc.later (b0V WW)) (Vb.new _ _ bT (Nat.le_refl _)) (Nat.ne_of_lt qc.1.lt) (blw bT (b0V WW)) (hSB _ _ (b0V WW) hH)))
   exact AllReadyH.nil
  have st0d:∀ (WW:World) (cd:Nat),Vb w0.heap.size z0V 85 WW cd→Below w0.heap.size w0 WW→SS WW→G 5 #[true,false,true,false,false,true,false,false] (F [(6,.pointer (some ⟨cd,0,none⟩))]) WW:=by
   intro WW cd qd bT hH
   rw [hF]
   simp only [List.foldl_cons,List.foldl_nil,List.setIfInBounds_toArray,List.set_cons_zero,List.set_cons_succ]
   refine (hG _ _ _ _).2 ?_
   refine wpAnyH_ready (rs:=[1,4]) (by kernel_rfl) (by simp) ?_
   refine consT rfl (fun KK hKK=>?_) ?_
   ·go_simp
    refine (GC0 _ bT).mono ?_
    rintro e W2 ⟨v0,rfl,bC,k0⟩
    go_wp2_with fail
    refine hKK.out _ _ (hSB _ _ bC hH) ?_
    intro _
    try simp only [pP,pN,pS,pZ,pC]
    exact (hG _ _ _ _).1 (Geq (by kernel_rfl) (by kernel_rfl) (by rw [hF];kernel_rfl) (st1d W2 v0 cd k0 (qd.later bC) (blw bT bC) (hSB _ _ bC hH)))
   refine consT rfl (fun KK hKK=>?_) ?_
   ·go_simp
    try rw [hz0V]
    refine hKK.out _ _ (hSB _ _ (b0V WW) hH) ?_
    intro _
    try simp only [pP,pN,pS,pZ,pC]
    exact (hG _ _ _ _).1 (Geq (by kernel_rfl) (by kernel_rfl) (by rw [hF];kernel_rfl) (st0cd _ WW.heap.size cd (Vb.new _ _ bT (Nat.le_refl _)) (qd.later (b0V WW)) (Nat.ne_of_gt qd.1.lt) (blw bT (b0V WW)) (hSB _ _ (b0V WW) hH)))
   exact AllReadyH.nil
  have st0:∀ (WW:World),Below w0.heap.size w0 WW→SS WW→G 6 #[true,false,true,false,false,false,false,false] (F []) WW:=by
   intro WW bT hH
   rw [hF]
   simp only [List.foldl_cons,List.foldl_nil,List.setIfInBounds_toArray,List.set_cons_zero,List.set_cons_succ]
   refine (hG _ _ _ _).2 ?_
   refine wpAnyH_ready (rs:=[1,4,5]) (by kernel_rfl) (by simp) ?_
   refine consT rfl (fun KK hKK=>?_) ?_
   ·go_simp
    refine (GC0 _ bT).mono ?_
    rintro e W2 ⟨v0,rfl,bC,k0⟩
    go_wp2_with fail
    refine hKK.out _ _ (hSB _ _ bC hH) ?_
    intro _
    try simp only [pP,pN,pS,pZ,pC]
    exact (hG _ _ _ _).1 (Geq (by kernel_rfl) (by kernel_rfl) (by rw [hF];kernel_rfl) (st1 W2 v0 k0 (blw bT bC) (hSB _ _ bC hH)))
   refine consT rfl (fun KK hKK=>?_) ?_
   ·go_simp
    try rw [hz0V]
    refine hKK.out _ _ (hSB _ _ (b0V WW) hH) ?_
    intro _
    try simp only [pP,pN,pS,pZ,pC]
    exact (hG _ _ _ _).1 (Geq (by kernel_rfl) (by kernel_rfl) (by rw [hF];kernel_rfl) (st0c _ WW.heap.size (Vb.new _ _ bT (Nat.le_refl _)) (blw bT (b0V WW)) (hSB _ _ (b0V WW) hH)))
   refine consT rfl (fun KK hKK=>?_) ?_
   ·go_simp
    try rw [hz0V]
    refine hKK.out _ _ (hSB _ _ (b0V WW) hH) ?_
    intro _
    try simp only [pP,pN,pS,pZ,pC]
    exact (hG _ _ _ _).1 (Geq (by kernel_rfl) (by kernel_rfl) (by rw [hF];kernel_rfl) (st0d _ WW.heap.size (Vb.new _ _ bT (Nat.le_refl _)) (blw bT (b0V WW)) (hSB _ _ (b0V WW) hH)))
   exact AllReadyH.nil
  exact Geq (by kernel_rfl) (by kernel_rfl) (by rw [hF];kernel_rfl) (st0 _ bZ hHeld)
 case rest =>
 clear hBW HR0 HR1
 obtain ⟨c,d,zs11,zp11,zn11,zc11,zX11,zq11,zm11,zd11,zs12,zp12,zn12,zc12,zX12,zq12,zm12,zd12,rfl,rfl,lcge,ldge,hBW,lc0,lc1,lc2,lc3,ld0,ld1,ld2,ld3,ga11,gb11,gc11,gd11,kS11,kT11,ge11,ga12,gb12,gc12,gd12,kS12,kT12,ge12⟩:=hcut
 replace q00:=below_cell hBW q00
 replace q01:=below_cell hBW q01
 replace q02:=below_cell hBW q02
 replace q10:=below_cell hBW q10
 replace q11:=below_cell hBW q11
 replace q12:=below_cell hBW q12
 replace r00:=below_cell hBW r00
 replace r01:=below_cell hBW r01
 replace r02:=below_cell hBW r02
 replace hR0:=below_row hBW hR0
 have hp:sg zs11 zX11*sg zs12 zX12=P:=by rw [ge11,ge12];exact HP.out
 go_wp2_with fail
 replace hBW:=hBW.drew
 replace kS11:=kS11.drew
 replace kT11:=kT11.drew
 replace kS12:=kS12.drew
 replace kT12:=kT12.drew
 first
  | go_region_held3 (fun w'=>w'.cell? ⟨c,0,none⟩=some (.bool zs11)∧w'.cell? ⟨c,1,none⟩=some (.slice zp11 zn11 zc11)∧w'.cell? ⟨c,2,none⟩=some (.bool false)∧w'.cell? ⟨c,3,none⟩=some (.slice zq11 zm11 zd11)∧w'.cell? ⟨d,0,none⟩=some (.bool zs12)∧w'.cell? ⟨d,1,none⟩=some (.slice zp12 zn12 zc12)∧w'.cell? ⟨d,2,none⟩=some (.bool false)∧w'.cell? ⟨d,3,none⟩=some (.slice zq12 zm12 zd12)∧Below w.heap.size w w')
    (first | exact ⟨lc0,lc1,lc2,lc3,ld0,ld1,ld2,ld3,hB.trans (hBW.mono hB.size)⟩ | exact kp8 b21 (by assumption) | exact kp8 b22 (by assumption) | exact kp8 b23 (by assumption) | exact kp8 (below_alloc _) (by assumption) | exact kp8 (below_alloc _) ⟨lc0,lc1,lc2,lc3,ld0,ld1,ld2,ld3,hB.trans (hBW.mono hB.size)⟩ | exact kpT8_3 (by assumption) (by omega) (by omega) (by omega) (by omega) (by omega) (by omega) (by omega) (by omega) (by omega))
    (first
     | (go_at_call 82;go_at_call_of 82 (Value.agg #[Value.bool zs11,Value.slice zp11 zn11 zc11]);go_at_call_of 82 (Value.agg #[Value.bool zs12,Value.slice zp12 zn12 zc12]);refine (wMul_is zs11 zp11 zn11 zc11 zX11 zs12 zp12 zn12 zc12 zX12 P _ ga11 (by omega) kS11 ga12 (by omega) kS12 hp).mono ?_;rintro e w21 ⟨a21,rfl,h1⟩;have b21:=h1.below;replace h1:=h1.back hBW;replace hBW:=hBW.trans (b21.mono hBW.size);replace q00:=below_cell b21 q00;replace q01:=below_cell b21 q01;replace q02:=below_cell b21 q02;replace q10:=below_cell b21 q10;replace q11:=below_cell b21 q11;replace q12:=below_cell b21 q12;replace r00:=below_cell b21 r00;replace r01:=below_cell b21 r01;replace r02:=below_cell b21 r02;replace lc0:=below_cell b21 lc0;replace lc1:=below_cell b21 lc1;replace lc2:=below_cell b21 lc2;replace lc3:=below_cell b21 lc3;replace ld0:=below_cell b21 ld0;replace ld1:=below_cell b21 ld1;replace ld2:=below_cell b21 ld2;replace ld3:=below_cell b21 ld3;replace hR0:=below_row b21 hR0;replace kS11:=kS11.later b21;replace kT11:=kT11.later b21;replace kS12:=kS12.later b21;replace kT12:=kT12.later b21)
     | (go_at_call 82;go_at_call_of 82 (Value.agg #[Value.bool false,Value.slice zq11 zm11 zd11]);go_at_call_of 82 (Value.agg #[Value.bool false,Value.slice zq12 zm12 zd12]);refine (H4.out _ zq11 zm11 zd11 zq12 zm12 zd12 gc11 gd11 kT11 gc12 gd12 kT12).mono ?_;rintro e w22 ⟨a22,rfl,h2⟩;have b22:=h2.below;replace h2:=h2.back hBW;replace hBW:=hBW.trans (b22.mono hBW.size);replace q00:=below_cell b22 q00;replace q01:=below_cell b22 q01;replace q02:=below_cell b22 q02;replace q10:=below_cell b22 q10;replace q11:=below_cell b22 q11;replace q12:=below_cell b22 q12;replace r00:=below_cell b22 r00;replace r01:=below_cell b22 r01;replace r02:=below_cell b22 r02;replace lc0:=below_cell b22 lc0;replace lc1:=below_cell b22 lc1;replace lc2:=below_cell b22 lc2;replace lc3:=below_cell b22 lc3;replace ld0:=below_cell b22 ld0;replace ld1:=below_cell b22 ld1;replace ld2:=below_cell b22 ld2;replace ld3:=below_cell b22 ld3;replace hR0:=below_row b22 hR0;replace kS11:=kS11.later b22;replace kT11:=kT11.later b22;replace kS12:=kS12.later b22;replace kT12:=kT12.later b22;replace h1:=h1.later b22)
     | (go_at_call 75;(fail_if_success clear b23);refine (H5.out _ a21 a22 h1.seg h2.seg).mono ?_;rintro e w23 ⟨p23,q23,rfl,hp23,hq23,hap23⟩;have b23:=hp23.below;replace hp23:=hp23.back hBW;replace hq23:=hq23.back hBW;replace hBW:=hBW.trans (b23.mono hBW.size);replace q00:=below_cell b23 q00;replace q01:=below_cell b23 q01;replace q02:=below_cell b23 q02;replace q10:=below_cell b23 q10;replace q11:=below_cell b23 q11;replace q12:=below_cell b23 q12;replace r00:=below_cell b23 r00;replace r01:=below_cell b23 r01;replace r02:=below_cell b23 r02;replace lc0:=below_cell b23 lc0;replace lc1:=below_cell b23 lc1;replace lc2:=below_cell b23 lc2;replace lc3:=below_cell b23 lc3;replace ld0:=below_cell b23 ld0;replace ld1:=below_cell b23 ld1;replace ld2:=below_cell b23 ld2;replace ld3:=below_cell b23 ld3;replace hR0:=below_row b23 hR0;replace kS11:=kS11.later b23;replace kT11:=kT11.later b23;replace kS12:=kS12.later b23;replace kT12:=kT12.later b23;replace h1:=h1.later b23;replace h2:=h2.later b23;have fz:=fun o=>hR0.frozen o))
  | fail
 have fz0:=fun o=>hR0.frozen o
 go_wp2
 all_goals refine bodyPost_ret (v:=Value.agg #[Value.bool (ng Z),Value.slice p23 (ln (am Z)) (ln (am Z)),Value.slice q23 (ln V) (ln V)]) (by rw [results_cell rfl];go_simp) rfl ?_
 all_goals exact ⟨p23,q23,rfl,hp23.mid hB (((((Mid.refl _ _ _).set _ _ (by omega) (by omega) _).set _ _ (by omega) (by omega) _).set _ _ (by omega) (by omega) _)),hq23.mid hB (((((Mid.refl _ _ _).set _ _ (by omega) (by omega) _).set _ _ (by omega) (by omega) _).set _ _ (by omega) (by omega) _)),hap23⟩
set_option maxHeartbeats 4000000 in
set_option maxRecDepth 100000 in
theorem dNorm_ap (s0:Bool) (a0:Option Addr) (n0 c0 X0:Nat) (b0:Option Addr) (m0 d0 Y0:Nat) (s1:Bool) (a1:Option Addr) (n1 c1 X1:Nat) (b1:Option Addr) (m1 d1 Y1:Nat) (Z:Int) (V:Nat) (Z2:Int) (V2:Nat) (w:World) (hc0:n0≤c0) (hm0:n0≤35184372088000) (hS0:Seg w a0 X0 n0) (hd0:m0≤d0) (hk0:m0≤35184372088000) (hT0:Seg w b0 Y0 m0) (hc1:n1≤c1) (hm1:n1≤35184372088000) (hS1:Seg w a1 X1 n1) (hd1:m1≤d1) (hk1:m1≤35184372088000) (hT1:Seg w b1 Y1 m1) (hL:Low (rn s0 X0 Y0) (rd Y0:Nat) Z V) (hL2:Low (rn s1 X1 Y1) (rd Y1:Nat) Z2 V2) :
  Calls Tryz.prog 25 #[Value.agg #[Value.bool s0,Value.slice a0 n0 c0,Value.slice b0 m0 d0,Value.bool s1,Value.slice a1 n1 c1,Value.slice b1 m1 d1]] w fun e w'=>∃ p q r t,e=.returned (Value.agg #[Value.bool (ng Z),Value.slice p (ln (am Z)) (ln (am Z)),Value.slice q (ln V) (ln V),Value.bool (ng Z2),Value.slice r (ln (am Z2)) (ln (am Z2)),Value.slice t (ln V2) (ln V2)])∧New w w' p (am Z) (ln (am Z))∧New w w' q V (ln V)∧New w w' r (am Z2) (ln (am Z2))∧New w w' t V2 (ln V2)∧Four p (ln (am Z)) q (ln V) r (ln (am Z2)) t (ln V2):=by
 have HL:=hide' hL
 have HL2:=hide' hL2
 clear hL hL2
 go_enter Tryz.func25,Tryz.ntmps25
 go_wp2_with fail
 obtain ⟨W,hW⟩:∃ W,((w.alloc (.cells #[.bool s0,.slice a0 n0 c0,.slice b0 m0 d0,.bool s1,.slice a1 n1 c1,.slice b1 m1 d1] 29)).alloc (.cells #[.bool false,.slice none 0 0,.slice none 0 0,.bool false,.slice none 0 0,.slice none 0 0] 29))=W:=⟨_,rfl⟩
 have q00:W.cell? ⟨w.heap.size,0,none⟩=some (.bool s0):=by subst hW;go_simp
 have q01:W.cell? ⟨w.heap.size,1,none⟩=some (.slice a0 n0 c0):=by subst hW;go_simp
 have q02:W.cell? ⟨w.heap.size,2,none⟩=some (.slice b0 m0 d0):=by subst hW;go_simp
 have q03:W.cell? ⟨w.heap.size,3,none⟩=some (.bool s1):=by subst hW;go_simp
 have q04:W.cell? ⟨w.heap.size,4,none⟩=some (.slice a1 n1 c1):=by subst hW;go_simp
 have q05:W.cell? ⟨w.heap.size,5,none⟩=some (.slice b1 m1 d1):=by subst hW;go_simp
 have r00:W.cell? ⟨w.heap.size+1,0,none⟩=some (.bool false):=by subst hW;go_simp
 have r01:W.cell? ⟨w.heap.size+1,1,none⟩=some (.slice none 0 0):=by subst hW;go_simp
 have r02:W.cell? ⟨w.heap.size+1,2,none⟩=some (.slice none 0 0):=by subst hW;go_simp
 have r03:W.cell? ⟨w.heap.size+1,3,none⟩=some (.bool false):=by subst hW;go_simp
 have r04:W.cell? ⟨w.heap.size+1,4,none⟩=some (.slice none 0 0):=by subst hW;go_simp
 have r05:W.cell? ⟨w.heap.size+1,5,none⟩=some (.slice none 0 0):=by subst hW;go_simp
 have hB:Below w.heap.size w W:=by subst hW;exact (((Below.refl _ _).alloc (by (try simp only [World.size_alloc]);omega) _).alloc (by (try simp only [World.size_alloc]);omega) _)
 have hR0:Row W (w.heap.size+1):=by
  have:=row_new ((w.alloc (.cells #[.bool s0,.slice a0 n0 c0,.slice b0 m0 d0,.bool s1,.slice a1 n1 c1,.slice b1 m1 d1] 29))) #[.bool false,.slice none 0 0,.slice none 0 0,.bool false,.slice none 0 0,.slice none 0 0] 29
  try simp only [World.size_alloc] at this
  subst hW;exact this
 have hz:W.heap.size=w.heap.size+1+1:=by subst hW;simp only [World.size_alloc]
 rw [hW]
 clear hW
 have hBW:Below W.heap.size W W:=Below.refl _ _
 replace hBW:=hBW.drew
 first
  | go_region_held3 (fun w'=>w'.cell? ⟨w.heap.size,0,none⟩=some (.bool s0)∧w'.cell? ⟨w.heap.size,1,none⟩=some (.slice a0 n0 c0)∧w'.cell? ⟨w.heap.size,2,none⟩=some (.slice b0 m0 d0)∧w'.cell? ⟨w.heap.size,3,none⟩=some (.bool s1)∧w'.cell? ⟨w.heap.size,4,none⟩=some (.slice a1 n1 c1)∧w'.cell? ⟨w.heap.size,5,none⟩=some (.slice b1 m1 d1)∧Below w.heap.size w w')
    (first | with_reducible exact kpT6_6 (by assumption) (by omega) (by omega) (by omega) (by omega) (by omega) (by omega) (by omega) | exact ⟨q00,q01,q02,q03,q04,q05,hB.trans (hBW.mono hB.size)⟩ | exact kp6 b41 (by assumption) | exact kp6 b42 (by assumption) | exact kp6 (below_alloc _) (by assumption) | exact kp6 (below_alloc _) ⟨q00,q01,q02,q03,q04,q05,hB.trans (hBW.mono hB.size)⟩ | exact kpT6_6 (by assumption) (by omega) (by omega) (by omega) (by omega) (by omega) (by omega) (by omega))
    (first
     | (go_at_call 53;go_at_call_of 53 (Value.agg #[Value.bool s0,Value.slice a0 n0 c0,Value.slice b0 m0 d0]);(fail_if_success clear b41);refine (qNorm_ap s0 a0 n0 c0 X0 b0 m0 d0 Y0 Z V _ hc0 (by omega) (sb hS0 hB hBW) hd0 (by omega) (sb hT0 hB hBW) HL.out).mono ?_;rintro e w41 ⟨p41,q41,rfl,hp41,hq41,hap41⟩;have b41:=hp41.below;(try (have x1:=(ap_two hp42.seg hp41).symm;have x2:=(ap_two hq42.seg hp41).symm;have x3:=(ap_two hp42.seg hq41).symm;have x4:=(ap_two hq42.seg hq41).symm));replace hp41:=hp41.back hBW;replace hq41:=hq41.back hBW;replace hBW:=hBW.trans (b41.mono hBW.size);replace q00:=below_cell b41 q00;replace q01:=below_cell b41 q01;replace q02:=below_cell b41 q02;replace q03:=below_cell b41 q03;replace q04:=below_cell b41 q04;replace q05:=below_cell b41 q05;replace r00:=below_cell b41 r00;replace r01:=below_cell b41 r01;replace r02:=below_cell b41 r02;replace r03:=below_cell b41 r03;replace r04:=below_cell b41 r04;replace r05:=below_cell b41 r05;replace hR0:=below_row b41 hR0)
     | (go_at_call 53;go_at_call_of 53 (Value.agg #[Value.bool s1,Value.slice a1 n1 c1,Value.slice b1 m1 d1]);(fail_if_success clear b42);refine (qNorm_ap s1 a1 n1 c1 X1 b1 m1 d1 Y1 Z2 V2 _ hc1 (by omega) (sb hS1 hB hBW) hd1 (by omega) (sb hT1 hB hBW) HL2.out).mono ?_;rintro e w42 ⟨p42,q42,rfl,hp42,hq42,hap42⟩;have b42:=hp42.below;(try (have x1:=ap_two hp41.seg hp42;have x2:=ap_two hp41.seg hq42;have x3:=ap_two hq41.seg hp42;have x4:=ap_two hq41.seg hq42));replace hp42:=hp42.back hBW;replace hq42:=hq42.back hBW;replace hBW:=hBW.trans (b42.mono hBW.size);replace q00:=below_cell b42 q00;replace q01:=below_cell b42 q01;replace q02:=below_cell b42 q02;replace q03:=below_cell b42 q03;replace q04:=below_cell b42 q04;replace q05:=below_cell b42 q05;replace r00:=below_cell b42 r00;replace r01:=below_cell b42 r01;replace r02:=below_cell b42 r02;replace r03:=below_cell b42 r03;replace r04:=below_cell b42 r04;replace r05:=below_cell b42 r05;replace hR0:=below_row b42 hR0;replace hp41:=hp41.later b42;replace hq41:=hq41.later b42;have fz:=fun o=>hR0.frozen o))
  | fail
 have fz0:=fun o=>hR0.frozen o
 go_wp2
 all_goals refine bodyPost_ret (v:=Value.agg #[Value.bool (ng Z),Value.slice p41 (ln (am Z)) (ln (am Z)),Value.slice q41 (ln V) (ln V),Value.bool (ng Z2),Value.slice p42 (ln (am Z2)) (ln (am Z2)),Value.slice q42 (ln V2) (ln V2)]) (by rw [results_cell rfl];go_simp) rfl ?_
 all_goals exact ⟨p41,q41,p42,q42,rfl,hp41.mid hB ((((((((Mid.refl _ _ _).set _ _ (by omega) (by omega) _).set _ _ (by omega) (by omega) _).set _ _ (by omega) (by omega) _).set _ _ (by omega) (by omega) _).set _ _ (by omega) (by omega) _).set _ _ (by omega) (by omega) _)),hq41.mid hB ((((((((Mid.refl _ _ _).set _ _ (by omega) (by omega) _).set _ _ (by omega) (by omega) _).set _ _ (by omega) (by omega) _).set _ _ (by omega) (by omega) _).set _ _ (by omega) (by omega) _).set _ _ (by omega) (by omega) _)),hp42.mid hB ((((((((Mid.refl _ _ _).set _ _ (by omega) (by omega) _).set _ _ (by omega) (by omega) _).set _ _ (by omega) (by omega) _).set _ _ (by omega) (by omega) _).set _ _ (by omega) (by omega) _).set _ _ (by omega) (by omega) _)),hq42.mid hB ((((((((Mid.refl _ _ _).set _ _ (by omega) (by omega) _).set _ _ (by omega) (by omega) _).set _ _ (by omega) (by omega) _).set _ _ (by omega) (by omega) _).set _ _ (by omega) (by omega) _).set _ _ (by omega) (by omega) _)),hap41,hap42,x1,x2,x3,x4⟩
set_option maxHeartbeats 4000000 in
set_option maxRecDepth 100000 in
theorem dNeg_ap (s0:Bool) (a0:Option Addr) (n0 c0 X0:Nat) (b0:Option Addr) (m0 d0 Y0:Nat) (s1:Bool) (a1:Option Addr) (n1 c1 X1:Nat) (b1:Option Addr) (m1 d1 Y1:Nat) (Z:Int) (V:Nat) (Z2:Int) (V2:Nat) (w:World) (hc0:n0≤c0) (hm0:n0≤35184372088000) (hS0:Seg w a0 X0 n0) (hd0:m0≤d0) (hk0:m0≤35184372088000) (hT0:Seg w b0 Y0 m0) (hc1:n1≤c1) (hm1:n1≤35184372088000) (hS1:Seg w a1 X1 n1) (hd1:m1≤d1) (hk1:m1≤35184372088000) (hT1:Seg w b1 Y1 m1) (hL:Low (-(rn s0 X0 Y0)) (rd Y0:Nat) Z V) (hL2:Low (-(rn s1 X1 Y1)) (rd Y1:Nat) Z2 V2) :
  Calls Tryz.prog 27 #[Value.agg #[Value.bool s0,Value.slice a0 n0 c0,Value.slice b0 m0 d0,Value.bool s1,Value.slice a1 n1 c1,Value.slice b1 m1 d1]] w fun e w'=>∃ p q r t,e=.returned (Value.agg #[Value.bool (ng Z),Value.slice p (ln (am Z)) (ln (am Z)),Value.slice q (ln V) (ln V),Value.bool (ng Z2),Value.slice r (ln (am Z2)) (ln (am Z2)),Value.slice t (ln V2) (ln V2)])∧New w w' p (am Z) (ln (am Z))∧New w w' q V (ln V)∧New w w' r (am Z2) (ln (am Z2))∧New w w' t V2 (ln V2)∧Four p (ln (am Z)) q (ln V) r (ln (am Z2)) t (ln V2):=by
 have HL:=hide' hL
 have HL2:=hide' hL2
 clear hL hL2
 go_enter Tryz.func27,Tryz.ntmps27
 go_wp2_with fail
 obtain ⟨W,hW⟩:∃ W,((w.alloc (.cells #[.bool s0,.slice a0 n0 c0,.slice b0 m0 d0,.bool s1,.slice a1 n1 c1,.slice b1 m1 d1] 29)).alloc (.cells #[.bool false,.slice none 0 0,.slice none 0 0,.bool false,.slice none 0 0,.slice none 0 0] 29))=W:=⟨_,rfl⟩
 have q00:W.cell? ⟨w.heap.size,0,none⟩=some (.bool s0):=by subst hW;go_simp
 have q01:W.cell? ⟨w.heap.size,1,none⟩=some (.slice a0 n0 c0):=by subst hW;go_simp
 have q02:W.cell? ⟨w.heap.size,2,none⟩=some (.slice b0 m0 d0):=by subst hW;go_simp
 have q03:W.cell? ⟨w.heap.size,3,none⟩=some (.bool s1):=by subst hW;go_simp
 have q04:W.cell? ⟨w.heap.size,4,none⟩=some (.slice a1 n1 c1):=by subst hW;go_simp
 have q05:W.cell? ⟨w.heap.size,5,none⟩=some (.slice b1 m1 d1):=by subst hW;go_simp
 have r00:W.cell? ⟨w.heap.size+1,0,none⟩=some (.bool false):=by subst hW;go_simp
 have r01:W.cell? ⟨w.heap.size+1,1,none⟩=some (.slice none 0 0):=by subst hW;go_simp
 have r02:W.cell? ⟨w.heap.size+1,2,none⟩=some (.slice none 0 0):=by subst hW;go_simp
 have r03:W.cell? ⟨w.heap.size+1,3,none⟩=some (.bool false):=by subst hW;go_simp
 have r04:W.cell? ⟨w.heap.size+1,4,none⟩=some (.slice none 0 0):=by subst hW;go_simp
 have r05:W.cell? ⟨w.heap.size+1,5,none⟩=some (.slice none 0 0):=by subst hW;go_simp
 have hB:Below w.heap.size w W:=by subst hW;exact (((Below.refl _ _).alloc (by (try simp only [World.size_alloc]);omega) _).alloc (by (try simp only [World.size_alloc]);omega) _)
 have hR0:Row W (w.heap.size+1):=by
  have:=row_new ((w.alloc (.cells #[.bool s0,.slice a0 n0 c0,.slice b0 m0 d0,.bool s1,.slice a1 n1 c1,.slice b1 m1 d1] 29))) #[.bool false,.slice none 0 0,.slice none 0 0,.bool false,.slice none 0 0,.slice none 0 0] 29
  try simp only [World.size_alloc] at this
  subst hW;exact this
 have hz:W.heap.size=w.heap.size+1+1:=by subst hW;simp only [World.size_alloc]
 rw [hW]
 clear hW
 have hBW:Below W.heap.size W W:=Below.refl _ _
 replace hBW:=hBW.drew
 first
  | go_region_held3 (fun w'=>w'.cell? ⟨w.heap.size,0,none⟩=some (.bool s0)∧w'.cell? ⟨w.heap.size,1,none⟩=some (.slice a0 n0 c0)∧w'.cell? ⟨w.heap.size,2,none⟩=some (.slice b0 m0 d0)∧w'.cell? ⟨w.heap.size,3,none⟩=some (.bool s1)∧w'.cell? ⟨w.heap.size,4,none⟩=some (.slice a1 n1 c1)∧w'.cell? ⟨w.heap.size,5,none⟩=some (.slice b1 m1 d1)∧Below w.heap.size w w')
    (first | with_reducible exact kpT6_6 (by assumption) (by omega) (by omega) (by omega) (by omega) (by omega) (by omega) (by omega) | exact ⟨q00,q01,q02,q03,q04,q05,hB.trans (hBW.mono hB.size)⟩ | exact kp6 b41 (by assumption) | exact kp6 b42 (by assumption) | exact kp6 (below_alloc _) (by assumption) | exact kp6 (below_alloc _) ⟨q00,q01,q02,q03,q04,q05,hB.trans (hBW.mono hB.size)⟩ | exact kpT6_6 (by assumption) (by omega) (by omega) (by omega) (by omega) (by omega) (by omega) (by omega))
    (first
     | (go_at_call 54;go_at_call_of 54 (Value.agg #[Value.bool s0,Value.slice a0 n0 c0,Value.slice b0 m0 d0]);(fail_if_success clear b41);refine (qNeg_ap s0 a0 n0 c0 X0 b0 m0 d0 Y0 Z V _ hc0 (by omega) (sb hS0 hB hBW) hd0 (by omega) (sb hT0 hB hBW) HL.out).mono ?_;rintro e w41 ⟨p41,q41,rfl,hp41,hq41,hap41⟩;have b41:=hp41.below;(try (have x1:=(ap_two hp42.seg hp41).symm;have x2:=(ap_two hq42.seg hp41).symm;have x3:=(ap_two hp42.seg hq41).symm;have x4:=(ap_two hq42.seg hq41).symm));replace hp41:=hp41.back hBW;replace hq41:=hq41.back hBW;replace hBW:=hBW.trans (b41.mono hBW.size);replace q00:=below_cell b41 q00;replace q01:=below_cell b41 q01;replace q02:=below_cell b41 q02;replace q03:=below_cell b41 q03;replace q04:=below_cell b41 q04;replace q05:=below_cell b41 q05;replace r00:=below_cell b41 r00;replace r01:=below_cell b41 r01;replace r02:=below_cell b41 r02;replace r03:=below_cell b41 r03;replace r04:=below_cell b41 r04;replace r05:=below_cell b41 r05;replace hR0:=below_row b41 hR0)
     | (go_at_call 54;go_at_call_of 54 (Value.agg #[Value.bool s1,Value.slice a1 n1 c1,Value.slice b1 m1 d1]);(fail_if_success clear b42);refine (qNeg_ap s1 a1 n1 c1 X1 b1 m1 d1 Y1 Z2 V2 _ hc1 (by omega) (sb hS1 hB hBW) hd1 (by omega) (sb hT1 hB hBW) HL2.out).mono ?_;rintro e w42 ⟨p42,q42,rfl,hp42,hq42,hap42⟩;have b42:=hp42.below;(try (have x1:=ap_two hp41.seg hp42;have x2:=ap_two hp41.seg hq42;have x3:=ap_two hq41.seg hp42;have x4:=ap_two hq41.seg hq42));replace hp42:=hp42.back hBW;replace hq42:=hq42.back hBW;replace hBW:=hBW.trans (b42.mono hBW.size);replace q00:=below_cell b42 q00;replace q01:=below_cell b42 q01;replace q02:=below_cell b42 q02;replace q03:=below_cell b42 q03;replace q04:=below_cell b42 q04;replace q05:=below_cell b42 q05;replace r00:=below_cell b42 r00;replace r01:=below_cell b42 r01;replace r02:=below_cell b42 r02;replace r03:=below_cell b42 r03;replace r04:=below_cell b42 r04;replace r05:=below_cell b42 r05;replace hR0:=below_row b42 hR0;replace hp41:=hp41.later b42;replace hq41:=hq41.later b42;have fz:=fun o=>hR0.frozen o))
  | fail
 have fz0:=fun o=>hR0.frozen o
 go_wp2
 all_goals refine bodyPost_ret (v:=Value.agg #[Value.bool (ng Z),Value.slice p41 (ln (am Z)) (ln (am Z)),Value.slice q41 (ln V) (ln V),Value.bool (ng Z2),Value.slice p42 (ln (am Z2)) (ln (am Z2)),Value.slice q42 (ln V2) (ln V2)]) (by rw [results_cell rfl];go_simp) rfl ?_
 all_goals exact ⟨p41,q41,p42,q42,rfl,hp41.mid hB ((((((((Mid.refl _ _ _).set _ _ (by omega) (by omega) _).set _ _ (by omega) (by omega) _).set _ _ (by omega) (by omega) _).set _ _ (by omega) (by omega) _).set _ _ (by omega) (by omega) _).set _ _ (by omega) (by omega) _)),hq41.mid hB ((((((((Mid.refl _ _ _).set _ _ (by omega) (by omega) _).set _ _ (by omega) (by omega) _).set _ _ (by omega) (by omega) _).set _ _ (by omega) (by omega) _).set _ _ (by omega) (by omega) _).set _ _ (by omega) (by omega) _)),hp42.mid hB ((((((((Mid.refl _ _ _).set _ _ (by omega) (by omega) _).set _ _ (by omega) (by omega) _).set _ _ (by omega) (by omega) _).set _ _ (by omega) (by omega) _).set _ _ (by omega) (by omega) _).set _ _ (by omega) (by omega) _)),hq42.mid hB ((((((((Mid.refl _ _ _).set _ _ (by omega) (by omega) _).set _ _ (by omega) (by omega) _).set _ _ (by omega) (by omega) _).set _ _ (by omega) (by omega) _).set _ _ (by omega) (by omega) _).set _ _ (by omega) (by omega) _)),hap41,hap42,x1,x2,x3,x4⟩
set_option maxHeartbeats 4000000 in
set_option maxRecDepth 100000 in
theorem dAdd_ap (s0:Bool) (a0:Option Addr) (n0 c0 X0:Nat) (b0:Option Addr) (m0 d0 Y0:Nat) (s1:Bool) (a1:Option Addr) (n1 c1 X1:Nat) (b1:Option Addr) (m1 d1 Y1:Nat) (s2:Bool) (a2:Option Addr) (n2 c2 X2:Nat) (b2:Option Addr) (m2 d2 Y2:Nat) (s3:Bool) (a3:Option Addr) (n3 c3 X3:Nat) (b3:Option Addr) (m3 d3 Y3:Nat) (Z:Int) (V:Nat) (Z2:Int) (V2:Nat) (w:World) (hc0:n0≤c0) (hm0:n0≤35184372088000) (hS0:Seg w a0 X0 n0) (hd0:m0≤d0) (hk0:m0≤35184372088000) (hT0:Seg w b0 Y0 m0) (hc1:n1≤c1) (hm1:n1≤35184372088000) (hS1:Seg w a1 X1 n1) (hd1:m1≤d1) (hk1:m1≤35184372088000) (hT1:Seg w b1 Y1 m1) (hc2:n2≤c2) (hm2:n2≤35184372088000) (hS2:Seg w a2 X2 n2) (hd2:m2≤d2) (hk2:m2≤35184372088000) (hT2:Seg w b2 Y2 m2) (hc3:n3≤c3) (hm3:n3≤35184372088000) (hS3:Seg w a3 X3 n3) (hd3:m3≤d3) (hk3:m3≤35184372088000) (hT3:Seg w b3 Y3 m3) (hL:Low (rn s0 X0 Y0*(rd Y2:Nat)+rn s2 X2 Y2*(rd Y0:Nat)) ((rd Y0:Nat)*(rd Y2:Nat)) Z V) (hL2:Low (rn s1 X1 Y1*(rd Y3:Nat)+rn s3 X3 Y3*(rd Y1:Nat)) ((rd Y1:Nat)*(rd Y3:Nat)) Z2 V2) :
  Calls Tryz.prog 28 #[Value.agg #[Value.bool s0,Value.slice a0 n0 c0,Value.slice b0 m0 d0,Value.bool s1,Value.slice a1 n1 c1,Value.slice b1 m1 d1],Value.agg #[Value.bool s2,Value.slice a2 n2 c2,Value.slice b2 m2 d2,Value.bool s3,Value.slice a3 n3 c3,Value.slice b3 m3 d3]] w fun e w'=>∃ p q r t,e=.returned (Value.agg #[Value.bool (ng Z),Value.slice p (ln (am Z)) (ln (am Z)),Value.slice q (ln V) (ln V),Value.bool (ng Z2),Value.slice r (ln (am Z2)) (ln (am Z2)),Value.slice t (ln V2) (ln V2)])∧New w w' p (am Z) (ln (am Z))∧New w w' q V (ln V)∧New w w' r (am Z2) (ln (am Z2))∧New w w' t V2 (ln V2)∧Four p (ln (am Z)) q (ln V) r (ln (am Z2)) t (ln V2):=by
 have HL:=hide' hL
 have HL2:=hide' hL2
 clear hL hL2
 go_enter Tryz.func28,Tryz.ntmps28
 go_wp2_with fail
 obtain ⟨W,hW⟩:∃ W,(((w.alloc (.cells #[.bool s0,.slice a0 n0 c0,.slice b0 m0 d0,.bool s1,.slice a1 n1 c1,.slice b1 m1 d1] 29)).alloc (.cells #[.bool s2,.slice a2 n2 c2,.slice b2 m2 d2,.bool s3,.slice a3 n3 c3,.slice b3 m3 d3] 29)).alloc (.cells #[.bool false,.slice none 0 0,.slice none 0 0,.bool false,.slice none 0 0,.slice none 0 0] 29))=W:=⟨_,rfl⟩
 have q00:W.cell? ⟨w.heap.size,0,none⟩=some (.bool s0):=by subst hW;go_simp
 have q01:W.cell? ⟨w.heap.size,1,none⟩=some (.slice a0 n0 c0):=by subst hW;go_simp
 have q02:W.cell? ⟨w.heap.size,2,none⟩=some (.slice b0 m0 d0):=by subst hW;go_simp
 have q03:W.cell? ⟨w.heap.size,3,none⟩=some (.bool s1):=by subst hW;go_simp
 have q04:W.cell? ⟨w.heap.size,4,none⟩=some (.slice a1 n1 c1):=by subst hW;go_simp
 have q05:W.cell? ⟨w.heap.size,5,none⟩=some (.slice b1 m1 d1):=by subst hW;go_simp
 have q10:W.cell? ⟨w.heap.size+1,0,none⟩=some (.bool s2):=by subst hW;go_simp
 have q11:W.cell? ⟨w.heap.size+1,1,none⟩=some (.slice a2 n2 c2):=by subst hW;go_simp
 have q12:W.cell? ⟨w.heap.size+1,2,none⟩=some (.slice b2 m2 d2):=by subst hW;go_simp
 have q13:W.cell? ⟨w.heap.size+1,3,none⟩=some (.bool s3):=by subst hW;go_simp
 have q14:W.cell? ⟨w.heap.size+1,4,none⟩=some (.slice a3 n3 c3):=by subst hW;go_simp
 have q15:W.cell? ⟨w.heap.size+1,5,none⟩=some (.slice b3 m3 d3):=by subst hW;go_simp
 have r00:W.cell? ⟨w.heap.size+1+1,0,none⟩=some (.bool false):=by subst hW;go_simp
 have r01:W.cell? ⟨w.heap.size+1+1,1,none⟩=some (.slice none 0 0):=by subst hW;go_simp
 have r02:W.cell? ⟨w.heap.size+1+1,2,none⟩=some (.slice none 0 0):=by subst hW;go_simp
 have r03:W.cell? ⟨w.heap.size+1+1,3,none⟩=some (.bool false):=by subst hW;go_simp
 have r04:W.cell? ⟨w.heap.size+1+1,4,none⟩=some (.slice none 0 0):=by subst hW;go_simp
 have r05:W.cell? ⟨w.heap.size+1+1,5,none⟩=some (.slice none 0 0):=by subst hW;go_simp
 have hB:Below w.heap.size w W:=by subst hW;exact ((((Below.refl _ _).alloc (by (try simp only [World.size_alloc]);omega) _).alloc (by (try simp only [World.size_alloc]);omega) _).alloc (by (try simp only [World.size_alloc]);omega) _)
 have hR0:Row W (w.heap.size+1+1):=by
  have:=row_new (((w.alloc (.cells #[.bool s0,.slice a0 n0 c0,.slice b0 m0 d0,.bool s1,.slice a1 n1 c1,.slice b1 m1 d1] 29)).alloc (.cells #[.bool s2,.slice a2 n2 c2,.slice b2 m2 d2,.bool s3,.slice a3 n3 c3,.slice b3 m3 d3] 29))) #[.bool false,.slice none 0 0,.slice none 0 0,.bool false,.slice none 0 0,.slice none 0 0] 29
  try simp only [World.size_alloc] at this
  subst hW;exact this
 have hz:W.heap.size=w.heap.size+1+1+1:=by subst hW;simp only [World.size_alloc]
 rw [hW]
 clear hW
 have hBW:Below W.heap.size W W:=Below.refl _ _
 replace hBW:=hBW.drew
 first
  | go_region_held3 (fun w'=>w'.cell? ⟨w.heap.size,0,none⟩=some (.bool s0)∧w'.cell? ⟨w.heap.size,1,none⟩=some (.slice a0 n0 c0)∧w'.cell? ⟨w.heap.size,2,none⟩=some (.slice b0 m0 d0)∧w'.cell? ⟨w.heap.size,3,none⟩=some (.bool s1)∧w'.cell? ⟨w.heap.size,4,none⟩=some (.slice a1 n1 c1)∧w'.cell? ⟨w.heap.size,5,none⟩=some (.slice b1 m1 d1)∧w'.cell? ⟨w.heap.size+1,0,none⟩=some (.bool s2)∧w'.cell? ⟨w.heap.size+1,1,none⟩=some (.slice a2 n2 c2)∧w'.cell? ⟨w.heap.size+1,2,none⟩=some (.slice b2 m2 d2)∧w'.cell? ⟨w.heap.size+1,3,none⟩=some (.bool s3)∧w'.cell? ⟨w.heap.size+1,4,none⟩=some (.slice a3 n3 c3)∧w'.cell? ⟨w.heap.size+1,5,none⟩=some (.slice b3 m3 d3)∧Below w.heap.size w w')
    (first | with_reducible exact kpT12_6 (by assumption) (by omega) (by omega) (by omega) (by omega) (by omega) (by omega) (by omega) (by omega) (by omega) (by omega) (by omega) (by omega) (by omega) | exact ⟨q00,q01,q02,q03,q04,q05,q10,q11,q12,q13,q14,q15,hB.trans (hBW.mono hB.size)⟩ | exact kp12 b41 (by assumption) | exact kp12 b42 (by assumption) | exact kp12 (below_alloc _) (by assumption) | exact kp12 (below_alloc _) ⟨q00,q01,q02,q03,q04,q05,q10,q11,q12,q13,q14,q15,hB.trans (hBW.mono hB.size)⟩ | exact kpT12_6 (by assumption) (by omega) (by omega) (by omega) (by omega) (by omega) (by omega) (by omega) (by omega) (by omega) (by omega) (by omega) (by omega) (by omega))
    (first
     | (go_at_call 55;go_at_call_of 55 (Value.agg #[Value.bool s0,Value.slice a0 n0 c0,Value.slice b0 m0 d0]);(fail_if_success clear b41);refine (qAdd_ap s0 a0 n0 c0 X0 b0 m0 d0 Y0 s2 a2 n2 c2 X2 b2 m2 d2 Y2 Z V _ hc0 (by omega) (sb hS0 hB hBW) hd0 (by omega) (sb hT0 hB hBW) hc2 (by omega) (sb hS2 hB hBW) hd2 (by omega) (sb hT2 hB hBW) HL.out).mono ?_;rintro e w41 ⟨p41,q41,rfl,hp41,hq41,hap41⟩;have b41:=hp41.below;(try (have x1:=(ap_two hp42.seg hp41).symm;have x2:=(ap_two hq42.seg hp41).symm;have x3:=(ap_two hp42.seg hq41).symm;have x4:=(ap_two hq42.seg hq41).symm));replace hp41:=hp41.back hBW;replace hq41:=hq41.back hBW;replace hBW:=hBW.trans (b41.mono hBW.size);replace q00:=below_cell b41 q00;replace q01:=below_cell b41 q01;replace q02:=below_cell b41 q02;replace q03:=below_cell b41 q03;replace q04:=below_cell b41 q04;replace q05:=below_cell b41 q05;replace q10:=below_cell b41 q10;replace q11:=below_cell b41 q11;replace q12:=below_cell b41 q12;replace q13:=below_cell b41 q13;replace q14:=below_cell b41 q14;replace q15:=below_cell b41 q15;replace r00:=below_cell b41 r00;replace r01:=below_cell b41 r01;replace r02:=below_cell b41 r02;replace r03:=below_cell b41 r03;replace r04:=below_cell b41 r04;replace r05:=below_cell b41 r05;replace hR0:=below_row b41 hR0)
     | (go_at_call 55;go_at_call_of 55 (Value.agg #[Value.bool s1,Value.slice a1 n1 c1,Value.slice b1 m1 d1]);(fail_if_success clear b42);refine (qAdd_ap s1 a1 n1 c1 X1 b1 m1 d1 Y1 s3 a3 n3 c3 X3 b3 m3 d3 Y3 Z2 V2 _ hc1 (by omega) (sb hS1 hB hBW) hd1 (by omega) (sb hT1 hB hBW) hc3 (by omega) (sb hS3 hB hBW) hd3 (by omega) (sb hT3 hB hBW) HL2.out).mono ?_;rintro e w42 ⟨p42,q42,rfl,hp42,hq42,hap42⟩;have b42:=hp42.below;(try (have x1:=ap_two hp41.seg hp42;have x2:=ap_two hp41.seg hq42;have x3:=ap_two hq41.seg hp42;have x4:=ap_two hq41.seg hq42));replace hp42:=hp42.back hBW;replace hq42:=hq42.back hBW;replace hBW:=hBW.trans (b42.mono hBW.size);replace q00:=below_cell b42 q00;replace q01:=below_cell b42 q01;replace q02:=below_cell b42 q02;replace q03:=below_cell b42 q03;replace q04:=below_cell b42 q04;replace q05:=below_cell b42 q05;replace q10:=below_cell b42 q10;replace q11:=below_cell b42 q11;replace q12:=below_cell b42 q12;replace q13:=below_cell b42 q13;replace q14:=below_cell b42 q14;replace q15:=below_cell b42 q15;replace r00:=below_cell b42 r00;replace r01:=below_cell b42 r01;replace r02:=below_cell b42 r02;replace r03:=below_cell b42 r03;replace r04:=below_cell b42 r04;replace r05:=below_cell b42 r05;replace hR0:=below_row b42 hR0;replace hp41:=hp41.later b42;replace hq41:=hq41.later b42;have fz:=fun o=>hR0.frozen o))
  | fail
 have fz0:=fun o=>hR0.frozen o
 go_wp2
 all_goals refine bodyPost_ret (v:=Value.agg #[Value.bool (ng Z),Value.slice p41 (ln (am Z)) (ln (am Z)),Value.slice q41 (ln V) (ln V),Value.bool (ng Z2),Value.slice p42 (ln (am Z2)) (ln (am Z2)),Value.slice q42 (ln V2) (ln V2)]) (by rw [results_cell rfl];go_simp) rfl ?_
 all_goals exact ⟨p41,q41,p42,q42,rfl,hp41.mid hB ((((((((Mid.refl _ _ _).set _ _ (by omega) (by omega) _).set _ _ (by omega) (by omega) _).set _ _ (by omega) (by omega) _).set _ _ (by omega) (by omega) _).set _ _ (by omega) (by omega) _).set _ _ (by omega) (by omega) _)),hq41.mid hB ((((((((Mid.refl _ _ _).set _ _ (by omega) (by omega) _).set _ _ (by omega) (by omega) _).set _ _ (by omega) (by omega) _).set _ _ (by omega) (by omega) _).set _ _ (by omega) (by omega) _).set _ _ (by omega) (by omega) _)),hp42.mid hB ((((((((Mid.refl _ _ _).set _ _ (by omega) (by omega) _).set _ _ (by omega) (by omega) _).set _ _ (by omega) (by omega) _).set _ _ (by omega) (by omega) _).set _ _ (by omega) (by omega) _).set _ _ (by omega) (by omega) _)),hq42.mid hB ((((((((Mid.refl _ _ _).set _ _ (by omega) (by omega) _).set _ _ (by omega) (by omega) _).set _ _ (by omega) (by omega) _).set _ _ (by omega) (by omega) _).set _ _ (by omega) (by omega) _).set _ _ (by omega) (by omega) _)),hap41,hap42,x1,x2,x3,x4⟩
set_option maxHeartbeats 4000000 in
set_option maxRecDepth 100000 in
theorem dSub_ap (s0:Bool) (a0:Option Addr) (n0 c0 X0:Nat) (b0:Option Addr) (m0 d0 Y0:Nat) (s1:Bool) (a1:Option Addr) (n1 c1 X1:Nat) (b1:Option Addr) (m1 d1 Y1:Nat) (s2:Bool) (a2:Option Addr) (n2 c2 X2:Nat) (b2:Option Addr) (m2 d2 Y2:Nat) (s3:Bool) (a3:Option Addr) (n3 c3 X3:Nat) (b3:Option Addr) (m3 d3 Y3:Nat) (Z:Int) (V:Nat) (Z2:Int) (V2:Nat) (w:World) (hc0:n0≤c0) (hm0:n0≤35184372088000) (hS0:Seg w a0 X0 n0) (hd0:m0≤d0) (hk0:m0≤35184372088000) (hT0:Seg w b0 Y0 m0) (hc1:n1≤c1) (hm1:n1≤35184372088000) (hS1:Seg w a1 X1 n1) (hd1:m1≤d1) (hk1:m1≤35184372088000) (hT1:Seg w b1 Y1 m1) (hc2:n2≤c2) (hm2:n2≤35184372088000) (hS2:Seg w a2 X2 n2) (hd2:m2≤d2) (hk2:m2≤35184372088000) (hT2:Seg w b2 Y2 m2) (hc3:n3≤c3) (hm3:n3≤35184372088000) (hS3:Seg w a3 X3 n3) (hd3:m3≤d3) (hk3:m3≤35184372088000) (hT3:Seg w b3 Y3 m3) (hL:Low (rn s0 X0 Y0*(rd Y2:Nat)+-(rn s2 X2 Y2)*(rd Y0:Nat)) ((rd Y0:Nat)*(rd Y2:Nat)) Z V) (hL2:Low (rn s1 X1 Y1*(rd Y3:Nat)+-(rn s3 X3 Y3)*(rd Y1:Nat)) ((rd Y1:Nat)*(rd Y3:Nat)) Z2 V2) :
  Calls Tryz.prog 29 #[Value.agg #[Value.bool s0,Value.slice a0 n0 c0,Value.slice b0 m0 d0,Value.bool s1,Value.slice a1 n1 c1,Value.slice b1 m1 d1],Value.agg #[Value.bool s2,Value.slice a2 n2 c2,Value.slice b2 m2 d2,Value.bool s3,Value.slice a3 n3 c3,Value.slice b3 m3 d3]] w fun e w'=>∃ p q r t,e=.returned (Value.agg #[Value.bool (ng Z),Value.slice p (ln (am Z)) (ln (am Z)),Value.slice q (ln V) (ln V),Value.bool (ng Z2),Value.slice r (ln (am Z2)) (ln (am Z2)),Value.slice t (ln V2) (ln V2)])∧New w w' p (am Z) (ln (am Z))∧New w w' q V (ln V)∧New w w' r (am Z2) (ln (am Z2))∧New w w' t V2 (ln V2)∧Four p (ln (am Z)) q (ln V) r (ln (am Z2)) t (ln V2):=by
 have HL:=hide' hL
 have HL2:=hide' hL2
 clear hL hL2
 go_enter Tryz.func29,Tryz.ntmps29
 go_wp2_with fail
 obtain ⟨W,hW⟩:∃ W,(((w.alloc (.cells #[.bool s0,.slice a0 n0 c0,.slice b0 m0 d0,.bool s1,.slice a1 n1 c1,.slice b1 m1 d1] 29)).alloc (.cells #[.bool s2,.slice a2 n2 c2,.slice b2 m2 d2,.bool s3,.slice a3 n3 c3,.slice b3 m3 d3] 29)).alloc (.cells #[.bool false,.slice none 0 0,.slice none 0 0,.bool false,.slice none 0 0,.slice none 0 0] 29))=W:=⟨_,rfl⟩
 have q00:W.cell? ⟨w.heap.size,0,none⟩=some (.bool s0):=by subst hW;go_simp
 have q01:W.cell? ⟨w.heap.size,1,none⟩=some (.slice a0 n0 c0):=by subst hW;go_simp
 have q02:W.cell? ⟨w.heap.size,2,none⟩=some (.slice b0 m0 d0):=by subst hW;go_simp
 have q03:W.cell? ⟨w.heap.size,3,none⟩=some (.bool s1):=by subst hW;go_simp
 have q04:W.cell? ⟨w.heap.size,4,none⟩=some (.slice a1 n1 c1):=by subst hW;go_simp
 have q05:W.cell? ⟨w.heap.size,5,none⟩=some (.slice b1 m1 d1):=by subst hW;go_simp
 have q10:W.cell? ⟨w.heap.size+1,0,none⟩=some (.bool s2):=by subst hW;go_simp
 have q11:W.cell? ⟨w.heap.size+1,1,none⟩=some (.slice a2 n2 c2):=by subst hW;go_simp
 have q12:W.cell? ⟨w.heap.size+1,2,none⟩=some (.slice b2 m2 d2):=by subst hW;go_simp
 have q13:W.cell? ⟨w.heap.size+1,3,none⟩=some (.bool s3):=by subst hW;go_simp
 have q14:W.cell? ⟨w.heap.size+1,4,none⟩=some (.slice a3 n3 c3):=by subst hW;go_simp
 have q15:W.cell? ⟨w.heap.size+1,5,none⟩=some (.slice b3 m3 d3):=by subst hW;go_simp
 have r00:W.cell? ⟨w.heap.size+1+1,0,none⟩=some (.bool false):=by subst hW;go_simp
 have r01:W.cell? ⟨w.heap.size+1+1,1,none⟩=some (.slice none 0 0):=by subst hW;go_simp
 have r02:W.cell? ⟨w.heap.size+1+1,2,none⟩=some (.slice none 0 0):=by subst hW;go_simp
 have r03:W.cell? ⟨w.heap.size+1+1,3,none⟩=some (.bool false):=by subst hW;go_simp
 have r04:W.cell? ⟨w.heap.size+1+1,4,none⟩=some (.slice none 0 0):=by subst hW;go_simp
 have r05:W.cell? ⟨w.heap.size+1+1,5,none⟩=some (.slice none 0 0):=by subst hW;go_simp
 have hB:Below w.heap.size w W:=by subst hW;exact ((((Below.refl _ _).alloc (by (try simp only [World.size_alloc]);omega) _).alloc (by (try simp only [World.size_alloc]);omega) _).alloc (by (try simp only [World.size_alloc]);omega) _)
 have hR0:Row W (w.heap.size+1+1):=by
  have:=row_new (((w.alloc (.cells #[.bool s0,.slice a0 n0 c0,.slice b0 m0 d0,.bool s1,.slice a1 n1 c1,.slice b1 m1 d1] 29)).alloc (.cells #[.bool s2,.slice a2 n2 c2,.slice b2 m2 d2,.bool s3,.slice a3 n3 c3,.slice b3 m3 d3] 29))) #[.bool false,.slice none 0 0,.slice none 0 0,.bool false,.slice none 0 0,.slice none 0 0] 29
  try simp only [World.size_alloc] at this
  subst hW;exact this
 have hz:W.heap.size=w.heap.size+1+1+1:=by subst hW;simp only [World.size_alloc]
 rw [hW]
 clear hW
 have hBW:Below W.heap.size W W:=Below.refl _ _
 replace hBW:=hBW.drew
 first
  | go_region_held3 (fun w'=>w'.cell? ⟨w.heap.size,0,none⟩=some (.bool s0)∧w'.cell? ⟨w.heap.size,1,none⟩=some (.slice a0 n0 c0)∧w'.cell? ⟨w.heap.size,2,none⟩=some (.slice b0 m0 d0)∧w'.cell? ⟨w.heap.size,3,none⟩=some (.bool s1)∧w'.cell? ⟨w.heap.size,4,none⟩=some (.slice a1 n1 c1)∧w'.cell? ⟨w.heap.size,5,none⟩=some (.slice b1 m1 d1)∧w'.cell? ⟨w.heap.size+1,0,none⟩=some (.bool s2)∧w'.cell? ⟨w.heap.size+1,1,none⟩=some (.slice a2 n2 c2)∧w'.cell? ⟨w.heap.size+1,2,none⟩=some (.slice b2 m2 d2)∧w'.cell? ⟨w.heap.size+1,3,none⟩=some (.bool s3)∧w'.cell? ⟨w.heap.size+1,4,none⟩=some (.slice a3 n3 c3)∧w'.cell? ⟨w.heap.size+1,5,none⟩=some (.slice b3 m3 d3)∧Below w.heap.size w w')
    (first | with_reducible exact kpT12_6 (by assumption) (by omega) (by omega) (by omega) (by omega) (by omega) (by omega) (by omega) (by omega) (by omega) (by omega) (by omega) (by omega) (by omega) | exact ⟨q00,q01,q02,q03,q04,q05,q10,q11,q12,q13,q14,q15,hB.trans (hBW.mono hB.size)⟩ | exact kp12 b41 (by assumption) | exact kp12 b42 (by assumption) | exact kp12 (below_alloc _) (by assumption) | exact kp12 (below_alloc _) ⟨q00,q01,q02,q03,q04,q05,q10,q11,q12,q13,q14,q15,hB.trans (hBW.mono hB.size)⟩ | exact kpT12_6 (by assumption) (by omega) (by omega) (by omega) (by omega) (by omega) (by omega) (by omega) (by omega) (by omega) (by omega) (by omega) (by omega) (by omega))
    (first
     | (go_at_call 56;go_at_call_of 56 (Value.agg #[Value.bool s0,Value.slice a0 n0 c0,Value.slice b0 m0 d0]);(fail_if_success clear b41);refine (qSub_ap s0 a0 n0 c0 X0 b0 m0 d0 Y0 s2 a2 n2 c2 X2 b2 m2 d2 Y2 Z V _ hc0 (by omega) (sb hS0 hB hBW) hd0 (by omega) (sb hT0 hB hBW) hc2 (by omega) (sb hS2 hB hBW) hd2 (by omega) (sb hT2 hB hBW) HL.out).mono ?_;rintro e w41 ⟨p41,q41,rfl,hp41,hq41,hap41⟩;have b41:=hp41.below;(try (have x1:=(ap_two hp42.seg hp41).symm;have x2:=(ap_two hq42.seg hp41).symm;have x3:=(ap_two hp42.seg hq41).symm;have x4:=(ap_two hq42.seg hq41).symm));replace hp41:=hp41.back hBW;replace hq41:=hq41.back hBW;replace hBW:=hBW.trans (b41.mono hBW.size);replace q00:=below_cell b41 q00;replace q01:=below_cell b41 q01;replace q02:=below_cell b41 q02;replace q03:=below_cell b41 q03;replace q04:=below_cell b41 q04;replace q05:=below_cell b41 q05;replace q10:=below_cell b41 q10;replace q11:=below_cell b41 q11;replace q12:=below_cell b41 q12;replace q13:=below_cell b41 q13;replace q14:=below_cell b41 q14;replace q15:=below_cell b41 q15;replace r00:=below_cell b41 r00;replace r01:=below_cell b41 r01;replace r02:=below_cell b41 r02;replace r03:=below_cell b41 r03;replace r04:=below_cell b41 r04;replace r05:=below_cell b41 r05;replace hR0:=below_row b41 hR0)
     | (go_at_call 56;go_at_call_of 56 (Value.agg #[Value.bool s1,Value.slice a1 n1 c1,Value.slice b1 m1 d1]);(fail_if_success clear b42);refine (qSub_ap s1 a1 n1 c1 X1 b1 m1 d1 Y1 s3 a3 n3 c3 X3 b3 m3 d3 Y3 Z2 V2 _ hc1 (by omega) (sb hS1 hB hBW) hd1 (by omega) (sb hT1 hB hBW) hc3 (by omega) (sb hS3 hB hBW) hd3 (by omega) (sb hT3 hB hBW) HL2.out).mono ?_;rintro e w42 ⟨p42,q42,rfl,hp42,hq42,hap42⟩;have b42:=hp42.below;(try (have x1:=ap_two hp41.seg hp42;have x2:=ap_two hp41.seg hq42;have x3:=ap_two hq41.seg hp42;have x4:=ap_two hq41.seg hq42));replace hp42:=hp42.back hBW;replace hq42:=hq42.back hBW;replace hBW:=hBW.trans (b42.mono hBW.size);replace q00:=below_cell b42 q00;replace q01:=below_cell b42 q01;replace q02:=below_cell b42 q02;replace q03:=below_cell b42 q03;replace q04:=below_cell b42 q04;replace q05:=below_cell b42 q05;replace q10:=below_cell b42 q10;replace q11:=below_cell b42 q11;replace q12:=below_cell b42 q12;replace q13:=below_cell b42 q13;replace q14:=below_cell b42 q14;replace q15:=below_cell b42 q15;replace r00:=below_cell b42 r00;replace r01:=below_cell b42 r01;replace r02:=below_cell b42 r02;replace r03:=below_cell b42 r03;replace r04:=below_cell b42 r04;replace r05:=below_cell b42 r05;replace hR0:=below_row b42 hR0;replace hp41:=hp41.later b42;replace hq41:=hq41.later b42;have fz:=fun o=>hR0.frozen o))
  | fail
 have fz0:=fun o=>hR0.frozen o
 go_wp2
 all_goals refine bodyPost_ret (v:=Value.agg #[Value.bool (ng Z),Value.slice p41 (ln (am Z)) (ln (am Z)),Value.slice q41 (ln V) (ln V),Value.bool (ng Z2),Value.slice p42 (ln (am Z2)) (ln (am Z2)),Value.slice q42 (ln V2) (ln V2)]) (by rw [results_cell rfl];go_simp) rfl ?_
 all_goals exact ⟨p41,q41,p42,q42,rfl,hp41.mid hB ((((((((Mid.refl _ _ _).set _ _ (by omega) (by omega) _).set _ _ (by omega) (by omega) _).set _ _ (by omega) (by omega) _).set _ _ (by omega) (by omega) _).set _ _ (by omega) (by omega) _).set _ _ (by omega) (by omega) _)),hq41.mid hB ((((((((Mid.refl _ _ _).set _ _ (by omega) (by omega) _).set _ _ (by omega) (by omega) _).set _ _ (by omega) (by omega) _).set _ _ (by omega) (by omega) _).set _ _ (by omega) (by omega) _).set _ _ (by omega) (by omega) _)),hp42.mid hB ((((((((Mid.refl _ _ _).set _ _ (by omega) (by omega) _).set _ _ (by omega) (by omega) _).set _ _ (by omega) (by omega) _).set _ _ (by omega) (by omega) _).set _ _ (by omega) (by omega) _).set _ _ (by omega) (by omega) _)),hq42.mid hB ((((((((Mid.refl _ _ _).set _ _ (by omega) (by omega) _).set _ _ (by omega) (by omega) _).set _ _ (by omega) (by omega) _).set _ _ (by omega) (by omega) _).set _ _ (by omega) (by omega) _).set _ _ (by omega) (by omega) _)),hap41,hap42,x1,x2,x3,x4⟩
set_option maxHeartbeats 4000000 in
set_option maxRecDepth 100000 in
theorem dScale_ap (s4:Bool) (a4:Option Addr) (n4 c4 X4:Nat) (b4:Option Addr) (m4 d4 Y4:Nat) (s0:Bool) (a0:Option Addr) (n0 c0 X0:Nat) (b0:Option Addr) (m0 d0 Y0:Nat) (s1:Bool) (a1:Option Addr) (n1 c1 X1:Nat) (b1:Option Addr) (m1 d1 Y1:Nat) (Z:Int) (V:Nat) (Z2:Int) (V2:Nat) (w:World) (hc4:n4≤c4) (hm4:n4≤35184372088000) (hS4:Seg w a4 X4 n4) (hd4:m4≤d4) (hk4:m4≤35184372088000) (hT4:Seg w b4 Y4 m4) (hc0:n0≤c0) (hm0:n0≤35184372088000) (hS0:Seg w a0 X0 n0) (hd0:m0≤d0) (hk0:m0≤35184372088000) (hT0:Seg w b0 Y0 m0) (hc1:n1≤c1) (hm1:n1≤35184372088000) (hS1:Seg w a1 X1 n1) (hd1:m1≤d1) (hk1:m1≤35184372088000) (hT1:Seg w b1 Y1 m1) (hL:Low (rn s4 X4 Y4*rn s0 X0 Y0) ((rd Y4:Nat)*(rd Y0:Nat)) Z V) (hL2:Low (rn s4 X4 Y4*rn s1 X1 Y1) ((rd Y4:Nat)*(rd Y1:Nat)) Z2 V2) :
  Calls Tryz.prog 30 #[Value.agg #[Value.bool s4,Value.slice a4 n4 c4,Value.slice b4 m4 d4],Value.agg #[Value.bool s0,Value.slice a0 n0 c0,Value.slice b0 m0 d0,Value.bool s1,Value.slice a1 n1 c1,Value.slice b1 m1 d1]] w fun e w'=>∃ p q r t,e=.returned (Value.agg #[Value.bool (ng Z),Value.slice p (ln (am Z)) (ln (am Z)),Value.slice q (ln V) (ln V),Value.bool (ng Z2),Value.slice r (ln (am Z2)) (ln (am Z2)),Value.slice t (ln V2) (ln V2)])∧New w w' p (am Z) (ln (am Z))∧New w w' q V (ln V)∧New w w' r (am Z2) (ln (am Z2))∧New w w' t V2 (ln V2)∧Four p (ln (am Z)) q (ln V) r (ln (am Z2)) t (ln V2):=by
 have HL:=hide' hL
 have HL2:=hide' hL2
 clear hL hL2
 go_enter Tryz.func30,Tryz.ntmps30
 go_wp2_with fail
 obtain ⟨W,hW⟩:∃ W,(((w.alloc (.cells #[.bool s4,.slice a4 n4 c4,.slice b4 m4 d4] 27)).alloc (.cells #[.bool s0,.slice a0 n0 c0,.slice b0 m0 d0,.bool s1,.slice a1 n1 c1,.slice b1 m1 d1] 29)).alloc (.cells #[.bool false,.slice none 0 0,.slice none 0 0,.bool false,.slice none 0 0,.slice none 0 0] 29))=W:=⟨_,rfl⟩
 have q00:W.cell? ⟨w.heap.size,0,none⟩=some (.bool s4):=by subst hW;go_simp
 have q01:W.cell? ⟨w.heap.size,1,none⟩=some (.slice a4 n4 c4):=by subst hW;go_simp
 have q02:W.cell? ⟨w.heap.size,2,none⟩=some (.slice b4 m4 d4):=by subst hW;go_simp
 have q10:W.cell? ⟨w.heap.size+1,0,none⟩=some (.bool s0):=by subst hW;go_simp
 have q11:W.cell? ⟨w.heap.size+1,1,none⟩=some (.slice a0 n0 c0):=by subst hW;go_simp
 have q12:W.cell? ⟨w.heap.size+1,2,none⟩=some (.slice b0 m0 d0):=by subst hW;go_simp
 have q13:W.cell? ⟨w.heap.size+1,3,none⟩=some (.bool s1):=by subst hW;go_simp
 have q14:W.cell? ⟨w.heap.size+1,4,none⟩=some (.slice a1 n1 c1):=by subst hW;go_simp
 have q15:W.cell? ⟨w.heap.size+1,5,none⟩=some (.slice b1 m1 d1):=by subst hW;go_simp
 have r00:W.cell? ⟨w.heap.size+1+1,0,none⟩=some (.bool false):=by subst hW;go_simp
 have r01:W.cell? ⟨w.heap.size+1+1,1,none⟩=some (.slice none 0 0):=by subst hW;go_simp
 have r02:W.cell? ⟨w.heap.size+1+1,2,none⟩=some (.slice none 0 0):=by subst hW;go_simp
 have r03:W.cell? ⟨w.heap.size+1+1,3,none⟩=some (.bool false):=by subst hW;go_simp
 have r04:W.cell? ⟨w.heap.size+1+1,4,none⟩=some (.slice none 0 0):=by subst hW;go_simp
 have r05:W.cell? ⟨w.heap.size+1+1,5,none⟩=some (.slice none 0 0):=by subst hW;go_simp
 have hB:Below w.heap.size w W:=by subst hW;exact ((((Below.refl _ _).alloc (by (try simp only [World.size_alloc]);omega) _).alloc (by (try simp only [World.size_alloc]);omega) _).alloc (by (try simp only [World.size_alloc]);omega) _)
 have hR0:Row W (w.heap.size+1+1):=by
  have:=row_new (((w.alloc (.cells #[.bool s4,.slice a4 n4 c4,.slice b4 m4 d4] 27)).alloc (.cells #[.bool s0,.slice a0 n0 c0,.slice b0 m0 d0,.bool s1,.slice a1 n1 c1,.slice b1 m1 d1] 29))) #[.bool false,.slice none 0 0,.slice none 0 0,.bool false,.slice none 0 0,.slice none 0 0] 29
  try simp only [World.size_alloc] at this
  subst hW;exact this
 have hz:W.heap.size=w.heap.size+1+1+1:=by subst hW;simp only [World.size_alloc]
 rw [hW]
 clear hW
 have hBW:Below W.heap.size W W:=Below.refl _ _
 replace hBW:=hBW.drew
 first
  | go_region_held3 (fun w'=>w'.cell? ⟨w.heap.size,0,none⟩=some (.bool s4)∧w'.cell? ⟨w.heap.size,1,none⟩=some (.slice a4 n4 c4)∧w'.cell? ⟨w.heap.size,2,none⟩=some (.slice b4 m4 d4)∧w'.cell? ⟨w.heap.size+1,0,none⟩=some (.bool s0)∧w'.cell? ⟨w.heap.size+1,1,none⟩=some (.slice a0 n0 c0)∧w'.cell? ⟨w.heap.size+1,2,none⟩=some (.slice b0 m0 d0)∧w'.cell? ⟨w.heap.size+1,3,none⟩=some (.bool s1)∧w'.cell? ⟨w.heap.size+1,4,none⟩=some (.slice a1 n1 c1)∧w'.cell? ⟨w.heap.size+1,5,none⟩=some (.slice b1 m1 d1)∧Below w.heap.size w w')
    (first | with_reducible exact kpT9_6 (by assumption) (by omega) (by omega) (by omega) (by omega) (by omega) (by omega) (by omega) (by omega) (by omega) (by omega) | exact ⟨q00,q01,q02,q10,q11,q12,q13,q14,q15,hB.trans (hBW.mono hB.size)⟩ | exact kp9 b41 (by assumption) | exact kp9 b42 (by assumption) | exact kp9 (below_alloc _) (by assumption) | exact kp9 (below_alloc _) ⟨q00,q01,q02,q10,q11,q12,q13,q14,q15,hB.trans (hBW.mono hB.size)⟩ | exact kpT9_6 (by assumption) (by omega) (by omega) (by omega) (by omega) (by omega) (by omega) (by omega) (by omega) (by omega) (by omega))
    (first
     | (go_at_call 57;go_at_call_of 57 (Value.agg #[Value.bool s0,Value.slice a0 n0 c0,Value.slice b0 m0 d0]);(fail_if_success clear b41);refine (qMul_ap s4 a4 n4 c4 X4 b4 m4 d4 Y4 s0 a0 n0 c0 X0 b0 m0 d0 Y0 Z V _ hc4 (by omega) (sb hS4 hB hBW) hd4 (by omega) (sb hT4 hB hBW) hc0 (by omega) (sb hS0 hB hBW) hd0 (by omega) (sb hT0 hB hBW) HL.out).mono ?_;rintro e w41 ⟨p41,q41,rfl,hp41,hq41,hap41⟩;have b41:=hp41.below;(try (have x1:=(ap_two hp42.seg hp41).symm;have x2:=(ap_two hq42.seg hp41).symm;have x3:=(ap_two hp42.seg hq41).symm;have x4:=(ap_two hq42.seg hq41).symm));replace hp41:=hp41.back hBW;replace hq41:=hq41.back hBW;replace hBW:=hBW.trans (b41.mono hBW.size);replace q00:=below_cell b41 q00;replace q01:=below_cell b41 q01;replace q02:=below_cell b41 q02;replace q10:=below_cell b41 q10;replace q11:=below_cell b41 q11;replace q12:=below_cell b41 q12;replace q13:=below_cell b41 q13;replace q14:=below_cell b41 q14;replace q15:=below_cell b41 q15;replace r00:=below_cell b41 r00;replace r01:=below_cell b41 r01;replace r02:=below_cell b41 r02;replace r03:=below_cell b41 r03;replace r04:=below_cell b41 r04;replace r05:=below_cell b41 r05;replace hR0:=below_row b41 hR0)
     | (go_at_call 57;go_at_call_of 57 (Value.agg #[Value.bool s1,Value.slice a1 n1 c1,Value.slice b1 m1 d1]);(fail_if_success clear b42);refine (qMul_ap s4 a4 n4 c4 X4 b4 m4 d4 Y4 s1 a1 n1 c1 X1 b1 m1 d1 Y1 Z2 V2 _ hc4 (by omega) (sb hS4 hB hBW) hd4 (by omega) (sb hT4 hB hBW) hc1 (by omega) (sb hS1 hB hBW) hd1 (by omega) (sb hT1 hB hBW) HL2.out).mono ?_;rintro e w42 ⟨p42,q42,rfl,hp42,hq42,hap42⟩;have b42:=hp42.below;(try (have x1:=ap_two hp41.seg hp42;have x2:=ap_two hp41.seg hq42;have x3:=ap_two hq41.seg hp42;have x4:=ap_two hq41.seg hq42));replace hp42:=hp42.back hBW;replace hq42:=hq42.back hBW;replace hBW:=hBW.trans (b42.mono hBW.size);replace q00:=below_cell b42 q00;replace q01:=below_cell b42 q01;replace q02:=below_cell b42 q02;replace q10:=below_cell b42 q10;replace q11:=below_cell b42 q11;replace q12:=below_cell b42 q12;replace q13:=below_cell b42 q13;replace q14:=below_cell b42 q14;replace q15:=below_cell b42 q15;replace r00:=below_cell b42 r00;replace r01:=below_cell b42 r01;replace r02:=below_cell b42 r02;replace r03:=below_cell b42 r03;replace r04:=below_cell b42 r04;replace r05:=below_cell b42 r05;replace hR0:=below_row b42 hR0;replace hp41:=hp41.later b42;replace hq41:=hq41.later b42;have fz:=fun o=>hR0.frozen o))
  | fail
 have fz0:=fun o=>hR0.frozen o
 go_wp2
 all_goals refine bodyPost_ret (v:=Value.agg #[Value.bool (ng Z),Value.slice p41 (ln (am Z)) (ln (am Z)),Value.slice q41 (ln V) (ln V),Value.bool (ng Z2),Value.slice p42 (ln (am Z2)) (ln (am Z2)),Value.slice q42 (ln V2) (ln V2)]) (by rw [results_cell rfl];go_simp) rfl ?_
 all_goals exact ⟨p41,q41,p42,q42,rfl,hp41.mid hB ((((((((Mid.refl _ _ _).set _ _ (by omega) (by omega) _).set _ _ (by omega) (by omega) _).set _ _ (by omega) (by omega) _).set _ _ (by omega) (by omega) _).set _ _ (by omega) (by omega) _).set _ _ (by omega) (by omega) _)),hq41.mid hB ((((((((Mid.refl _ _ _).set _ _ (by omega) (by omega) _).set _ _ (by omega) (by omega) _).set _ _ (by omega) (by omega) _).set _ _ (by omega) (by omega) _).set _ _ (by omega) (by omega) _).set _ _ (by omega) (by omega) _)),hp42.mid hB ((((((((Mid.refl _ _ _).set _ _ (by omega) (by omega) _).set _ _ (by omega) (by omega) _).set _ _ (by omega) (by omega) _).set _ _ (by omega) (by omega) _).set _ _ (by omega) (by omega) _).set _ _ (by omega) (by omega) _)),hq42.mid hB ((((((((Mid.refl _ _ _).set _ _ (by omega) (by omega) _).set _ _ (by omega) (by omega) _).set _ _ (by omega) (by omega) _).set _ _ (by omega) (by omega) _).set _ _ (by omega) (by omega) _).set _ _ (by omega) (by omega) _)),hap41,hap42,x1,x2,x3,x4⟩
set_option maxHeartbeats 2000000 in
set_option maxRecDepth 100000 in
theorem dOf_ap (s0:Bool) (a0:Option Addr) (n0 c0 X0:Nat) (b0:Option Addr) (m0 d0 Y0:Nat) (Z:Int) (V:Nat) (Z2:Int) (V2:Nat) (w:World) (hc0:n0≤c0) (hm0:n0≤35184372088000) (hS0:Seg w a0 X0 n0) (hd0:m0≤d0) (hk0:m0≤35184372088000) (hT0:Seg w b0 Y0 m0) (hL:Low (rn s0 X0 Y0) (rd Y0:Nat) Z V) (hZ2:Z2=0) (hV2:V2=1) :
  Calls Tryz.prog 26 #[Value.agg #[Value.bool s0,Value.slice a0 n0 c0,Value.slice b0 m0 d0]] w fun e w'=>∃ p q r t,e=.returned (Value.agg #[Value.bool (ng Z),Value.slice p (ln (am Z)) (ln (am Z)),Value.slice q (ln V) (ln V),Value.bool (ng Z2),Value.slice r (ln (am Z2)) (ln (am Z2)),Value.slice t (ln V2) (ln V2)])∧New w w' p (am Z) (ln (am Z))∧New w w' q V (ln V)∧New w w' r (am Z2) (ln (am Z2))∧New w w' t V2 (ln V2)∧Four p (ln (am Z)) q (ln V) r (ln (am Z2)) t (ln V2):=by
 have HL:=hide' hL
 have l0:ln (am Z2)=0:=by rw [hZ2];exact ln_zero
 have P1:∀ w',Calls Tryz.prog 47 #[.int .i64 0] w' fun e w''=>∃ p q,e=.returned (Value.agg #[Value.bool (ng Z2),Value.slice p (ln (am Z2)) (ln (am Z2)),Value.slice q (ln V2) (ln V2)])∧New w' w'' p (am Z2) (ln (am Z2))∧New w' w'' q V2 (ln V2):=fun w'=>by
  subst hZ2 hV2
  exact qWhole_is 0 w' (by omega) (by omega)
 have H2:=hide' P1
 clear hL P1 hZ2 hV2
 go_enter Tryz.func26,Tryz.ntmps26
 go_wp2_with fail
 obtain ⟨W,hW⟩:∃ W,((w.alloc (.cells #[.bool s0,.slice a0 n0 c0,.slice b0 m0 d0] 27)).alloc (.cells #[.bool false,.slice none 0 0,.slice none 0 0,.bool false,.slice none 0 0,.slice none 0 0] 29))=W:=⟨_,rfl⟩
 have q00:W.cell? ⟨w.heap.size,0,none⟩=some (.bool s0):=by subst hW;go_simp
 have q01:W.cell? ⟨w.heap.size,1,none⟩=some (.slice a0 n0 c0):=by subst hW;go_simp
 have q02:W.cell? ⟨w.heap.size,2,none⟩=some (.slice b0 m0 d0):=by subst hW;go_simp
 have r00:W.cell? ⟨w.heap.size+1,0,none⟩=some (.bool false):=by subst hW;go_simp
 have r01:W.cell? ⟨w.heap.size+1,1,none⟩=some (.slice none 0 0):=by subst hW;go_simp
 have r02:W.cell? ⟨w.heap.size+1,2,none⟩=some (.slice none 0 0):=by subst hW;go_simp
 have r03:W.cell? ⟨w.heap.size+1,3,none⟩=some (.bool false):=by subst hW;go_simp
 have r04:W.cell? ⟨w.heap.size+1,4,none⟩=some (.slice none 0 0):=by subst hW;go_simp
 have r05:W.cell? ⟨w.heap.size+1,5,none⟩=some (.slice none 0 0):=by subst hW;go_simp
 have hB:Below w.heap.size w W:=by subst hW;exact (((Below.refl _ _).alloc (by (try simp only [World.size_alloc]);omega) _).alloc (by (try simp only [World.size_alloc]);omega) _)
 have hR0:Row W (w.heap.size+1):=by
  have:=row_new ((w.alloc (.cells #[.bool s0,.slice a0 n0 c0,.slice b0 m0 d0] 27))) #[.bool false,.slice none 0 0,.slice none 0 0,.bool false,.slice none 0 0,.slice none 0 0] 29
  try simp only [World.size_alloc] at this
  subst hW;exact this
 have hz:W.heap.size=w.heap.size+1+1:=by subst hW;simp only [World.size_alloc]
 rw [hW]
 clear hW
 have hBW:Below W.heap.size W W:=Below.refl _ _
 refine (qNorm_ap s0 a0 n0 c0 X0 b0 m0 d0 Y0 Z V _ hc0 (by omega) (sb hS0 hB hBW) hd0 (by omega) (sb hT0 hB hBW) HL.out).mono ?_
 rintro e w41 ⟨p41,q41,rfl,hp41,hq41,hap41⟩
 have b41:=hp41.below
 replace hp41:=hp41.back hBW
 replace hq41:=hq41.back hBW
 replace hBW:=hBW.trans (b41.mono hBW.size)
 replace q00:=below_cell b41 q00
 replace q01:=below_cell b41 q01
 replace q02:=below_cell b41 q02
 replace r00:=below_cell b41 r00
 replace r01:=below_cell b41 r01
 replace r02:=below_cell b41 r02
 replace r03:=below_cell b41 r03
 replace r04:=below_cell b41 r04
 replace r05:=below_cell b41 r05
 replace hR0:=below_row b41 hR0
 go_wp2_with fail
 refine (H2.out _).mono ?_
 rintro e w42 ⟨p42,q42,rfl,hp42,hq42⟩
 have b42:=hp42.below
 have x1:=ap_two hp41.seg hp42;have x2:=ap_two hp41.seg hq42;have x3:=ap_two hq41.seg hp42;have x4:=ap_two hq41.seg hq42
 replace hp42:=hp42.back hBW
 replace hq42:=hq42.back hBW
 replace hBW:=hBW.trans (b42.mono hBW.size)
 replace q00:=below_cell b42 q00
 replace q01:=below_cell b42 q01
 replace q02:=below_cell b42 q02
 replace r00:=below_cell b42 r00
 replace r01:=below_cell b42 r01
 replace r02:=below_cell b42 r02
 replace r03:=below_cell b42 r03
 replace r04:=below_cell b42 r04
 replace r05:=below_cell b42 r05
 replace hR0:=below_row b42 hR0
 replace hp41:=hp41.later b42
 replace hq41:=hq41.later b42
 have hap42:Ap p42 (ln (am Z2)) q42 (ln V2):=fun h=>absurd h (by omega)
 have fz0:=fun o=>hR0.frozen o
 go_wp2
 all_goals refine bodyPost_ret (v:=Value.agg #[Value.bool (ng Z),Value.slice p41 (ln (am Z)) (ln (am Z)),Value.slice q41 (ln V) (ln V),Value.bool (ng Z2),Value.slice p42 (ln (am Z2)) (ln (am Z2)),Value.slice q42 (ln V2) (ln V2)]) (by rw [results_cell rfl];go_simp) rfl ?_
 all_goals exact ⟨p41,q41,p42,q42,rfl,hp41.mid hB ((((((((Mid.refl _ _ _).set _ _ (by omega) (by omega) _).set _ _ (by omega) (by omega) _).set _ _ (by omega) (by omega) _).set _ _ (by omega) (by omega) _).set _ _ (by omega) (by omega) _).set _ _ (by omega) (by omega) _)),hq41.mid hB ((((((((Mid.refl _ _ _).set _ _ (by omega) (by omega) _).set _ _ (by omega) (by omega) _).set _ _ (by omega) (by omega) _).set _ _ (by omega) (by omega) _).set _ _ (by omega) (by omega) _).set _ _ (by omega) (by omega) _)),hp42.mid hB ((((((((Mid.refl _ _ _).set _ _ (by omega) (by omega) _).set _ _ (by omega) (by omega) _).set _ _ (by omega) (by omega) _).set _ _ (by omega) (by omega) _).set _ _ (by omega) (by omega) _).set _ _ (by omega) (by omega) _)),hq42.mid hB ((((((((Mid.refl _ _ _).set _ _ (by omega) (by omega) _).set _ _ (by omega) (by omega) _).set _ _ (by omega) (by omega) _).set _ _ (by omega) (by omega) _).set _ _ (by omega) (by omega) _).set _ _ (by omega) (by omega) _)),hap41,hap42,x1,x2,x3,x4⟩
set_option maxHeartbeats 4000000 in
set_option maxRecDepth 100000 in
theorem dAt_ap (s0:Bool) (a0:Option Addr) (n0 c0 X0:Nat) (b0:Option Addr) (m0 d0 Y0:Nat) (s1:Bool) (a1:Option Addr) (n1 c1 X1:Nat) (b1:Option Addr) (m1 d1 Y1:Nat) (s4:Bool) (a4:Option Addr) (n4 c4 X4:Nat) (b4:Option Addr) (m4 d4 Y4:Nat) (Z:Int) (V:Nat) (w:World) (hc0:n0≤c0) (hm0:n0≤274877906944) (hS0:Seg w a0 X0 n0) (hd0:m0≤d0) (hk0:m0≤274877906944) (hT0:Seg w b0 Y0 m0) (hc1:n1≤c1) (hm1:n1≤274877906944) (hS1:Seg w a1 X1 n1) (hd1:m1≤d1) (hk1:m1≤274877906944) (hT1:Seg w b1 Y1 m1) (hc4:n4≤c4) (hm4:n4≤274877906944) (hS4:Seg w a4 X4 n4) (hd4:m4≤d4) (hk4:m4≤274877906944) (hT4:Seg w b4 Y4 m4) (hL:Low (rn s0 X0 Y0*((rd Y1:Nat)*(rd Y4:Nat))+rn s1 X1 Y1*rn s4 X4 Y4*(rd Y0:Nat)) ((rd Y0:Nat)*((rd Y1:Nat)*(rd Y4:Nat))) Z V) :
  Calls Tryz.prog 31 #[Value.agg #[Value.bool s0,Value.slice a0 n0 c0,Value.slice b0 m0 d0,Value.bool s1,Value.slice a1 n1 c1,Value.slice b1 m1 d1],Value.agg #[Value.bool s4,Value.slice a4 n4 c4,Value.slice b4 m4 d4]] w fun e w'=>∃ p q,e=.returned (.agg #[.bool (ng Z),.slice p (ln (am Z)) (ln (am Z)),.slice q (ln V) (ln V)])∧New w w' p (am Z) (ln (am Z))∧New w w' q V (ln V)∧Ap p (ln (am Z)) q (ln V):=by
 obtain ⟨Z1,V1,h1⟩:=low_ex (rn s1 X1 Y1*rn s4 X4 Y4) _ (rd_ne2 Y1 Y4)
 obtain ⟨lZ1,lV1⟩:=lowP_ln h1 (rn_lt hS1.1) (rn_lt hS4.1) (rd_lt hT1.1) (rd_lt hT4.1)
 have hL2:Low (rn s0 X0 Y0*((rd V1:Nat):Int)+rn (ng Z1) (am Z1) V1*((rd Y0:Nat):Int)) (((rd Y0:Nat):Int)*((rd V1:Nat):Int)) Z V:=by
  refine hL.congr (rd_ne2 Y0 V1) ?_
  rw [rn_nf h1.pos,rd_nf h1.pos]
  have e1:=h1.eq
  grind
 have G1:=hide' h1
 have G2:=hide' hL2
 clear hL h1 hL2
 go_enter Tryz.func31,Tryz.ntmps31
 go_wp2_with fail
 obtain ⟨W,hW⟩:∃ W,(((w.alloc (.cells #[.bool s0,.slice a0 n0 c0,.slice b0 m0 d0,.bool s1,.slice a1 n1 c1,.slice b1 m1 d1] 29)).alloc (.cells #[.bool s4,.slice a4 n4 c4,.slice b4 m4 d4] 27)).alloc (.cells #[.bool false,.slice none 0 0,.slice none 0 0] 27))=W:=⟨_,rfl⟩
 have q00:W.cell? ⟨w.heap.size,0,none⟩=some (.bool s0):=by subst hW;go_simp
 have q01:W.cell? ⟨w.heap.size,1,none⟩=some (.slice a0 n0 c0):=by subst hW;go_simp
 have q02:W.cell? ⟨w.heap.size,2,none⟩=some (.slice b0 m0 d0):=by subst hW;go_simp
 have q03:W.cell? ⟨w.heap.size,3,none⟩=some (.bool s1):=by subst hW;go_simp
 have q04:W.cell? ⟨w.heap.size,4,none⟩=some (.slice a1 n1 c1):=by subst hW;go_simp
 have q05:W.cell? ⟨w.heap.size,5,none⟩=some (.slice b1 m1 d1):=by subst hW;go_simp
 have q10:W.cell? ⟨w.heap.size+1,0,none⟩=some (.bool s4):=by subst hW;go_simp
 have q11:W.cell? ⟨w.heap.size+1,1,none⟩=some (.slice a4 n4 c4):=by subst hW;go_simp
 have q12:W.cell? ⟨w.heap.size+1,2,none⟩=some (.slice b4 m4 d4):=by subst hW;go_simp
 have r00:W.cell? ⟨w.heap.size+1+1,0,none⟩=some (.bool false):=by subst hW;go_simp
 have r01:W.cell? ⟨w.heap.size+1+1,1,none⟩=some (.slice none 0 0):=by subst hW;go_simp
 have r02:W.cell? ⟨w.heap.size+1+1,2,none⟩=some (.slice none 0 0):=by subst hW;go_simp
 have hB:Below w.heap.size w W:=by subst hW;exact ((((Below.refl _ _).alloc (by (try simp only [World.size_alloc]);omega) _).alloc (by (try simp only [World.size_alloc]);omega) _).alloc (by (try simp only [World.size_alloc]);omega) _)
 have hR0:Row W (w.heap.size+1+1):=by
  have:=row_new (((w.alloc (.cells #[.bool s0,.slice a0 n0 c0,.slice b0 m0 d0,.bool s1,.slice a1 n1 c1,.slice b1 m1 d1] 29)).alloc (.cells #[.bool s4,.slice a4 n4 c4,.slice b4 m4 d4] 27))) #[.bool false,.slice none 0 0,.slice none 0 0] 27
  try simp only [World.size_alloc] at this
  subst hW;exact this
 have hz:W.heap.size=w.heap.size+1+1+1:=by subst hW;simp only [World.size_alloc]
 rw [hW]
 clear hW
 have hBW:Below W.heap.size W W:=Below.refl _ _
 replace hBW:=hBW.drew
 first
  | go_region_held3 (fun w'=>w'.cell? ⟨w.heap.size,0,none⟩=some (.bool s0)∧w'.cell? ⟨w.heap.size,1,none⟩=some (.slice a0 n0 c0)∧w'.cell? ⟨w.heap.size,2,none⟩=some (.slice b0 m0 d0)∧w'.cell? ⟨w.heap.size,3,none⟩=some (.bool s1)∧w'.cell? ⟨w.heap.size,4,none⟩=some (.slice a1 n1 c1)∧w'.cell? ⟨w.heap.size,5,none⟩=some (.slice b1 m1 d1)∧w'.cell? ⟨w.heap.size+1,0,none⟩=some (.bool s4)∧w'.cell? ⟨w.heap.size+1,1,none⟩=some (.slice a4 n4 c4)∧w'.cell? ⟨w.heap.size+1,2,none⟩=some (.slice b4 m4 d4)∧Below w.heap.size w w')
    (first | exact ⟨q00,q01,q02,q03,q04,q05,q10,q11,q12,hB.trans (hBW.mono hB.size)⟩ | exact kp9 b41 (by assumption) | exact kp9 b42 (by assumption) | exact kp9 (below_alloc _) (by assumption) | exact kp9 (below_alloc _) ⟨q00,q01,q02,q03,q04,q05,q10,q11,q12,hB.trans (hBW.mono hB.size)⟩ | exact kpT9_3 (by assumption) (by omega) (by omega) (by omega) (by omega) (by omega) (by omega) (by omega) (by omega) (by omega) (by omega))
    (first
     | (go_at_call 57;(fail_if_success clear b41);refine (qMul_ap s1 a1 n1 c1 X1 b1 m1 d1 Y1 s4 a4 n4 c4 X4 b4 m4 d4 Y4 Z1 V1 _ hc1 (by omega) (sb hS1 hB hBW) hd1 (by omega) (sb hT1 hB hBW) hc4 (by omega) (sb hS4 hB hBW) hd4 (by omega) (sb hT4 hB hBW) G1.out).mono ?_;rintro e w41 ⟨p41,q41,rfl,hp41,hq41,hap41⟩;have b41:=hp41.below;replace hp41:=hp41.back hBW;replace hq41:=hq41.back hBW;replace hBW:=hBW.trans (b41.mono hBW.size);replace q00:=below_cell b41 q00;replace q01:=below_cell b41 q01;replace q02:=below_cell b41 q02;replace q03:=below_cell b41 q03;replace q04:=below_cell b41 q04;replace q05:=below_cell b41 q05;replace q10:=below_cell b41 q10;replace q11:=below_cell b41 q11;replace q12:=below_cell b41 q12;replace r00:=below_cell b41 r00;replace r01:=below_cell b41 r01;replace r02:=below_cell b41 r02;replace hR0:=below_row b41 hR0)
     | (go_at_call 55;(fail_if_success clear b42);refine (qAdd_ap s0 a0 n0 c0 X0 b0 m0 d0 Y0 (ng Z1) p41 (ln (am Z1)) (ln (am Z1)) (am Z1) q41 (ln V1) (ln V1) V1 Z V _ hc0 (by omega) (sb hS0 hB hBW) hd0 (by omega) (sb hT0 hB hBW) (Nat.le_refl _) (by omega) hp41.seg (Nat.le_refl _) (by omega) hq41.seg G2.out).mono ?_;rintro e w42 ⟨p42,q42,rfl,hp42,hq42,hap42⟩;have b42:=hp42.below;replace hp42:=hp42.back hBW;replace hq42:=hq42.back hBW;replace hBW:=hBW.trans (b42.mono hBW.size);replace q00:=below_cell b42 q00;replace q01:=below_cell b42 q01;replace q02:=below_cell b42 q02;replace q03:=below_cell b42 q03;replace q04:=below_cell b42 q04;replace q05:=below_cell b42 q05;replace q10:=below_cell b42 q10;replace q11:=below_cell b42 q11;replace q12:=below_cell b42 q12;replace r00:=below_cell b42 r00;replace r01:=below_cell b42 r01;replace r02:=below_cell b42 r02;replace hR0:=below_row b42 hR0;replace hp41:=hp41.later b42;replace hq41:=hq41.later b42;have fz:=fun o=>hR0.frozen o))
  | fail
 have fz0:=fun o=>hR0.frozen o
 go_wp2
 all_goals refine bodyPost_ret (v:=Value.agg #[Value.bool (ng Z),Value.slice p42 (ln (am Z)) (ln (am Z)),Value.slice q42 (ln V) (ln V)]) (by rw [results_cell rfl];go_simp) rfl ?_
 all_goals exact ⟨p42,q42,rfl,hp42.mid hB (((((Mid.refl _ _ _).set _ _ (by omega) (by omega) _).set _ _ (by omega) (by omega) _).set _ _ (by omega) (by omega) _)),hq42.mid hB (((((Mid.refl _ _ _).set _ _ (by omega) (by omega) _).set _ _ (by omega) (by omega) _).set _ _ (by omega) (by omega) _)),hap42⟩
end Go.Proofs.YtfppjaoddicgpaaGreatDoor
