import Derived.Test.YtgfmaejhdbmkoaaGreatWQ3
import Derived.Test.YtgfmaejhdbmkoaaGreatNumV
set_option linter.unusedSimpArgs false
namespace Go.Proofs.YtgfmaejhdbmkoaaGreat
open Go.RowKit
set_option linter.unusedVariables false
set_option maxHeartbeats 4000000 in
set_option maxRecDepth 100000 in
theorem qAdd_is (s0:Bool) (a0:Option Addr) (n0 c0 X0:Nat) (b0:Option Addr) (m0 d0 Y0:Nat) (s1:Bool) (a1:Option Addr) (n1 c1 X1:Nat) (b1:Option Addr) (m1 d1 Y1:Nat) (Z:Int) (V:Nat) (w:World) (hc0:n0≤c0) (hm0:n0≤1099511627776) (hS0:Seg w a0 X0 n0) (hd0:m0≤d0) (hk0:m0≤1099511627776) (hT0:Seg w b0 Y0 m0) (hc1:n1≤c1) (hm1:n1≤1099511627776) (hS1:Seg w a1 X1 n1) (hd1:m1≤d1) (hk1:m1≤1099511627776) (hT1:Seg w b1 Y1 m1) (hL:Low (rn s0 X0 Y0*(rd Y1:Nat)+rn s1 X1 Y1*(rd Y0:Nat)) ((rd Y0:Nat)*(rd Y1:Nat)) Z V) :
  Calls Tryz.prog 92 #[Value.agg #[Value.bool s0,Value.slice a0 n0 c0,Value.slice b0 m0 d0],Value.agg #[Value.bool s1,Value.slice a1 n1 c1,Value.slice b1 m1 d1]] w fun e w'=>∃ p q,e=.returned (.agg #[.bool (ng Z),.slice p (ln (am Z)) (ln (am Z)),.slice q (ln V) (ln V)])∧New w w' p (am Z) (ln (am Z))∧New w w' q V (ln V):=by
 have HL:=xQ1 hL
 clear hL
 go_enter Tryz.func92,Tryz.ntmps92
 go_wp2_with fail
 obtain ⟨W,hW⟩:∃ W,(((w.alloc (.cells #[.bool s0,.slice a0 n0 c0,.slice b0 m0 d0] 55)).alloc (.cells #[.bool s1,.slice a1 n1 c1,.slice b1 m1 d1] 55)).alloc (.cells #[.bool false,.slice none 0 0,.slice none 0 0] 55))=W:=⟨_,rfl⟩
 have q00:W.cell? ⟨w.heap.size,0,none⟩=some (.bool s0):=by subst hW;go_simp
 have q01:W.cell? ⟨w.heap.size,1,none⟩=some (.slice a0 n0 c0):=by subst hW;go_simp
 have q02:W.cell? ⟨w.heap.size,2,none⟩=some (.slice b0 m0 d0):=by subst hW;go_simp
 have q10:W.cell? ⟨w.heap.size+1,0,none⟩=some (.bool s1):=by subst hW;go_simp
 have q11:W.cell? ⟨w.heap.size+1,1,none⟩=some (.slice a1 n1 c1):=by subst hW;go_simp
 have q12:W.cell? ⟨w.heap.size+1,2,none⟩=some (.slice b1 m1 d1):=by subst hW;go_simp
 have r00:W.cell? ⟨w.heap.size+1+1,0,none⟩=some (.bool false):=by subst hW;go_simp
 have r01:W.cell? ⟨w.heap.size+1+1,1,none⟩=some (.slice none 0 0):=by subst hW;go_simp
 have r02:W.cell? ⟨w.heap.size+1+1,2,none⟩=some (.slice none 0 0):=by subst hW;go_simp
 have hB:Below w.heap.size w W:=by subst hW;exact ((((Below.refl _ _).alloc (by (try simp only [World.size_alloc]);omega) _).alloc (by (try simp only [World.size_alloc]);omega) _).alloc (by (try simp only [World.size_alloc]);omega) _)
 have hR0:Row W (w.heap.size+1+1):=by
  have:=xQ9 (((w.alloc (.cells #[.bool s0,.slice a0 n0 c0,.slice b0 m0 d0] 55)).alloc (.cells #[.bool s1,.slice a1 n1 c1,.slice b1 m1 d1] 55))) #[.bool false,.slice none 0 0,.slice none 0 0] 55
  try simp only [World.size_alloc] at this
  subst hW;exact this
 have hz:W.heap.size=w.heap.size+1+1+1:=by subst hW;simp only [World.size_alloc]
 rw [hW]
 clear hW
 have hBW:Below W.heap.size W W:=Below.refl _ _
 replace hBW:=hBW.drew
 first
  | go_region_held3 (fun w'=>w'.cell? ⟨w.heap.size,0,none⟩=some (.bool s0)∧w'.cell? ⟨w.heap.size,1,none⟩=some (.slice a0 n0 c0)∧w'.cell? ⟨w.heap.size,2,none⟩=some (.slice b0 m0 d0)∧w'.cell? ⟨w.heap.size+1,0,none⟩=some (.bool s1)∧w'.cell? ⟨w.heap.size+1,1,none⟩=some (.slice a1 n1 c1)∧w'.cell? ⟨w.heap.size+1,2,none⟩=some (.slice b1 m1 d1)∧Below w.heap.size w w')
    (first | exact ⟨q00,q01,q02,q10,q11,q12,hB.trans (hBW.mono hB.size)⟩ | exact kp6 b11 (by assumption) | exact kp6 b12 (by assumption) | exact kp6 b13 (by assumption) | exact kp6 (xQ2 _) (by assumption) | exact kp6 (xQ2 _) ⟨q00,q01,q02,q10,q11,q12,hB.trans (hBW.mono hB.size)⟩ | exact kpT6_3 (by assumption) (by omega) (by omega) (by omega) (by omega) (by omega) (by omega) (by omega))
    (first
     | (go_at_call 76;go_at_call_of 76 (Value.agg #[Value.bool s0,Value.slice a0 n0 c0,Value.slice b0 m0 d0]);(fail_if_success clear b11);refine (read_is s0 a0 n0 c0 X0 b0 m0 d0 Y0 1099511627776 _ hc0 hm0 (sb hS0 hB hBW) hd0 hk0 (sb hT0 hB hBW) (by omega) (by omega)).mono ?_;rintro e w11 ⟨zs11,zp11,zn11,zc11,zX11,zq11,zm11,zd11,rfl,ga11,gb11,gc11,gd11,kS11,kT11,ge11,bb11⟩;have b11:=bb11;replace hBW:=hBW.trans (b11.mono hBW.size);replace q00:=xQ0 b11 q00;replace q01:=xQ0 b11 q01;replace q02:=xQ0 b11 q02;replace q10:=xQ0 b11 q10;replace q11:=xQ0 b11 q11;replace q12:=xQ0 b11 q12;replace r00:=xQ0 b11 r00;replace r01:=xQ0 b11 r01;replace r02:=xQ0 b11 r02;replace hR0:=xQ3 b11 hR0)
     | (go_at_call 76;go_at_call_of 76 (Value.agg #[Value.bool s1,Value.slice a1 n1 c1,Value.slice b1 m1 d1]);(fail_if_success clear b12);refine (read_is s1 a1 n1 c1 X1 b1 m1 d1 Y1 1099511627776 _ hc1 hm1 (sb hS1 hB hBW) hd1 hk1 (sb hT1 hB hBW) (by omega) (by omega)).mono ?_;rintro e w12 ⟨zs12,zp12,zn12,zc12,zX12,zq12,zm12,zd12,rfl,ga12,gb12,gc12,gd12,kS12,kT12,ge12,bb12⟩;have b12:=bb12;replace hBW:=hBW.trans (b12.mono hBW.size);replace q00:=xQ0 b12 q00;replace q01:=xQ0 b12 q01;replace q02:=xQ0 b12 q02;replace q10:=xQ0 b12 q10;replace q11:=xQ0 b12 q11;replace q12:=xQ0 b12 q12;replace r00:=xQ0 b12 r00;replace r01:=xQ0 b12 r01;replace r02:=xQ0 b12 r02;replace hR0:=xQ3 b12 hR0;replace kS11:=kS11.later b12;replace kT11:=kT11.later b12)
     | (go_at_call 117;(fail_if_success clear b13);refine (qsum_is zs11 zp11 zn11 zc11 zX11 zq11 zm11 zd11 (rd Y0) zs12 zp12 zn12 zc12 zX12 zq12 zm12 zd12 (rd Y1) _ _ Z V _ ga11 gb11 kS11 gc11 gd11 kT11 ga12 gb12 kS12 gc12 gd12 kT12 ge11 ge12 HL.out).mono ?_;rintro e w13 ⟨p13,q13,rfl,hp13,hq13⟩;have b13:=hp13.below;replace hp13:=hp13.back hBW;replace hq13:=hq13.back hBW;replace hBW:=hBW.trans (b13.mono hBW.size);replace q00:=xQ0 b13 q00;replace q01:=xQ0 b13 q01;replace q02:=xQ0 b13 q02;replace q10:=xQ0 b13 q10;replace q11:=xQ0 b13 q11;replace q12:=xQ0 b13 q12;replace r00:=xQ0 b13 r00;replace r01:=xQ0 b13 r01;replace r02:=xQ0 b13 r02;replace hR0:=xQ3 b13 hR0;replace kS11:=kS11.later b13;replace kT11:=kT11.later b13;replace kS12:=kS12.later b13;replace kT12:=kT12.later b13;have fz:=fun o=>hR0.frozen o))
  | fail
 have fz0:=fun o=>hR0.frozen o
 go_wp2
 all_goals refine bodyPost_ret (v:=Value.agg #[Value.bool (ng Z),Value.slice p13 (ln (am Z)) (ln (am Z)),Value.slice q13 (ln V) (ln V)]) (by rw [xQ5 rfl];go_simp) rfl ?_
 all_goals exact ⟨p13,q13,rfl,hp13.mid hB (((((Mid.refl _ _ _).set _ _ (by omega) (by omega) _).set _ _ (by omega) (by omega) _).set _ _ (by omega) (by omega) _)),hq13.mid hB (((((Mid.refl _ _ _).set _ _ (by omega) (by omega) _).set _ _ (by omega) (by omega) _).set _ _ (by omega) (by omega) _))⟩
set_option maxHeartbeats 2000000 in
set_option maxRecDepth 100000 in
theorem byHalves_none (a:Option Addr) (cap:Nat) (s:Bool) (p:Option Addr) (n c:Nat) (b:Option Addr) (m e:Nat) (F:Value) (w:World) :
  Calls Tryz.prog 91 #[.slice a 0 cap,.agg #[.bool s,.slice p n c,.slice b m e],F] w fun r w'=>r=.returned (.agg #[.bool s,.slice p n c,.slice b m e])∧Below w.heap.size w w':=by
 go_enter Tryz.func91,Tryz.ntmps91
 go_wp2_with fail
 refine bodyPost_ret (v:=Value.agg #[Value.bool s,Value.slice p n c,Value.slice b m e]) (by rw [xQ5 rfl];go_simp) rfl ?_
 exact ⟨rfl,((Below.refl _ _).alloc (Nat.le_refl _) _).alloc (by simp only [World.size_alloc];omega) _⟩
set_option maxHeartbeats 2000000 in
set_option maxRecDepth 100000 in
theorem byHalves_one (b off cap:Nat) (q:RatV) (s:Bool) (p':Option Addr) (n c:Nat) (b':Option Addr) (m e:Nat) (F:Value) (w:World) (hb:b < w.heap.size) (hq:q.lies w b off) :
  Calls Tryz.prog 91 #[.slice (some ⟨b,off,none⟩) 1 cap,.agg #[.bool s,.slice p' n c,.slice b' m e],F] w fun r w'=>r=.returned (.agg #[.bool q.s,.slice q.a q.n q.c,.slice q.b q.m q.e])∧Below w.heap.size w w':=by
 obtain ⟨h0,h1,h2⟩:=hq
 go_enter Tryz.func91,Tryz.ntmps91
 have hB:Below w.heap.size w ((w.alloc (.cells #[.bool s,.slice p' n c,.slice b' m e] 55)).alloc (.cells #[.bool false,.slice none 0 0,.slice none 0 0] 55)):=((Below.refl _ _).alloc (Nat.le_refl _) _).alloc (by simp only [World.size_alloc];omega) _
 have k0:=xQ0 hB h0
 have k1:=xQ0 hB h1
 have k2:=xQ0 hB h2
 go_wp2_with fail
 refine bodyPost_ret (v:=Value.agg #[Value.bool q.s,Value.slice q.a q.n q.c,Value.slice q.b q.m q.e]) (by rw [xQ5 rfl];go_simp) rfl ?_
 exact ⟨rfl,((Below.refl _ _).alloc (Nat.le_refl _) _).alloc (by simp only [World.size_alloc];omega) _⟩
theorem A_elem_Rats (w:World):(sizeOf (Tryz.prog.elem 126)).run Tryz.prog w=.ok 3 w:=by kernel_rfl
set_option maxRecDepth 30000 in
theorem sl_head (b off len cap h:Nat) (hc:h≤cap) (w:World) :
  (Instr.slice 126 (.slice (some ⟨b,off,none⟩) len cap) none (some (.int .i64 (h:Int))) none).run Tryz.prog w=.ok (.slice (some ⟨b,off,none⟩) h cap) w:=by
 rw [run_slice_h (P:=Tryz.prog) w 126 _ len cap Tryz.underlying126 .i64 _ (by omega) (by omega)]
 rw [A_elem_Rats]
 simp [Result.andThen,sliced,Addr.add]
set_option maxRecDepth 30000 in
theorem sl_rest (b off len cap h:Nat) (hl:h≤len) (hc:h < cap) (w:World) :
  (Instr.slice 126 (.slice (some ⟨b,off,none⟩) len cap) (some (.int .i64 (h:Int))) none none).run Tryz.prog w=.ok (.slice (some ⟨b,off+h*3,none⟩) (len - h) (cap - h)) w:=by
 rw [run_slice_l (P:=Tryz.prog) w 126 _ len cap Tryz.underlying126 .i64 _ (by omega) (by omega)]
 rw [A_elem_Rats]
 simp [Result.andThen,sliced,Addr.add]
 rw [if_neg (by omega)]
 split
 ·have:h=0:=by omega
  subst this;simp
 ·rfl
set_option maxHeartbeats 2000000 in
set_option maxRecDepth 100000 in
theorem byHalves_many (b off len cap h:Nat) (p:Option Addr) (n c:Nat) (p':Option Addr) (m e:Nat) (s:Bool) (Z1 Z2 Z:Int) (V1 V2 V:Nat) (w:World) (hlen:2≤len) (hcap:len≤cap) (hmax:cap≤9223372036854775807) (hh:h=len / 2)
  (l1:ln (am Z1)≤1099511627776) (l2:ln V1≤1099511627776) (l3:ln (am Z2)≤1099511627776) (l4:ln V2≤1099511627776) (v1:0 < V1) (v2:0 < V2)
  (H1:∀ w',Below w.heap.size w w'→Calls Tryz.prog 91 #[.slice (some ⟨b,off,none⟩) h cap,.agg #[.bool s,.slice p n c,.slice p' m e],.func (.func 92) #[] #[]] w' fun r w''=>∃ x y,r=.returned (.agg #[.bool (ng Z1),.slice x (ln (am Z1)) (ln (am Z1)),.slice y (ln V1) (ln V1)])∧Below w'.heap.size w' w''∧Seg w'' x (am Z1) (ln (am Z1))∧Seg w'' y V1 (ln V1))
  (H2:∀ w',Below w.heap.size w w'→Calls Tryz.prog 91 #[.slice (some ⟨b,off+h*3,none⟩) (len - h) (cap - h),.agg #[.bool s,.slice p n c,.slice p' m e],.func (.func 92) #[] #[]] w' fun r w''=>∃ x y,r=.returned (.agg #[.bool (ng Z2),.slice x (ln (am Z2)) (ln (am Z2)),.slice y (ln V2) (ln V2)])∧Below w'.heap.size w' w''∧Seg w'' x (am Z2) (ln (am Z2))∧Seg w'' y V2 (ln V2))
  (hL:Low (Z1*(V2:Nat)+Z2*(V1:Nat)) ((V1:Int)*(V2:Nat)) Z V) :
  Calls Tryz.prog 91 #[.slice (some ⟨b,off,none⟩) len cap,.agg #[.bool s,.slice p n c,.slice p' m e],.func (.func 92) #[] #[]] w fun r w'=>∃ x y,r=.returned (.agg #[.bool (ng Z),.slice x (ln (am Z)) (ln (am Z)),.slice y (ln V) (ln V)])∧Below w.heap.size w w'∧Seg w' x (am Z) (ln (am Z))∧Seg w' y V (ln V):=by
 have G1:=xQ1 H1
 have G2:=xQ1 H2
 have G3:=xQ1 (fun w' x1 y1 x2 y2 k1 k2 k3 k4=>qAdd_is (ng Z1) x1 (ln (am Z1)) (ln (am Z1)) (am Z1) y1 (ln V1) (ln V1) V1 (ng Z2) x2 (ln (am Z2)) (ln (am Z2)) (am Z2) y2 (ln V2) (ln V2) V2 Z V w' (Nat.le_refl _) l1 k1 (Nat.le_refl _) l2 k2 (Nat.le_refl _) l3 k3 (Nat.le_refl _) l4 k4
  (by rw [rn_nf v1,rn_nf v2,rd_nf v1,rd_nf v2];exact hL))
 clear H1 H2 hL l1 l2 l3 l4 v1 v2
 have e0:¬ ((len:Int)=0):=by omega
 have e1:¬ ((len:Int)=1):=by omega
 have eh:wrap64 ((len:Int) / 2)=(h:Int):=by rw [wrap64_small (by omega) (by omega)];omega
 have i0:(0:Int)≤(h:Int):=by omega
 have i1:(h:Int)≤(cap:Int):=by omega
 have i2:(h:Int)≤(len:Int):=by omega
 have i3:(len:Int)≤(cap:Int):=by omega
 have i4:h≤len:=by omega
 have i5:h≤cap:=by omega
 have sl1:=sl_head b off len cap h i5
 have sl2:=sl_rest b off len cap h i4 (by omega)
 go_enter Tryz.func91,Tryz.ntmps91
 go_wp2_with fail
 rw [show (len:Int) / 2=(h:Int) by omega]
 clear hh eh e0 e1
 obtain ⟨W,hW⟩:∃ W,((w.alloc (.cells #[.bool s,.slice p n c,.slice p' m e] 55)).alloc (.cells #[.bool false,.slice none 0 0,.slice none 0 0] 55))=W:=⟨_,rfl⟩
 have q00:W.cell? ⟨w.heap.size,0,none⟩=some (.bool s):=by subst hW;go_simp
 have q01:W.cell? ⟨w.heap.size,1,none⟩=some (.slice p n c):=by subst hW;go_simp
 have q02:W.cell? ⟨w.heap.size,2,none⟩=some (.slice p' m e):=by subst hW;go_simp
 have r00:W.cell? ⟨w.heap.size+1,0,none⟩=some (.bool false):=by subst hW;go_simp
 have r01:W.cell? ⟨w.heap.size+1,1,none⟩=some (.slice none 0 0):=by subst hW;go_simp
 have r02:W.cell? ⟨w.heap.size+1,2,none⟩=some (.slice none 0 0):=by subst hW;go_simp
 have hB:Below w.heap.size w W:=by subst hW;exact (((Below.refl _ _).alloc (by (try simp only [World.size_alloc]);omega) _).alloc (by (try simp only [World.size_alloc]);omega) _)
 have hR0:Row W (w.heap.size+1):=by
  have:=xQ9 ((w.alloc (.cells #[.bool s,.slice p n c,.slice p' m e] 55))) #[.bool false,.slice none 0 0,.slice none 0 0] 55
  try simp only [World.size_alloc] at this
  subst hW;exact this
 have hz:W.heap.size=w.heap.size+1+1:=by subst hW;simp only [World.size_alloc]
 rw [hW]
 clear hW
 have hBW:Below W.heap.size W W:=Below.refl _ _
 replace hBW:=hBW.drew
 first
  | go_region_held3 (fun w'=>w'.cell? ⟨w.heap.size,0,none⟩=some (.bool s)∧w'.cell? ⟨w.heap.size,1,none⟩=some (.slice p n c)∧w'.cell? ⟨w.heap.size,2,none⟩=some (.slice p' m e)∧Below w.heap.size w w')
    (first | exact ⟨q00,q01,q02,hB.trans (hBW.mono hB.size)⟩ | exact kp3 b1 (by assumption) | exact kp3 b2 (by assumption) | exact kp3 b3 (by assumption) | exact kp3 (xQ2 _) (by assumption) | exact kp3 (xQ2 _) ⟨q00,q01,q02,hB.trans (hBW.mono hB.size)⟩ | exact kpT3_3 (by assumption) (by omega) (by omega) (by omega) (by omega))
    (first
     | (go_at_call 91;go_at_call_of 91 (Value.slice (some ⟨b,off,none⟩) h cap);(fail_if_success clear b1);refine (G1.out _ (hB.trans (hBW.mono hB.size))).mono ?_;rintro e w1 ⟨x1,y1,rfl,g1,kx1,ky1⟩;have b1:=g1;replace hBW:=hBW.trans (b1.mono hBW.size);replace q00:=xQ0 b1 q00;replace q01:=xQ0 b1 q01;replace q02:=xQ0 b1 q02;replace r00:=xQ0 b1 r00;replace r01:=xQ0 b1 r01;replace r02:=xQ0 b1 r02;replace hR0:=xQ3 b1 hR0)
     | (go_at_call 91;go_at_call_of 91 (Value.slice (some ⟨b,off+h*3,none⟩) (len - h) (cap - h));(fail_if_success clear b2);refine (G2.out _ (hB.trans (hBW.mono hB.size))).mono ?_;rintro e w2 ⟨x2,y2,rfl,g2,kx2,ky2⟩;have b2:=g2;replace hBW:=hBW.trans (b2.mono hBW.size);replace q00:=xQ0 b2 q00;replace q01:=xQ0 b2 q01;replace q02:=xQ0 b2 q02;replace r00:=xQ0 b2 r00;replace r01:=xQ0 b2 r01;replace r02:=xQ0 b2 r02;replace hR0:=xQ3 b2 hR0;replace kx1:=kx1.later b2;replace ky1:=ky1.later b2)
     | (go_at_call 92;(fail_if_success clear b3);refine (G3.out _ x1 y1 x2 y2 kx1 ky1 kx2 ky2).mono ?_;rintro e w3 ⟨x3,y3,rfl,hx3,hy3⟩;have b3:=hx3.below;replace hx3:=hx3.back hBW;replace hy3:=hy3.back hBW;replace hBW:=hBW.trans (b3.mono hBW.size);replace q00:=xQ0 b3 q00;replace q01:=xQ0 b3 q01;replace q02:=xQ0 b3 q02;replace r00:=xQ0 b3 r00;replace r01:=xQ0 b3 r01;replace r02:=xQ0 b3 r02;replace hR0:=xQ3 b3 hR0;replace kx1:=kx1.later b3;replace ky1:=ky1.later b3;replace kx2:=kx2.later b3;replace ky2:=ky2.later b3;have fz:=fun o=>hR0.frozen o))
  | fail
 have fz0:=fun o=>hR0.frozen o
 go_wp2
 all_goals refine bodyPost_ret (v:=Value.agg #[Value.bool (ng Z),Value.slice x3 (ln (am Z)) (ln (am Z)),Value.slice y3 (ln V) (ln V)]) (by rw [xQ5 rfl];go_simp) rfl ?_
 all_goals exact ⟨x3,y3,rfl,(hx3.mid hB (((((Mid.refl _ _ _).set _ _ (by omega) (by omega) _).set _ _ (by omega) (by omega) _).set _ _ (by omega) (by omega) _))).below,(hx3.mid hB (((((Mid.refl _ _ _).set _ _ (by omega) (by omega) _).set _ _ (by omega) (by omega) _).set _ _ (by omega) (by omega) _))).seg,(hy3.mid hB (((((Mid.refl _ _ _).set _ _ (by omega) (by omega) _).set _ _ (by omega) (by omega) _).set _ _ (by omega) (by omega) _))).seg⟩
structure RatV.low (q:RatV):Prop where
 hs:ng (sg q.s q.X)=q.s
 hn:q.n=ln q.X
 hc:q.c=ln q.X
 hm:q.m=ln q.Y
 he:q.e=ln q.Y
 pos:0 < q.Y
 cop:Nat.gcd q.X q.Y=1
theorem RatV.ok.later {w w':World} {q:RatV} (h:q.ok w) (hb:Below w.heap.size w w'):q.ok w':=⟨h.1.later hb,h.2.1,h.2.2.1,h.2.2.2.1.later hb,h.2.2.2.2.1,h.2.2.2.2.2⟩
theorem RatV.lies.later {w w':World} {b off:Nat} {q:RatV} (h:q.lies w b off) (hb:Below w.heap.size w w'):q.lies w' b off:=⟨xQ0 hb h.1,xQ0 hb h.2.1,xQ0 hb h.2.2⟩
theorem RatsAt.later {w w':World} {a:Option Addr} {n:Nat} {q:Nat→RatV} (h:RatsAt w a n q) (hb:Below w.heap.size w w'):RatsAt w' a n q:=fun hn=>by
 obtain ⟨b,off,e,hl,hc⟩:=h hn
 exact ⟨b,off,e,Nat.lt_of_lt_of_le hl hb.size,fun i hi=>(hc i hi).later hb⟩
theorem low_halves {l m:List (Int × Nat)} {Z1 Z2 Z:Int} {V1 V2 V:Nat} (h1:Low (lnum l) (lden l:Nat) Z1 V1) (h2:Low (lnum m) (lden m:Nat) Z2 V2) (h:Low (lnum (l ++ m)) (lden (l ++ m):Nat) Z V):Low (Z1*(V2:Nat)+Z2*(V1:Nat)) ((V1:Int)*(V2:Nat)) Z V:=by
 have p1:=h1.pos
 have p2:=h2.pos
 obtain ⟨Z',V',h'⟩:=low_ex (Z1*(V2:Nat)+Z2*(V1:Nat)) ((V1:Int)*(V2:Nat)) (Int.mul_ne_zero (by omega) (by omega))
 obtain ⟨rfl,rfl⟩:=Low.uniq h (low_sum h1 h2 h') rfl
 exact h'
theorem byHalves_is:∀ (k len:Nat) (a:Option Addr) (cap:Nat) (q:Nat→RatV) (p p':Option Addr) (Z:Int) (V:Nat) (w:World),len≤k→len≤cap→cap≤9223372036854775807→RatsAt w a len q→(∀ i,i < len→(q i).ok w)→(∀ i,i < len→(q i).low) →
  bulkV q len+1≤1099511627776→Seg w p' 1 1→Low (lnum (lq q len)) (lden (lq q len):Nat) Z V →
  Calls Tryz.prog 91 #[.slice a len cap,.agg #[.bool false,.slice p 0 0,.slice p' 1 1],.func (.func 92) #[] #[]] w fun r w'=>∃ x y,r=.returned (.agg #[.bool (ng Z),.slice x (ln (am Z)) (ln (am Z)),.slice y (ln V) (ln V)])∧Below w.heap.size w w'∧Seg w' x (am Z) (ln (am Z))∧Seg w' y V (ln V)
 | 0,len,a,cap,q,p,p',Z,V,w,hk,hc,hm,hA,ho,hlo,hbk,hO,hL=>by
  obtain rfl:len=0:=by omega
  obtain ⟨rfl,rfl⟩:=Low.zero hL
  refine (byHalves_none a cap false p 0 0 p' 1 1 _ w).mono ?_
  rintro r w' ⟨rfl,hb⟩
  have e1:am 0=0:=rfl
  exact ⟨p,p',by rw [e1,xX7,ln_one];rfl,hb,by rw [e1,xX7];exact Seg.nil _ _,by rw [ln_one];exact hO.later hb⟩
 | k+1,len,a,cap,q,p,p',Z,V,w,hk,hc,hm,hA,ho,hlo,hbk,hO,hL=>by
  rcases Nat.lt_or_ge len 1 with h0 | h0
  ·exact byHalves_is k len a cap q p p' Z V w (by omega) hc hm hA ho hlo hbk hO hL
  obtain ⟨b,off,rfl,hlt,hcell⟩:=hA (by omega)
  rcases Nat.lt_or_ge len 2 with h1 | h1
  ·obtain rfl:len=1:=by omega
   have hq:=hlo 0 (by omega)
   have hok:=ho 0 (by omega)
   have hl0:=hcell 0 (by omega)
   rw [Nat.zero_mul,Nat.add_zero] at hl0
   have eA:lnum (lq q 1)=sg (q 0).s (q 0).X:=by
    show rn (q 0).s (q 0).X (q 0).Y*((1:Nat):Int)+0*_=_
    rw [rn_of (by have:=hq.pos;omega)]
    simp
   have eD:lden (lq q 1)=(q 0).Y:=by
    show rd (q 0).Y*1=_
    rw [rd_of (by have:=hq.pos;omega),Nat.mul_one]
   rw [eA,eD] at hL
   obtain ⟨rfl,rfl⟩:=Low.uniq hL (Low.self (Z:=sg (q 0).s (q 0).X) hq.pos (by rw [am_sg];exact hq.cop)) rfl
   refine (byHalves_one b off cap (q 0) false p 0 0 p' 1 1 _ w hlt hl0).mono ?_
   rintro r w' ⟨rfl,hb⟩
   have s1:=hok.1.later hb
   have s2:=hok.2.2.2.1.later hb
   rw [hq.hn] at s1
   rw [hq.hm] at s2
   refine ⟨(q 0).a,(q 0).b,?_,hb,?_,s2⟩
   ·rw [hq.hs,am_sg,hq.hn,hq.hc,hq.hm,hq.he]
   ·rw [am_sg];exact s1
  ·obtain ⟨h,hh⟩:∃ h,h=len / 2:=⟨_,rfl⟩
   obtain ⟨j,hj⟩:∃ j,len=h+j:=⟨len - h,by omega⟩
   have hsum:lq q len=lq q h ++ lq (fun i=>q (h+i)) j:=by rw [hj,lq_add]
   have hbs:bulkV q len=bulkV q h+bulkV (fun i=>q (h+i)) j:=by rw [hj,bulkV_add]
   obtain ⟨Z1,V1,L1⟩:=low_ex (lnum (lq q h)) (lden (lq q h):Nat) (by have:=lden_lq_pos q h;omega)
   obtain ⟨Z2,V2,L2⟩:=low_ex (lnum (lq (fun i=>q (h+i)) j)) (lden (lq (fun i=>q (h+i)) j):Nat) (by have:=lden_lq_pos (fun i=>q (h+i)) j;omega)
   have B1:=lq_ln (W:=w) (fun i hi=>ho i (by omega)) L1
   have B2:=lq_ln (W:=w) (q:=fun i=>q (h+i)) (fun i hi=>ho (h+i) (by omega)) L2
   rw [hsum] at hL
   refine byHalves_many b off len cap h p 0 0 p' 1 1 false Z1 Z2 Z V1 V2 V w h1 hc hm hh (by omega) (by omega) (by omega) (by omega) L1.pos L2.pos (fun w' hb=>?_) (fun w' hb=>?_) (low_halves L1 L2 hL)
   ·exact byHalves_is k h _ cap q p p' Z1 V1 w' (by omega) (by omega) hm (fun _=>⟨b,off,rfl,Nat.lt_of_lt_of_le hlt hb.size,fun i hi=>(hcell i (by omega)).later hb⟩) (fun i hi=>(ho i (by omega)).later hb) (fun i hi=>hlo i (by omega)) (by omega) (hO.later hb) L1
   ·rw [show len - h=j by omega]
    refine byHalves_is k j _ (cap - h) (fun i=>q (h+i)) p p' Z2 V2 w' (by omega) (by omega) (by omega) (fun _=>⟨b,off+h*3,rfl,Nat.lt_of_lt_of_le hlt hb.size,fun i hi=>?_⟩) (fun i hi=>(ho (h+i) (by omega)).later hb) (fun i hi=>hlo (h+i) (by omega)) (by omega) (hO.later hb) L2
    have:=(hcell (h+i) (by omega)).later hb
    rw [show off+h*3+i*3=off+(h+i)*3 by omega]
    exact this
end Go.Proofs.YtgfmaejhdbmkoaaGreat
