import Derived.Test.YtlklfkkbdcglbaaGreatWI1
import Derived.Test.YtlklfkkbdcglbaaGreatWI4
import Derived.Test.YtlklfkkbdcglbaaGreatW11
import Derived.Test.YtlklfkkbdcglbaaGreatNumQ
import Derived.Test.YtlklfkkbdcglbaaGreatW17
set_option linter.unusedSimpArgs false
namespace Go.Proofs.YtlklfkkbdcglbaaGreat
open Go.RowKit
set_option linter.unusedVariables false
theorem results_cct {fn:Func} {p p2 p3:Tmp} {ty ty2:TypeId} (h:fn.results=#[.cell p ty,.cell p2 ty2,.tmp p3]) (tmps:Array Value) (P:Program) (w:World) :
  (results fn tmps).run P w=((asAddr (tmps.getD p undef)).run P w).andThen fun a w1=>((loadVar ty a).run P w1).andThen fun v w2=>((asAddr (tmps.getD p2 undef)).run P w2).andThen fun a2 w3=>((loadVar ty2 a2).run P w3).andThen fun v2 w4=>.ok (.tuple #[v,v2,tmps.getD p3 undef]) w4:=by
 simp only [results,h]
 simp [Sem.run_bind]
structure Mid (lo hi:Nat) (w w':World):Prop where
 os:w'.os=w.os
 tape:w'.tape=w.tape
 output:w'.output=w.output
 size:w.heap.size≤w'.heap.size
 other:∀ k,k < w.heap.size→(k < lo∨hi≤k)→w'.heap[k]?=w.heap[k]?
theorem Mid.refl (lo hi:Nat) (w:World):Mid lo hi w w:=⟨rfl,rfl,rfl,Nat.le_refl _,fun _ _ _=>rfl⟩
theorem Mid.set {lo hi:Nat} {w w':World} (h:Mid lo hi w w') (c o:Nat) (h1:lo≤c) (h2:c < hi) (u:Value):Mid lo hi w (w'.setCell ⟨c,o,none⟩ u) :=
 ⟨h.os,h.tape,h.output,by have:=h.size;simpa [World.setCell] using this,fun k hk hor=>by rw [Below.heap_setCell _ _ _ _ (by show k≠c;omega)];exact h.other k hk hor⟩
theorem Mid.drew {lo hi:Nat} {w w':World} (h:Mid lo hi w w'):Mid lo hi w w'.drew:=⟨h.os,h.tape,h.output,h.size,h.other⟩
theorem Mid.below {lo hi:Nat} {w w':World} (h:Mid lo hi w w') (hl:lo≤w.heap.size):Below lo w w':=⟨h.os,h.tape,h.output,h.size,fun k hk=>h.other k (by omega) (Or.inl hk)⟩
theorem New.mid {w L w6 w':World} {a:Option Addr} {Z n:Nat} (h:New L w6 a Z n) (hB:Below w.heap.size w L) (hM:Mid w.heap.size L.heap.size w6 w'):New w w' a Z n:=by
 have hs:=Nat.le_trans hB.size h.below.size
 refine ⟨⟨h.seg.1,fun hn=>?_⟩,(hB.trans (h.below.mono hB.size)).trans (hM.below hs),fun hn=>?_⟩
 ·obtain ⟨b,off,rfl,hb,hr⟩:=h.fresh hn
  refine ⟨b,off,rfl,Nat.lt_of_lt_of_le hr.lt hM.size,fun i hi=>?_⟩
  rw [World.cell?_of_block (w:=w6) (a:=⟨b,off+i,none⟩) (hM.other b hr.lt (Or.inr hb))]
  exact h.seg.cells i hi
 ·obtain ⟨b,off,e,hb,hr⟩:=h.fresh hn
  have hlt:=hr.lt
  obtain ⟨cur,t,hh⟩:=hr
  exact ⟨b,off,e,Nat.le_trans hB.size hb,cur,t,by rw [hM.other b hlt (Or.inr hb)];exact hh⟩
structure Fre (lo:Nat) (w':World) (ao:Option Addr) (Z n:Nat):Prop where
 seg:Seg w' ao Z n
 fresh:0 < n→∃ b off,ao=some ⟨b,off,none⟩∧lo≤b∧Row w' b
theorem New.fre {w w':World} {a:Option Addr} {Z n:Nat} (h:New w w' a Z n):Fre w.heap.size w' a Z n:=⟨h.seg,h.fresh⟩
theorem Fre.later {lo:Nat} {w1 w':World} {a:Option Addr} {Z n:Nat} (h:Fre lo w1 a Z n) (hb:Below w1.heap.size w1 w'):Fre lo w' a Z n :=
 ⟨h.seg.below hb (Nat.le_refl _),fun hn=>by obtain ⟨b,off,e,hlt,hr⟩:=h.fresh hn;exact ⟨b,off,e,hlt,hr.below hb hr.lt⟩⟩
theorem Fre.drew {lo:Nat} {w':World} {a:Option Addr} {Z n:Nat} (h:Fre lo w' a Z n):Fre lo w'.drew a Z n:=⟨h.seg,h.fresh⟩
theorem Fre.mid {lo hi:Nat} {w6 w':World} {a:Option Addr} {Z n:Nat} (h:Fre hi w6 a Z n) (hM:Mid lo hi w6 w'):Fre hi w' a Z n:=by
 refine ⟨⟨h.seg.1,fun hn=>?_⟩,fun hn=>?_⟩
 ·obtain ⟨b,off,rfl,hb,hr⟩:=h.fresh hn
  refine ⟨b,off,rfl,Nat.lt_of_lt_of_le hr.lt hM.size,fun i hi=>?_⟩
  rw [World.cell?_of_block (w:=w6) (a:=⟨b,off+i,none⟩) (hM.other b hr.lt (Or.inr hb))]
  exact h.seg.cells i hi
 ·obtain ⟨b,off,e,hb,hr⟩:=h.fresh hn
  have hlt:=hr.lt
  obtain ⟨cur,t,hh⟩:=hr
  exact ⟨b,off,e,hb,cur,t,by rw [hM.other b hlt (Or.inr hb)];exact hh⟩
theorem set2_same {w:World} {c:Nat} {u v u0 v0:Value} (h0:w.cell? ⟨c,0,none⟩=some u0) (h1:w.cell? ⟨c,1,none⟩=some v0) :
  ((w.setCell ⟨c,0,none⟩ u).setCell ⟨c,1,none⟩ v).cell? ⟨c,0,none⟩=some u∧((w.setCell ⟨c,0,none⟩ u).setCell ⟨c,1,none⟩ v).cell? ⟨c,1,none⟩=some v:=by
 refine ⟨?_,?_⟩
 ·rw [World.cell?_setCell_other _ _ _ _ (fun e=>by simp at e)]
  exact World.cell?_setCell_same _ _ _ h0
 ·exact World.cell?_setCell_same (u:=v0) _ _ _ (by rw [World.cell?_setCell_other _ _ _ _ (fun e=>by simp at e)];exact h1)
theorem New.ret2 {w W w3:World} {a:Option Addr} {Z n c d:Nat} (h:New W w3 a Z n) (hB:Below w.heap.size w W) (hc:w.heap.size≤c) (hcW:c < W.heap.size) (hd:w.heap.size≤d) (hdW:d < W.heap.size) (u v u2 v2:Value) :
  New w ((((w3.setCell ⟨c,0,none⟩ u).setCell ⟨c,1,none⟩ v).setCell ⟨d,0,none⟩ u2).setCell ⟨d,1,none⟩ v2) a Z n:=by
 have hk:Wr c 0 2 w3 ((w3.setCell ⟨c,0,none⟩ u).setCell ⟨c,1,none⟩ v):=((Wr.refl _ _ _ _).setCell 0 (by omega) (by omega) u).setCell 1 (by omega) (by omega) v
 generalize (w3.setCell ⟨c,0,none⟩ u).setCell ⟨c,1,none⟩ v=w4 at hk ⊢
 have hk2:Wr d 0 2 w4 ((w4.setCell ⟨d,0,none⟩ u2).setCell ⟨d,1,none⟩ v2):=((Wr.refl _ _ _ _).setCell 0 (by omega) (by omega) u2).setCell 1 (by omega) (by omega) v2
 have hs3:=Nat.le_trans hB.size h.below.size
 refine ⟨?_,((hB.trans (h.below.mono hB.size)).trans (hk.below hc hs3)).trans (hk2.below hd (Nat.le_trans hs3 hk.size)),fun hn=>?_⟩
 ·by_cases hn:0 < n
  ·obtain ⟨b,off,rfl,hb,hr⟩:=h.fresh hn
   refine (h.seg.wr hk fun o e=>?_).wr hk2 fun o e=>?_
   ·simp only [Option.some.injEq,Addr.mk.injEq] at e
    omega
   ·simp only [Option.some.injEq,Addr.mk.injEq] at e
    omega
  ·exact ⟨h.seg.1,fun h=>absurd h hn⟩
 ·obtain ⟨b,off,e,hb,hr⟩:=h.fresh hn
  exact ⟨b,off,e,Nat.le_trans hB.size hb,((hr.of_wr hk (by omega)).setCell _ _).setCell _ _⟩
theorem res_eq3 {s t:Bool} {a b:Option Addr} {X Y:Nat} {Z V:Int} {e:Int} (hz:sg s X=Z) (hv:sg t Y=V):Ending.returned (.tuple #[.agg #[.bool (s && decide (0 < ln X)),.slice a (ln X) (ln X)],.agg #[.bool (t && decide (0 < ln Y)),.slice b (ln Y) (ln Y)],.int .i64 e]) =
  .returned (.tuple #[.agg #[.bool (ng Z),.slice a (ln (am Z)) (ln (am Z))],.agg #[.bool (ng V),.slice b (ln (am V)) (ln (am V))],.int .i64 e]):=by
 subst hz hv;rw [am_sg,ng_sg,am_sg,ng_sg]
set_option maxHeartbeats 2000000 in
set_option maxRecDepth 100000 in
theorem wQuo_is (s:Bool) (ao:Option Addr) (n cap X:Nat) (t:Bool) (ao2:Option Addr) (m cap2 Y P R:Nat) (Zq Zr:Int) (w:World) (hc:n≤cap) (hm:n≤70368744177663) (hS:Seg w ao X n) (hc2:m≤cap2) (hm2:m≤70368744177663) (hS2:Seg w ao2 Y m) (h:X=P*Y+R) (hR:R < Y) (hq:sg (s != t) P=Zq) (hr:sg s R=Zr) :
  Calls Tryz.prog 169 #[.agg #[.bool s,.slice ao n cap],.agg #[.bool t,.slice ao2 m cap2]] w fun e w'=>∃ aq ar,e=.returned (.tuple #[.agg #[.bool (ng Zq),.slice aq (ln (am Zq)) (ln (am Zq))],.agg #[.bool (ng Zr),.slice ar (ln (am Zr)) (ln (am Zr))],.int .i64 0])∧New w w' aq (am Zq) (ln (am Zq))∧New w w' ar (am Zr) (ln (am Zr)):=by
 have hP:P≤X:=by
  have h1:P*1≤P*Y:=Nat.mul_le_mul_left P (by omega)
  omega
 have hlp:ln P≤70368744177664:=by have:=ln_le_of_lt (Nat.lt_of_le_of_lt hP hS.1);omega
 have hlr:ln R≤70368744177664:=by have:=ln_le_of_lt (Nat.lt_trans hR hS2.1);omega
 have HD:∀ w',Seg w' ao X n→Seg w' ao2 Y m→_:=fun w' k1 k2=>Div_is ao ao2 n cap X m cap2 Y P R w' hc hm k1 hc2 hm2 k2 h hR
 have HDh:=hide' HD
 clear h hR HD hP
 go_enter Tryz.func169,Tryz.ntmps169
 go_wp2_with fail
 obtain ⟨W,hW⟩:∃ W,((((w.alloc (.cells #[.bool s,.slice ao n cap] 72)).alloc (.cells #[.bool t,.slice ao2 m cap2] 72)).alloc (.cells #[.bool false,.slice none 0 0] 72)).alloc (.cells #[.bool false,.slice none 0 0] 72))=W:=⟨_,rfl⟩
 have q00:W.cell? ⟨w.heap.size,0,none⟩=some (.bool s):=by subst hW;go_simp
 have q01:W.cell? ⟨w.heap.size,1,none⟩=some (.slice ao n cap):=by subst hW;go_simp
 have q10:W.cell? ⟨w.heap.size+1,0,none⟩=some (.bool t):=by subst hW;go_simp
 have q11:W.cell? ⟨w.heap.size+1,1,none⟩=some (.slice ao2 m cap2):=by subst hW;go_simp
 have r00:W.cell? ⟨w.heap.size+1+1,0,none⟩=some (.bool false):=by subst hW;go_simp
 have r01:W.cell? ⟨w.heap.size+1+1,1,none⟩=some (.slice none 0 0):=by subst hW;go_simp
 have r10:W.cell? ⟨w.heap.size+1+1+1,0,none⟩=some (.bool false):=by subst hW;go_simp
 have r11:W.cell? ⟨w.heap.size+1+1+1,1,none⟩=some (.slice none 0 0):=by subst hW;go_simp
 have hB:Below w.heap.size w W:=by subst hW;exact (((((Below.refl _ _).alloc (by (try simp only [World.size_alloc]);omega) _).alloc (by (try simp only [World.size_alloc]);omega) _).alloc (by (try simp only [World.size_alloc]);omega) _).alloc (by (try simp only [World.size_alloc]);omega) _)
 have hR0:Row W (w.heap.size+1+1):=by
  have:=row_new (((w.alloc (.cells #[.bool s,.slice ao n cap] 72)).alloc (.cells #[.bool t,.slice ao2 m cap2] 72))) #[.bool false,.slice none 0 0] 72
  try simp only [World.size_alloc] at this
  subst hW;exact (this.alloc _)
 have hR1:Row W (w.heap.size+1+1+1):=by
  have:=row_new ((((w.alloc (.cells #[.bool s,.slice ao n cap] 72)).alloc (.cells #[.bool t,.slice ao2 m cap2] 72)).alloc (.cells #[.bool false,.slice none 0 0] 72))) #[.bool false,.slice none 0 0] 72
  try simp only [World.size_alloc] at this
  subst hW;exact this
 have hz:W.heap.size=w.heap.size+1+1+1+1:=by subst hW;simp only [World.size_alloc]
 rw [hW]
 clear hW
 have hBW:Below W.heap.size W W:=Below.refl _ _
 refine (HDh.out _ (sb hS hB hBW) (sb hS2 hB hBW)).mono ?_
 rintro e w1 ⟨a1,c1,rfl,hn,hk⟩
 have b1:=hn.below
 replace hBW:=hBW.trans (b1.mono hBW.size)
 replace q00:=below_cell b1 q00
 replace q01:=below_cell b1 q01
 replace q10:=below_cell b1 q10
 replace q11:=below_cell b1 q11
 replace r00:=below_cell b1 r00
 replace r01:=below_cell b1 r01
 replace r10:=below_cell b1 r10
 replace r11:=below_cell b1 r11
 replace hR0:=below_row b1 hR0
 replace hR1:=below_row b1 hR1
 go_wp2_with fail
 replace hBW:=hBW.drew
 replace hn:=hn.drew
 replace hk:=hk.drew
 first
  | go_region_held3 (fun w'=>w'.cell? ⟨w.heap.size,0,none⟩=some (.bool s)∧w'.cell? ⟨w.heap.size,1,none⟩=some (.slice ao n cap)∧w'.cell? ⟨w.heap.size+1,0,none⟩=some (.bool t)∧w'.cell? ⟨w.heap.size+1,1,none⟩=some (.slice ao2 m cap2)∧Below w.heap.size w w')
    (first | exact ⟨q00,q01,q10,q11,hB.trans (hBW.mono hB.size)⟩ | exact kp4 b2 (by assumption) | exact kp4 b3 (by assumption) | exact kp4 b4 (by assumption) | exact kp4 b5 (by assumption) | exact kp4 (below_alloc _) (by assumption) | exact kpS4 (kpS4 (by assumption) (by omega) (by omega) (by omega)) (by omega) (by omega) (by omega))
    (first
     | (go_at_call 178;go_at_call_of 178 (Value.agg #[.bool s,.slice ao n cap]);refine (side_any s _ _).mono ?_;rintro e w2 ⟨rfl,b2⟩;replace hBW:=hBW.trans (b2.mono hBW.size);replace q00:=below_cell b2 q00;replace q01:=below_cell b2 q01;replace q10:=below_cell b2 q10;replace q11:=below_cell b2 q11;replace r00:=below_cell b2 r00;replace r01:=below_cell b2 r01;replace r10:=below_cell b2 r10;replace r11:=below_cell b2 r11;replace hR0:=below_row b2 hR0;replace hR1:=below_row b2 hR1;replace hn:=hn.later b2;replace hk:=hk.later b2)
     | (go_at_call 178;go_at_call_of 178 (Value.agg #[.bool t,.slice ao2 m cap2]);refine (side_any t _ _).mono ?_;rintro e w3 ⟨rfl,b3⟩;replace hBW:=hBW.trans (b3.mono hBW.size);replace q00:=below_cell b3 q00;replace q01:=below_cell b3 q01;replace q10:=below_cell b3 q10;replace q11:=below_cell b3 q11;replace r00:=below_cell b3 r00;replace r01:=below_cell b3 r01;replace r10:=below_cell b3 r10;replace r11:=below_cell b3 r11;replace hR0:=below_row b3 hR0;replace hR1:=below_row b3 hR1;replace hn:=hn.later b3;replace hk:=hk.later b3)
     | (go_at_call 171;go_at_call_of 171 (Value.slice a1 (ln P) (ln P));refine (signed2 a1 (ln P) (ln P) s t _ (by omega)).mono ?_;rintro e w4 ⟨rfl,b4⟩;replace hBW:=hBW.trans (b4.mono hBW.size);replace q00:=below_cell b4 q00;replace q01:=below_cell b4 q01;replace q10:=below_cell b4 q10;replace q11:=below_cell b4 q11;replace r00:=below_cell b4 r00;replace r01:=below_cell b4 r01;replace r10:=below_cell b4 r10;replace r11:=below_cell b4 r11;replace hR0:=below_row b4 hR0;replace hR1:=below_row b4 hR1;replace hn:=hn.later b4;replace hk:=hk.later b4)
     | (go_at_call 171;go_at_call_of 171 (Value.slice c1 (ln R) (ln R));refine (signed1 c1 (ln R) (ln R) s _ (by omega)).mono ?_;rintro e w5 ⟨rfl,b5⟩;replace hBW:=hBW.trans (b5.mono hBW.size);replace q00:=below_cell b5 q00;replace q01:=below_cell b5 q01;replace q10:=below_cell b5 q10;replace q11:=below_cell b5 q11;replace r00:=below_cell b5 r00;replace r01:=below_cell b5 r01;replace r10:=below_cell b5 r10;replace r11:=below_cell b5 r11;replace hR0:=below_row b5 hR0;replace hR1:=below_row b5 hR1;replace hn:=hn.later b5;replace hk:=hk.later b5;have fz0:=fun o=>hR0.frozen o;have fz1:=fun o=>hR1.frozen o))
  | fail
 go_wp2
 refine bodyPost_ret (v:=.tuple #[.agg #[.bool ((s != t) && decide (0 < ln P)),.slice a1 (ln P) (ln P)],.agg #[.bool (s && decide (0 < ln R)),.slice c1 (ln R) (ln R)],.int .i64 0]) (by rw [results_cct rfl];go_simp) rfl ?_
 exact ⟨a1,c1,res_eq3 hq hr,NewI (hn.ret2 hB (by omega) (by omega) (by omega) (by omega) _ _ _ _) hq,NewI (hk.ret2 hB (by omega) (by omega) (by omega) (by omega) _ _ _ _) hr⟩
theorem Seg.later {w1 w':World} {a:Option Addr} {Z n:Nat} (h:Seg w1 a Z n) (hb:Below w1.heap.size w1 w'):Seg w' a Z n:=h.below hb (Nat.le_refl _)
theorem bset {w w':World} {c o:Nat} {u:Value} (h:Below w.heap.size w w') (hc:w.heap.size≤c):Below w.heap.size w (w'.setCell ⟨c,o,none⟩ u):=h.setCell hc _
theorem results_ct {fn:Func} {p u:Tmp} {ty:TypeId} (h:fn.results=#[.cell p ty,.tmp u]) (tmps:Array Value) (P:Program) (w:World) :
  (results fn tmps).run P w=((asAddr (tmps.getD p undef)).run P w).andThen fun a w1=>((loadVar ty a).run P w1).andThen fun v w2=>.ok (.tuple #[v,tmps.getD u undef]) w2:=by
 simp only [results,h]
 simp [Sem.run_bind]
theorem kp3 {w W W':World} {p0 p1 p2:Addr} {v0 v1 v2:Value} (hb:Below W.heap.size W W') (h:W.cell? p0=some v0∧W.cell? p1=some v1∧W.cell? p2=some v2∧Below w.heap.size w W):W'.cell? p0=some v0∧W'.cell? p1=some v1∧W'.cell? p2=some v2∧Below w.heap.size w W' :=
 ⟨below_cell hb h.1,below_cell hb h.2.1,below_cell hb h.2.2.1,h.2.2.2.trans (hb.mono h.2.2.2.size)⟩
theorem kpT2_2 {w W:World} {b0 o0 b1 o1 c:Nat} {v0 v1 u0 u1:Value} (h:W.cell? ⟨b0,o0,none⟩=some v0∧W.cell? ⟨b1,o1,none⟩=some v1∧Below w.heap.size w W) (hne0:c≠b0) (hne1:c≠b1) (hc:w.heap.size≤c) :
  ((W.setCell ⟨c,0,none⟩ u0).setCell ⟨c,1,none⟩ u1).cell? ⟨b0,o0,none⟩=some v0∧((W.setCell ⟨c,0,none⟩ u0).setCell ⟨c,1,none⟩ u1).cell? ⟨b1,o1,none⟩=some v1∧Below w.heap.size w ((W.setCell ⟨c,0,none⟩ u0).setCell ⟨c,1,none⟩ u1) :=
 ⟨by rw [World.cell?_setCell_far _ _ _ _ (by exact hne0),World.cell?_setCell_far _ _ _ _ (by exact hne0)];exact h.1,by rw [World.cell?_setCell_far _ _ _ _ (by exact hne1),World.cell?_setCell_far _ _ _ _ (by exact hne1)];exact h.2.1,((h.2.2.setCell hc _).setCell hc _)⟩
theorem kpT3_3 {w W:World} {b0 o0 b1 o1 b2 o2 c:Nat} {v0 v1 v2 u0 u1 u2:Value} (h:W.cell? ⟨b0,o0,none⟩=some v0∧W.cell? ⟨b1,o1,none⟩=some v1∧W.cell? ⟨b2,o2,none⟩=some v2∧Below w.heap.size w W) (hne0:c≠b0) (hne1:c≠b1) (hne2:c≠b2) (hc:w.heap.size≤c) :
  (((W.setCell ⟨c,0,none⟩ u0).setCell ⟨c,1,none⟩ u1).setCell ⟨c,2,none⟩ u2).cell? ⟨b0,o0,none⟩=some v0∧(((W.setCell ⟨c,0,none⟩ u0).setCell ⟨c,1,none⟩ u1).setCell ⟨c,2,none⟩ u2).cell? ⟨b1,o1,none⟩=some v1∧(((W.setCell ⟨c,0,none⟩ u0).setCell ⟨c,1,none⟩ u1).setCell ⟨c,2,none⟩ u2).cell? ⟨b2,o2,none⟩=some v2∧Below w.heap.size w (((W.setCell ⟨c,0,none⟩ u0).setCell ⟨c,1,none⟩ u1).setCell ⟨c,2,none⟩ u2) :=
 ⟨by rw [World.cell?_setCell_far _ _ _ _ (by exact hne0),World.cell?_setCell_far _ _ _ _ (by exact hne0),World.cell?_setCell_far _ _ _ _ (by exact hne0)];exact h.1,by rw [World.cell?_setCell_far _ _ _ _ (by exact hne1),World.cell?_setCell_far _ _ _ _ (by exact hne1),World.cell?_setCell_far _ _ _ _ (by exact hne1)];exact h.2.1,by rw [World.cell?_setCell_far _ _ _ _ (by exact hne2),World.cell?_setCell_far _ _ _ _ (by exact hne2),World.cell?_setCell_far _ _ _ _ (by exact hne2)];exact h.2.2.1,(((h.2.2.2.setCell hc _).setCell hc _).setCell hc _)⟩
theorem kpT4_3 {w W:World} {b0 o0 b1 o1 b2 o2 b3 o3 c:Nat} {v0 v1 v2 v3 u0 u1 u2:Value} (h:W.cell? ⟨b0,o0,none⟩=some v0∧W.cell? ⟨b1,o1,none⟩=some v1∧W.cell? ⟨b2,o2,none⟩=some v2∧W.cell? ⟨b3,o3,none⟩=some v3∧Below w.heap.size w W) (hne0:c≠b0) (hne1:c≠b1) (hne2:c≠b2) (hne3:c≠b3) (hc:w.heap.size≤c) :
  (((W.setCell ⟨c,0,none⟩ u0).setCell ⟨c,1,none⟩ u1).setCell ⟨c,2,none⟩ u2).cell? ⟨b0,o0,none⟩=some v0∧(((W.setCell ⟨c,0,none⟩ u0).setCell ⟨c,1,none⟩ u1).setCell ⟨c,2,none⟩ u2).cell? ⟨b1,o1,none⟩=some v1∧(((W.setCell ⟨c,0,none⟩ u0).setCell ⟨c,1,none⟩ u1).setCell ⟨c,2,none⟩ u2).cell? ⟨b2,o2,none⟩=some v2∧(((W.setCell ⟨c,0,none⟩ u0).setCell ⟨c,1,none⟩ u1).setCell ⟨c,2,none⟩ u2).cell? ⟨b3,o3,none⟩=some v3∧Below w.heap.size w (((W.setCell ⟨c,0,none⟩ u0).setCell ⟨c,1,none⟩ u1).setCell ⟨c,2,none⟩ u2) :=
 ⟨by rw [World.cell?_setCell_far _ _ _ _ (by exact hne0),World.cell?_setCell_far _ _ _ _ (by exact hne0),World.cell?_setCell_far _ _ _ _ (by exact hne0)];exact h.1,by rw [World.cell?_setCell_far _ _ _ _ (by exact hne1),World.cell?_setCell_far _ _ _ _ (by exact hne1),World.cell?_setCell_far _ _ _ _ (by exact hne1)];exact h.2.1,by rw [World.cell?_setCell_far _ _ _ _ (by exact hne2),World.cell?_setCell_far _ _ _ _ (by exact hne2),World.cell?_setCell_far _ _ _ _ (by exact hne2)];exact h.2.2.1,by rw [World.cell?_setCell_far _ _ _ _ (by exact hne3),World.cell?_setCell_far _ _ _ _ (by exact hne3),World.cell?_setCell_far _ _ _ _ (by exact hne3)];exact h.2.2.2.1,(((h.2.2.2.2.setCell hc _).setCell hc _).setCell hc _)⟩
theorem kpT6_3 {w W:World} {b0 o0 b1 o1 b2 o2 b3 o3 b4 o4 b5 o5 c:Nat} {v0 v1 v2 v3 v4 v5 u0 u1 u2:Value} (h:W.cell? ⟨b0,o0,none⟩=some v0∧W.cell? ⟨b1,o1,none⟩=some v1∧W.cell? ⟨b2,o2,none⟩=some v2∧W.cell? ⟨b3,o3,none⟩=some v3∧W.cell? ⟨b4,o4,none⟩=some v4∧W.cell? ⟨b5,o5,none⟩=some v5∧Below w.heap.size w W) (hne0:c≠b0) (hne1:c≠b1) (hne2:c≠b2) (hne3:c≠b3) (hne4:c≠b4) (hne5:c≠b5) (hc:w.heap.size≤c) :
  (((W.setCell ⟨c,0,none⟩ u0).setCell ⟨c,1,none⟩ u1).setCell ⟨c,2,none⟩ u2).cell? ⟨b0,o0,none⟩=some v0∧(((W.setCell ⟨c,0,none⟩ u0).setCell ⟨c,1,none⟩ u1).setCell ⟨c,2,none⟩ u2).cell? ⟨b1,o1,none⟩=some v1∧(((W.setCell ⟨c,0,none⟩ u0).setCell ⟨c,1,none⟩ u1).setCell ⟨c,2,none⟩ u2).cell? ⟨b2,o2,none⟩=some v2∧(((W.setCell ⟨c,0,none⟩ u0).setCell ⟨c,1,none⟩ u1).setCell ⟨c,2,none⟩ u2).cell? ⟨b3,o3,none⟩=some v3∧(((W.setCell ⟨c,0,none⟩ u0).setCell ⟨c,1,none⟩ u1).setCell ⟨c,2,none⟩ u2).cell? ⟨b4,o4,none⟩=some v4∧(((W.setCell ⟨c,0,none⟩ u0).setCell ⟨c,1,none⟩ u1).setCell ⟨c,2,none⟩ u2).cell? ⟨b5,o5,none⟩=some v5∧Below w.heap.size w (((W.setCell ⟨c,0,none⟩ u0).setCell ⟨c,1,none⟩ u1).setCell ⟨c,2,none⟩ u2) :=
 ⟨by rw [World.cell?_setCell_far _ _ _ _ (by exact hne0),World.cell?_setCell_far _ _ _ _ (by exact hne0),World.cell?_setCell_far _ _ _ _ (by exact hne0)];exact h.1,by rw [World.cell?_setCell_far _ _ _ _ (by exact hne1),World.cell?_setCell_far _ _ _ _ (by exact hne1),World.cell?_setCell_far _ _ _ _ (by exact hne1)];exact h.2.1,by rw [World.cell?_setCell_far _ _ _ _ (by exact hne2),World.cell?_setCell_far _ _ _ _ (by exact hne2),World.cell?_setCell_far _ _ _ _ (by exact hne2)];exact h.2.2.1,by rw [World.cell?_setCell_far _ _ _ _ (by exact hne3),World.cell?_setCell_far _ _ _ _ (by exact hne3),World.cell?_setCell_far _ _ _ _ (by exact hne3)];exact h.2.2.2.1,by rw [World.cell?_setCell_far _ _ _ _ (by exact hne4),World.cell?_setCell_far _ _ _ _ (by exact hne4),World.cell?_setCell_far _ _ _ _ (by exact hne4)];exact h.2.2.2.2.1,by rw [World.cell?_setCell_far _ _ _ _ (by exact hne5),World.cell?_setCell_far _ _ _ _ (by exact hne5),World.cell?_setCell_far _ _ _ _ (by exact hne5)];exact h.2.2.2.2.2.1,(((h.2.2.2.2.2.2.setCell hc _).setCell hc _).setCell hc _)⟩
theorem kpT8_2 {w W:World} {b0 o0 b1 o1 b2 o2 b3 o3 b4 o4 b5 o5 b6 o6 b7 o7 c:Nat} {v0 v1 v2 v3 v4 v5 v6 v7 u0 u1:Value} (h:W.cell? ⟨b0,o0,none⟩=some v0∧W.cell? ⟨b1,o1,none⟩=some v1∧W.cell? ⟨b2,o2,none⟩=some v2∧W.cell? ⟨b3,o3,none⟩=some v3∧W.cell? ⟨b4,o4,none⟩=some v4∧W.cell? ⟨b5,o5,none⟩=some v5∧W.cell? ⟨b6,o6,none⟩=some v6∧W.cell? ⟨b7,o7,none⟩=some v7∧Below w.heap.size w W) (hne0:c≠b0) (hne1:c≠b1) (hne2:c≠b2) (hne3:c≠b3) (hne4:c≠b4) (hne5:c≠b5) (hne6:c≠b6) (hne7:c≠b7) (hc:w.heap.size≤c) :
  ((W.setCell ⟨c,0,none⟩ u0).setCell ⟨c,1,none⟩ u1).cell? ⟨b0,o0,none⟩=some v0∧((W.setCell ⟨c,0,none⟩ u0).setCell ⟨c,1,none⟩ u1).cell? ⟨b1,o1,none⟩=some v1∧((W.setCell ⟨c,0,none⟩ u0).setCell ⟨c,1,none⟩ u1).cell? ⟨b2,o2,none⟩=some v2∧((W.setCell ⟨c,0,none⟩ u0).setCell ⟨c,1,none⟩ u1).cell? ⟨b3,o3,none⟩=some v3∧((W.setCell ⟨c,0,none⟩ u0).setCell ⟨c,1,none⟩ u1).cell? ⟨b4,o4,none⟩=some v4∧((W.setCell ⟨c,0,none⟩ u0).setCell ⟨c,1,none⟩ u1).cell? ⟨b5,o5,none⟩=some v5∧((W.setCell ⟨c,0,none⟩ u0).setCell ⟨c,1,none⟩ u1).cell? ⟨b6,o6,none⟩=some v6∧((W.setCell ⟨c,0,none⟩ u0).setCell ⟨c,1,none⟩ u1).cell? ⟨b7,o7,none⟩=some v7∧Below w.heap.size w ((W.setCell ⟨c,0,none⟩ u0).setCell ⟨c,1,none⟩ u1) :=
 ⟨by rw [World.cell?_setCell_far _ _ _ _ (by exact hne0),World.cell?_setCell_far _ _ _ _ (by exact hne0)];exact h.1,by rw [World.cell?_setCell_far _ _ _ _ (by exact hne1),World.cell?_setCell_far _ _ _ _ (by exact hne1)];exact h.2.1,by rw [World.cell?_setCell_far _ _ _ _ (by exact hne2),World.cell?_setCell_far _ _ _ _ (by exact hne2)];exact h.2.2.1,by rw [World.cell?_setCell_far _ _ _ _ (by exact hne3),World.cell?_setCell_far _ _ _ _ (by exact hne3)];exact h.2.2.2.1,by rw [World.cell?_setCell_far _ _ _ _ (by exact hne4),World.cell?_setCell_far _ _ _ _ (by exact hne4)];exact h.2.2.2.2.1,by rw [World.cell?_setCell_far _ _ _ _ (by exact hne5),World.cell?_setCell_far _ _ _ _ (by exact hne5)];exact h.2.2.2.2.2.1,by rw [World.cell?_setCell_far _ _ _ _ (by exact hne6),World.cell?_setCell_far _ _ _ _ (by exact hne6)];exact h.2.2.2.2.2.2.1,by rw [World.cell?_setCell_far _ _ _ _ (by exact hne7),World.cell?_setCell_far _ _ _ _ (by exact hne7)];exact h.2.2.2.2.2.2.2.1,((h.2.2.2.2.2.2.2.2.setCell hc _).setCell hc _)⟩
theorem kpT8_3 {w W:World} {b0 o0 b1 o1 b2 o2 b3 o3 b4 o4 b5 o5 b6 o6 b7 o7 c:Nat} {v0 v1 v2 v3 v4 v5 v6 v7 u0 u1 u2:Value} (h:W.cell? ⟨b0,o0,none⟩=some v0∧W.cell? ⟨b1,o1,none⟩=some v1∧W.cell? ⟨b2,o2,none⟩=some v2∧W.cell? ⟨b3,o3,none⟩=some v3∧W.cell? ⟨b4,o4,none⟩=some v4∧W.cell? ⟨b5,o5,none⟩=some v5∧W.cell? ⟨b6,o6,none⟩=some v6∧W.cell? ⟨b7,o7,none⟩=some v7∧Below w.heap.size w W) (hne0:c≠b0) (hne1:c≠b1) (hne2:c≠b2) (hne3:c≠b3) (hne4:c≠b4) (hne5:c≠b5) (hne6:c≠b6) (hne7:c≠b7) (hc:w.heap.size≤c) :
  (((W.setCell ⟨c,0,none⟩ u0).setCell ⟨c,1,none⟩ u1).setCell ⟨c,2,none⟩ u2).cell? ⟨b0,o0,none⟩=some v0∧(((W.setCell ⟨c,0,none⟩ u0).setCell ⟨c,1,none⟩ u1).setCell ⟨c,2,none⟩ u2).cell? ⟨b1,o1,none⟩=some v1∧(((W.setCell ⟨c,0,none⟩ u0).setCell ⟨c,1,none⟩ u1).setCell ⟨c,2,none⟩ u2).cell? ⟨b2,o2,none⟩=some v2∧(((W.setCell ⟨c,0,none⟩ u0).setCell ⟨c,1,none⟩ u1).setCell ⟨c,2,none⟩ u2).cell? ⟨b3,o3,none⟩=some v3∧(((W.setCell ⟨c,0,none⟩ u0).setCell ⟨c,1,none⟩ u1).setCell ⟨c,2,none⟩ u2).cell? ⟨b4,o4,none⟩=some v4∧(((W.setCell ⟨c,0,none⟩ u0).setCell ⟨c,1,none⟩ u1).setCell ⟨c,2,none⟩ u2).cell? ⟨b5,o5,none⟩=some v5∧(((W.setCell ⟨c,0,none⟩ u0).setCell ⟨c,1,none⟩ u1).setCell ⟨c,2,none⟩ u2).cell? ⟨b6,o6,none⟩=some v6∧(((W.setCell ⟨c,0,none⟩ u0).setCell ⟨c,1,none⟩ u1).setCell ⟨c,2,none⟩ u2).cell? ⟨b7,o7,none⟩=some v7∧Below w.heap.size w (((W.setCell ⟨c,0,none⟩ u0).setCell ⟨c,1,none⟩ u1).setCell ⟨c,2,none⟩ u2) :=
 ⟨by rw [World.cell?_setCell_far _ _ _ _ (by exact hne0),World.cell?_setCell_far _ _ _ _ (by exact hne0),World.cell?_setCell_far _ _ _ _ (by exact hne0)];exact h.1,by rw [World.cell?_setCell_far _ _ _ _ (by exact hne1),World.cell?_setCell_far _ _ _ _ (by exact hne1),World.cell?_setCell_far _ _ _ _ (by exact hne1)];exact h.2.1,by rw [World.cell?_setCell_far _ _ _ _ (by exact hne2),World.cell?_setCell_far _ _ _ _ (by exact hne2),World.cell?_setCell_far _ _ _ _ (by exact hne2)];exact h.2.2.1,by rw [World.cell?_setCell_far _ _ _ _ (by exact hne3),World.cell?_setCell_far _ _ _ _ (by exact hne3),World.cell?_setCell_far _ _ _ _ (by exact hne3)];exact h.2.2.2.1,by rw [World.cell?_setCell_far _ _ _ _ (by exact hne4),World.cell?_setCell_far _ _ _ _ (by exact hne4),World.cell?_setCell_far _ _ _ _ (by exact hne4)];exact h.2.2.2.2.1,by rw [World.cell?_setCell_far _ _ _ _ (by exact hne5),World.cell?_setCell_far _ _ _ _ (by exact hne5),World.cell?_setCell_far _ _ _ _ (by exact hne5)];exact h.2.2.2.2.2.1,by rw [World.cell?_setCell_far _ _ _ _ (by exact hne6),World.cell?_setCell_far _ _ _ _ (by exact hne6),World.cell?_setCell_far _ _ _ _ (by exact hne6)];exact h.2.2.2.2.2.2.1,by rw [World.cell?_setCell_far _ _ _ _ (by exact hne7),World.cell?_setCell_far _ _ _ _ (by exact hne7),World.cell?_setCell_far _ _ _ _ (by exact hne7)];exact h.2.2.2.2.2.2.2.1,(((h.2.2.2.2.2.2.2.2.setCell hc _).setCell hc _).setCell hc _)⟩
theorem kpT10_3 {w W:World} {b0 o0 b1 o1 b2 o2 b3 o3 b4 o4 b5 o5 b6 o6 b7 o7 b8 o8 b9 o9 c:Nat} {v0 v1 v2 v3 v4 v5 v6 v7 v8 v9 u0 u1 u2:Value} (h:W.cell? ⟨b0,o0,none⟩=some v0∧W.cell? ⟨b1,o1,none⟩=some v1∧W.cell? ⟨b2,o2,none⟩=some v2∧W.cell? ⟨b3,o3,none⟩=some v3∧W.cell? ⟨b4,o4,none⟩=some v4∧W.cell? ⟨b5,o5,none⟩=some v5∧W.cell? ⟨b6,o6,none⟩=some v6∧W.cell? ⟨b7,o7,none⟩=some v7∧W.cell? ⟨b8,o8,none⟩=some v8∧W.cell? ⟨b9,o9,none⟩=some v9∧Below w.heap.size w W) (hne0:c≠b0) (hne1:c≠b1) (hne2:c≠b2) (hne3:c≠b3) (hne4:c≠b4) (hne5:c≠b5) (hne6:c≠b6) (hne7:c≠b7) (hne8:c≠b8) (hne9:c≠b9) (hc:w.heap.size≤c) :
  (((W.setCell ⟨c,0,none⟩ u0).setCell ⟨c,1,none⟩ u1).setCell ⟨c,2,none⟩ u2).cell? ⟨b0,o0,none⟩=some v0∧(((W.setCell ⟨c,0,none⟩ u0).setCell ⟨c,1,none⟩ u1).setCell ⟨c,2,none⟩ u2).cell? ⟨b1,o1,none⟩=some v1∧(((W.setCell ⟨c,0,none⟩ u0).setCell ⟨c,1,none⟩ u1).setCell ⟨c,2,none⟩ u2).cell? ⟨b2,o2,none⟩=some v2∧(((W.setCell ⟨c,0,none⟩ u0).setCell ⟨c,1,none⟩ u1).setCell ⟨c,2,none⟩ u2).cell? ⟨b3,o3,none⟩=some v3∧(((W.setCell ⟨c,0,none⟩ u0).setCell ⟨c,1,none⟩ u1).setCell ⟨c,2,none⟩ u2).cell? ⟨b4,o4,none⟩=some v4∧(((W.setCell ⟨c,0,none⟩ u0).setCell ⟨c,1,none⟩ u1).setCell ⟨c,2,none⟩ u2).cell? ⟨b5,o5,none⟩=some v5∧(((W.setCell ⟨c,0,none⟩ u0).setCell ⟨c,1,none⟩ u1).setCell ⟨c,2,none⟩ u2).cell? ⟨b6,o6,none⟩=some v6∧(((W.setCell ⟨c,0,none⟩ u0).setCell ⟨c,1,none⟩ u1).setCell ⟨c,2,none⟩ u2).cell? ⟨b7,o7,none⟩=some v7∧(((W.setCell ⟨c,0,none⟩ u0).setCell ⟨c,1,none⟩ u1).setCell ⟨c,2,none⟩ u2).cell? ⟨b8,o8,none⟩=some v8∧(((W.setCell ⟨c,0,none⟩ u0).setCell ⟨c,1,none⟩ u1).setCell ⟨c,2,none⟩ u2).cell? ⟨b9,o9,none⟩=some v9∧Below w.heap.size w (((W.setCell ⟨c,0,none⟩ u0).setCell ⟨c,1,none⟩ u1).setCell ⟨c,2,none⟩ u2) :=
 ⟨by rw [World.cell?_setCell_far _ _ _ _ (by exact hne0),World.cell?_setCell_far _ _ _ _ (by exact hne0),World.cell?_setCell_far _ _ _ _ (by exact hne0)];exact h.1,by rw [World.cell?_setCell_far _ _ _ _ (by exact hne1),World.cell?_setCell_far _ _ _ _ (by exact hne1),World.cell?_setCell_far _ _ _ _ (by exact hne1)];exact h.2.1,by rw [World.cell?_setCell_far _ _ _ _ (by exact hne2),World.cell?_setCell_far _ _ _ _ (by exact hne2),World.cell?_setCell_far _ _ _ _ (by exact hne2)];exact h.2.2.1,by rw [World.cell?_setCell_far _ _ _ _ (by exact hne3),World.cell?_setCell_far _ _ _ _ (by exact hne3),World.cell?_setCell_far _ _ _ _ (by exact hne3)];exact h.2.2.2.1,by rw [World.cell?_setCell_far _ _ _ _ (by exact hne4),World.cell?_setCell_far _ _ _ _ (by exact hne4),World.cell?_setCell_far _ _ _ _ (by exact hne4)];exact h.2.2.2.2.1,by rw [World.cell?_setCell_far _ _ _ _ (by exact hne5),World.cell?_setCell_far _ _ _ _ (by exact hne5),World.cell?_setCell_far _ _ _ _ (by exact hne5)];exact h.2.2.2.2.2.1,by rw [World.cell?_setCell_far _ _ _ _ (by exact hne6),World.cell?_setCell_far _ _ _ _ (by exact hne6),World.cell?_setCell_far _ _ _ _ (by exact hne6)];exact h.2.2.2.2.2.2.1,by rw [World.cell?_setCell_far _ _ _ _ (by exact hne7),World.cell?_setCell_far _ _ _ _ (by exact hne7),World.cell?_setCell_far _ _ _ _ (by exact hne7)];exact h.2.2.2.2.2.2.2.1,by rw [World.cell?_setCell_far _ _ _ _ (by exact hne8),World.cell?_setCell_far _ _ _ _ (by exact hne8),World.cell?_setCell_far _ _ _ _ (by exact hne8)];exact h.2.2.2.2.2.2.2.2.1,by rw [World.cell?_setCell_far _ _ _ _ (by exact hne9),World.cell?_setCell_far _ _ _ _ (by exact hne9),World.cell?_setCell_far _ _ _ _ (by exact hne9)];exact h.2.2.2.2.2.2.2.2.2.1,(((h.2.2.2.2.2.2.2.2.2.2.setCell hc _).setCell hc _).setCell hc _)⟩
theorem kpT6_2 {w W:World} {b0 o0 b1 o1 b2 o2 b3 o3 b4 o4 b5 o5 c:Nat} {v0 v1 v2 v3 v4 v5 u0 u1:Value} (h:W.cell? ⟨b0,o0,none⟩=some v0∧W.cell? ⟨b1,o1,none⟩=some v1∧W.cell? ⟨b2,o2,none⟩=some v2∧W.cell? ⟨b3,o3,none⟩=some v3∧W.cell? ⟨b4,o4,none⟩=some v4∧W.cell? ⟨b5,o5,none⟩=some v5∧Below w.heap.size w W) (hne0:c≠b0) (hne1:c≠b1) (hne2:c≠b2) (hne3:c≠b3) (hne4:c≠b4) (hne5:c≠b5) (hc:w.heap.size≤c) :
  ((W.setCell ⟨c,0,none⟩ u0).setCell ⟨c,1,none⟩ u1).cell? ⟨b0,o0,none⟩=some v0∧((W.setCell ⟨c,0,none⟩ u0).setCell ⟨c,1,none⟩ u1).cell? ⟨b1,o1,none⟩=some v1∧((W.setCell ⟨c,0,none⟩ u0).setCell ⟨c,1,none⟩ u1).cell? ⟨b2,o2,none⟩=some v2∧((W.setCell ⟨c,0,none⟩ u0).setCell ⟨c,1,none⟩ u1).cell? ⟨b3,o3,none⟩=some v3∧((W.setCell ⟨c,0,none⟩ u0).setCell ⟨c,1,none⟩ u1).cell? ⟨b4,o4,none⟩=some v4∧((W.setCell ⟨c,0,none⟩ u0).setCell ⟨c,1,none⟩ u1).cell? ⟨b5,o5,none⟩=some v5∧Below w.heap.size w ((W.setCell ⟨c,0,none⟩ u0).setCell ⟨c,1,none⟩ u1) :=
 ⟨by rw [World.cell?_setCell_far _ _ _ _ (by exact hne0),World.cell?_setCell_far _ _ _ _ (by exact hne0)];exact h.1,by rw [World.cell?_setCell_far _ _ _ _ (by exact hne1),World.cell?_setCell_far _ _ _ _ (by exact hne1)];exact h.2.1,by rw [World.cell?_setCell_far _ _ _ _ (by exact hne2),World.cell?_setCell_far _ _ _ _ (by exact hne2)];exact h.2.2.1,by rw [World.cell?_setCell_far _ _ _ _ (by exact hne3),World.cell?_setCell_far _ _ _ _ (by exact hne3)];exact h.2.2.2.1,by rw [World.cell?_setCell_far _ _ _ _ (by exact hne4),World.cell?_setCell_far _ _ _ _ (by exact hne4)];exact h.2.2.2.2.1,by rw [World.cell?_setCell_far _ _ _ _ (by exact hne5),World.cell?_setCell_far _ _ _ _ (by exact hne5)];exact h.2.2.2.2.2.1,((h.2.2.2.2.2.2.setCell hc _).setCell hc _)⟩
theorem al2 {X w1:World} {u0 u1:Value} {t:TypeId} (b:Below (X.alloc (.cells #[u0,u1] t)).heap.size (X.alloc (.cells #[u0,u1] t)) w1):w1.cell? ⟨X.heap.size,0,none⟩=some u0∧w1.cell? ⟨X.heap.size,1,none⟩=some u1∧Row w1 X.heap.size :=
 ⟨below_cell b (by go_simp),below_cell b (by go_simp),below_row b (row_new X _ t)⟩
set_option maxHeartbeats 1000000 in
theorem wGcd_is (s:Bool) (ao:Option Addr) (n cap X:Nat) (t:Bool) (ao2:Option Addr) (m cap2 Y G:Nat) (w:World) (hc:n≤cap) (hm:n≤70368744177663) (hS:Seg w ao X n) (hc2:m≤cap2) (hm2:m≤70368744177663) (hS2:Seg w ao2 Y m) (h:Nat.gcd X Y=G) :
  Calls Tryz.prog 168 #[.agg #[.bool s,.slice ao n cap],.agg #[.bool t,.slice ao2 m cap2]] w fun e w'=>∃ ag,e=.returned (.slice ag (ln G) (ln G))∧New w w' ag G (ln G):=by
 have HG:=hide' (fun w' k1 k2=>Gcd_is ao ao2 n cap X m cap2 Y G w' hc hm k1 hc2 hm2 k2 h)
 clear h
 go_enter Tryz.func168,Tryz.ntmps168
 go_wp2_with fail
 obtain ⟨W,hW⟩:∃ W,((w.alloc (.cells #[.bool s,.slice ao n cap] 72)).alloc (.cells #[.bool t,.slice ao2 m cap2] 72))=W:=⟨_,rfl⟩
 have q00:W.cell? ⟨w.heap.size,0,none⟩=some (.bool s):=by subst hW;go_simp
 have q01:W.cell? ⟨w.heap.size,1,none⟩=some (.slice ao n cap):=by subst hW;go_simp
 have q10:W.cell? ⟨w.heap.size+1,0,none⟩=some (.bool t):=by subst hW;go_simp
 have q11:W.cell? ⟨w.heap.size+1,1,none⟩=some (.slice ao2 m cap2):=by subst hW;go_simp
 have hB:Below w.heap.size w W:=by subst hW;exact (((Below.refl _ _).alloc (by (try simp only [World.size_alloc]);omega) _).alloc (by (try simp only [World.size_alloc]);omega) _)
 have hz:W.heap.size=w.heap.size+1+1:=by subst hW;simp only [World.size_alloc]
 rw [hW]
 clear hW
 have hBW:Below W.heap.size W W:=Below.refl _ _
 refine (HG.out _ (sb hS hB hBW) (sb hS2 hB hBW)).mono ?_
 rintro e w1 ⟨a1,rfl,hn⟩
 have b1:=hn.below
 replace hn:=hn.back hBW
 replace hBW:=hBW.trans (b1.mono hBW.size)
 replace q00:=below_cell b1 q00
 replace q01:=below_cell b1 q01
 replace q10:=below_cell b1 q10
 replace q11:=below_cell b1 q11
 go_wp2
 go_ret
 exact ⟨a1,rfl,hn.back hB⟩
set_option maxHeartbeats 1000000 in
theorem read_nz (s:Bool) (ao:Option Addr) (n cap:Nat) (ao2:Option Addr) (m cap2 Y:Nat) (w:World) (hc2:m≤cap2) (hm2:m≤70368744177664) (hS2:Seg w ao2 Y m) (hY:Y≠0) :
  Calls Tryz.prog 144 #[.agg #[.bool s,.slice ao n cap,.slice ao2 m cap2]] w fun e w'=>e=.returned (.agg #[.bool s,.slice ao n cap,.bool false,.slice ao2 m cap2])∧Below w.heap.size w w':=by
 obtain ⟨Z,hZ⟩:∃ Z,sg false Y=Z:=⟨_,rfl⟩
 have hx:(sgn Z == 0)=false:=by rw [←hZ,sgn_sg hY];rfl
 have HZ:=hide' hZ
 clear hZ
 go_enter Tryz.func144,Tryz.ntmps144
 go_wp2_with fail
 obtain ⟨W,hW⟩:∃ W,(((w.alloc (.cells #[.bool s,.slice ao n cap,.slice ao2 m cap2] 74)).alloc (.cells #[.bool false,.slice none 0 0,.bool false,.slice none 0 0] 152)).alloc (.cells #[.bool false,.slice ao2 m cap2] 72))=W:=⟨_,rfl⟩
 have q00:W.cell? ⟨w.heap.size,0,none⟩=some (.bool s):=by subst hW;go_simp
 have q01:W.cell? ⟨w.heap.size,1,none⟩=some (.slice ao n cap):=by subst hW;go_simp
 have q02:W.cell? ⟨w.heap.size,2,none⟩=some (.slice ao2 m cap2):=by subst hW;go_simp
 have r00:W.cell? ⟨w.heap.size+1,0,none⟩=some (.bool false):=by subst hW;go_simp
 have r01:W.cell? ⟨w.heap.size+1,1,none⟩=some (.slice none 0 0):=by subst hW;go_simp
 have r02:W.cell? ⟨w.heap.size+1,2,none⟩=some (.bool false):=by subst hW;go_simp
 have r03:W.cell? ⟨w.heap.size+1,3,none⟩=some (.slice none 0 0):=by subst hW;go_simp
 have r10:W.cell? ⟨w.heap.size+1+1,0,none⟩=some (.bool false):=by subst hW;go_simp
 have r11:W.cell? ⟨w.heap.size+1+1,1,none⟩=some (.slice ao2 m cap2):=by subst hW;go_simp
 have hB:Below w.heap.size w W:=by subst hW;exact ((((Below.refl _ _).alloc (by (try simp only [World.size_alloc]);omega) _).alloc (by (try simp only [World.size_alloc]);omega) _).alloc (by (try simp only [World.size_alloc]);omega) _)
 have hR0:Row W (w.heap.size+1):=by
  have:=row_new ((w.alloc (.cells #[.bool s,.slice ao n cap,.slice ao2 m cap2] 74))) #[.bool false,.slice none 0 0,.bool false,.slice none 0 0] 152
  try simp only [World.size_alloc] at this
  subst hW;exact (this.alloc _)
 have hR1:Row W (w.heap.size+1+1):=by
  have:=row_new (((w.alloc (.cells #[.bool s,.slice ao n cap,.slice ao2 m cap2] 74)).alloc (.cells #[.bool false,.slice none 0 0,.bool false,.slice none 0 0] 152))) #[.bool false,.slice ao2 m cap2] 72
  try simp only [World.size_alloc] at this
  subst hW;exact this
 have hz:W.heap.size=w.heap.size+1+1+1:=by subst hW;simp only [World.size_alloc]
 rw [hW]
 clear hW
 have hBW:Below W.heap.size W W:=Below.refl _ _
 refine (wSign_is false ao2 m cap2 Y Z _ hc2 hm2 (sb hS2 hB hBW) HZ.out).mono ?_
 rintro e w1 ⟨rfl,b1⟩
 replace hBW:=hBW.trans (b1.mono hBW.size)
 replace q00:=below_cell b1 q00
 replace q01:=below_cell b1 q01
 replace q02:=below_cell b1 q02
 replace r00:=below_cell b1 r00
 replace r01:=below_cell b1 r01
 replace r02:=below_cell b1 r02
 replace r03:=below_cell b1 r03
 replace r10:=below_cell b1 r10
 replace r11:=below_cell b1 r11
 replace hR0:=below_row b1 hR0
 replace hR1:=below_row b1 hR1
 have fz0:=fun o=>hR0.frozen o
 have fz1:=fun o=>hR1.frozen o
 go_wp2
 all_goals refine bodyPost_ret (v:=.agg #[.bool s,.slice ao n cap,.bool false,.slice ao2 m cap2]) (by rw [results_cell rfl];go_simp) rfl ?_
 all_goals exact ⟨rfl,((bset (bset (bset (bset (hB.trans (hBW.mono hB.size)) (by omega)) (by omega)) (by omega)) (by omega)))⟩
set_option maxHeartbeats 1000000 in
set_option maxRecDepth 30000 in
theorem read_z (s:Bool) (ao:Option Addr) (n cap:Nat) (ao2:Option Addr) (m cap2:Nat) (w:World) (hc2:m≤cap2) (hm2:m≤70368744177664) (hS2:Seg w ao2 0 m) :
  Calls Tryz.prog 144 #[.agg #[.bool s,.slice ao n cap,.slice ao2 m cap2]] w fun e w'=>∃ p q,e=.returned (.agg #[.bool (ng 0),.slice p (ln (am 0)) (ln (am 0)),.bool (ng 1),.slice q (ln (am 1)) (ln (am 1))])∧New w w' p (am 0) (ln (am 0))∧New w w' q (am 1) (ln (am 1)):=by
 obtain ⟨Z0,hZ0⟩:∃ Z0:Int,0=Z0:=⟨_,rfl⟩
 obtain ⟨Z1,hZ1⟩:∃ Z1:Int,1=Z1:=⟨_,rfl⟩
 have H0:∀ w',Calls Tryz.prog 143 #[.int .i64 0] w' fun e w''=>∃ ao',e=.returned (.agg #[.bool (ng Z0),.slice ao' (ln (am Z0)) (ln (am Z0))])∧New w' w'' ao' (am Z0) (ln (am Z0)):=fun w'=>hZ0 ▸ wOf_is 0 w' (by omega) (by omega)
 have H1:∀ w',Calls Tryz.prog 143 #[.int .i64 1] w' fun e w''=>∃ ao',e=.returned (.agg #[.bool (ng Z1),.slice ao' (ln (am Z1)) (ln (am Z1))])∧New w' w'' ao' (am Z1) (ln (am Z1)):=fun w'=>hZ1 ▸ wOf_is 1 w' (by omega) (by omega)
 rw [show am 0=am Z0 from congrArg am hZ0,show am 1=am Z1 from congrArg am hZ1,show ng 0=ng Z0 from congrArg ng hZ0,show ng 1=ng Z1 from congrArg ng hZ1]
 have G0:=hide' H0
 have G1:=hide' H1
 clear H0 H1 hZ0 hZ1
 go_enter Tryz.func144,Tryz.ntmps144
 go_wp2_with fail
 obtain ⟨W,hW⟩:∃ W,(((w.alloc (.cells #[.bool s,.slice ao n cap,.slice ao2 m cap2] 74)).alloc (.cells #[.bool false,.slice none 0 0,.bool false,.slice none 0 0] 152)).alloc (.cells #[.bool false,.slice ao2 m cap2] 72))=W:=⟨_,rfl⟩
 have q00:W.cell? ⟨w.heap.size,0,none⟩=some (.bool s):=by subst hW;go_simp
 have q01:W.cell? ⟨w.heap.size,1,none⟩=some (.slice ao n cap):=by subst hW;go_simp
 have q02:W.cell? ⟨w.heap.size,2,none⟩=some (.slice ao2 m cap2):=by subst hW;go_simp
 have r00:W.cell? ⟨w.heap.size+1,0,none⟩=some (.bool false):=by subst hW;go_simp
 have r01:W.cell? ⟨w.heap.size+1,1,none⟩=some (.slice none 0 0):=by subst hW;go_simp
 have r02:W.cell? ⟨w.heap.size+1,2,none⟩=some (.bool false):=by subst hW;go_simp
 have r03:W.cell? ⟨w.heap.size+1,3,none⟩=some (.slice none 0 0):=by subst hW;go_simp
 have r10:W.cell? ⟨w.heap.size+1+1,0,none⟩=some (.bool false):=by subst hW;go_simp
 have r11:W.cell? ⟨w.heap.size+1+1,1,none⟩=some (.slice ao2 m cap2):=by subst hW;go_simp
 have hB:Below w.heap.size w W:=by subst hW;exact ((((Below.refl _ _).alloc (by (try simp only [World.size_alloc]);omega) _).alloc (by (try simp only [World.size_alloc]);omega) _).alloc (by (try simp only [World.size_alloc]);omega) _)
 have hR0:Row W (w.heap.size+1):=by
  have:=row_new ((w.alloc (.cells #[.bool s,.slice ao n cap,.slice ao2 m cap2] 74))) #[.bool false,.slice none 0 0,.bool false,.slice none 0 0] 152
  try simp only [World.size_alloc] at this
  subst hW;exact (this.alloc _)
 have hR1:Row W (w.heap.size+1+1):=by
  have:=row_new (((w.alloc (.cells #[.bool s,.slice ao n cap,.slice ao2 m cap2] 74)).alloc (.cells #[.bool false,.slice none 0 0,.bool false,.slice none 0 0] 152))) #[.bool false,.slice ao2 m cap2] 72
  try simp only [World.size_alloc] at this
  subst hW;exact this
 have hz:W.heap.size=w.heap.size+1+1+1:=by subst hW;simp only [World.size_alloc]
 rw [hW]
 clear hW
 have hBW:Below W.heap.size W W:=Below.refl _ _
 refine (wSign_is false ao2 m cap2 0 0 _ hc2 hm2 (sb hS2 hB hBW) rfl).mono ?_
 rintro e w1 ⟨rfl,b1⟩
 replace hBW:=hBW.trans (b1.mono hBW.size)
 replace q00:=below_cell b1 q00
 replace q01:=below_cell b1 q01
 replace q02:=below_cell b1 q02
 replace r00:=below_cell b1 r00
 replace r01:=below_cell b1 r01
 replace r02:=below_cell b1 r02
 replace r03:=below_cell b1 r03
 replace r10:=below_cell b1 r10
 replace r11:=below_cell b1 r11
 replace hR0:=below_row b1 hR0
 replace hR1:=below_row b1 hR1
 rw [sgn_zero]
 go_wp2_with fail
 refine (G0.out _).mono ?_
 rintro e w2 ⟨a2,rfl,hn⟩
 have b2:=hn.below
 replace hn:=hn.back hBW
 replace hBW:=hBW.trans (b2.mono hBW.size)
 replace q00:=below_cell b2 q00
 replace q01:=below_cell b2 q01
 replace q02:=below_cell b2 q02
 replace r00:=below_cell b2 r00
 replace r01:=below_cell b2 r01
 replace r02:=below_cell b2 r02
 replace r03:=below_cell b2 r03
 replace r10:=below_cell b2 r10
 replace r11:=below_cell b2 r11
 replace hR0:=below_row b2 hR0
 replace hR1:=below_row b2 hR1
 go_wp2_with fail
 refine (G1.out _).mono ?_
 rintro e w3 ⟨a3,rfl,hk⟩
 have b3:=hk.below
 replace hk:=hk.back hBW
 replace hBW:=hBW.trans (b3.mono hBW.size)
 replace q00:=below_cell b3 q00
 replace q01:=below_cell b3 q01
 replace q02:=below_cell b3 q02
 replace r00:=below_cell b3 r00
 replace r01:=below_cell b3 r01
 replace r02:=below_cell b3 r02
 replace r03:=below_cell b3 r03
 replace r10:=below_cell b3 r10
 replace r11:=below_cell b3 r11
 replace hR0:=below_row b3 hR0
 replace hR1:=below_row b3 hR1
 replace hn:=hn.later b3
 have fz0:=fun o=>hR0.frozen o
 have fz1:=fun o=>hR1.frozen o
 go_wp2
 all_goals refine bodyPost_ret (v:=.agg #[.bool (ng Z0),.slice a2 (ln (am Z0)) (ln (am Z0)),.bool (ng Z1),.slice a3 (ln (am Z1)) (ln (am Z1))]) (by rw [results_cell rfl];go_simp) rfl ?_
 all_goals exact ⟨a2,a3,rfl,hn.mid hB ((((((Mid.refl _ _ _).set _ _ (by omega) (by omega) _).set _ _ (by omega) (by omega) _).set _ _ (by omega) (by omega) _).set _ _ (by omega) (by omega) _)),hk.mid hB ((((((Mid.refl _ _ _).set _ _ (by omega) (by omega) _).set _ _ (by omega) (by omega) _).set _ _ (by omega) (by omega) _).set _ _ (by omega) (by omega) _))⟩
end Go.Proofs.YtlklfkkbdcglbaaGreat
