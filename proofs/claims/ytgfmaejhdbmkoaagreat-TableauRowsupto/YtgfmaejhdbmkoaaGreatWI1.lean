import Derived.Test.YtgfmaejhdbmkoaaGreatNumI
import Derived.Test.YtgfmaejhdbmkoaaGreatW5
import Derived.Deep.RegionHeld3
set_option linter.unusedSimpArgs false
namespace Go.Proofs.YtgfmaejhdbmkoaaGreat
open Go.RowKit
set_option linter.unusedVariables false
theorem side_any (s:Bool) (v:Value) (w:World) :
  Calls Tryz.prog 122 #[.agg #[.bool s,v]] w fun e w'=>e=.returned (.int .i64 (sd s))∧Below w.heap.size w w':=by
 cases s <;>
 ·go_enter Tryz.func122,Tryz.ntmps122
  go_wp2
  go_ret
  exact ⟨rfl,(Below.refl _ _).alloc (Nat.le_refl _) _⟩
def xr (g:Nat→Bool):Nat→Bool
 | 0=>false
 | k+1=>(xr g k != g k)
theorem sd_mul (a b:Bool):sd a*sd b=sd (a != b):=by cases a <;> cases b <;> rfl
theorem sd_wrap (a:Bool):wrap64 (sd a)=sd a:=by unfold wrap64;have:=sd_range a;omega
set_option maxHeartbeats 1000000 in
theorem signed_any (a:Option Addr) (n cap:Nat) (sa:Option Addr) (k c:Nat) (g:Nat→Bool) (w:World) (hk:k≤1000) (hn:n≤140737488355328)
  (hS:0 < k→∃ b off,sa=some ⟨b,off,none⟩∧b < w.heap.size∧∀ i,i < k→w.cell? ⟨b,off+i,none⟩=some (.int .i64 (sd (g i)))) :
  Calls Tryz.prog 121 #[.slice a n cap,.slice sa k c] w fun e w'=>e=.returned (.agg #[.bool (xr g k && decide (0 < n)),.slice a n cap])∧Below w.heap.size w w':=by
 go_enter Tryz.func121,Tryz.ntmps121
 go_wp2
 go_loop [5,10] (fun p t=>∃ j:Nat,j≤k∧t=.int .i64 j∧p=.int .i64 (sd (xr g j))) (fun p t=>k - (intOf t).toNat)
 case atStart=>exact ⟨0,Nat.zero_le _,rfl,rfl⟩
 case round =>
  obtain ⟨j,hj,rfl,rfl⟩:=hrel
  have hjj:=sd_range (xr g j)
  by_cases hlt:j < k
  ·obtain ⟨b,off,rfl,hb,hcell⟩:=hS (by omega)
   have hcj:=hcell j hlt
   have hgj:=sd_range (g j)
   have hw:wrap64 (sd (xr g j)*sd (g j))=sd (xr g (j+1)):=by
    rw [sd_mul];exact sd_wrap _
   have hcj':=World.cell?_alloc_lt w (Obj.cells #[Value.bool false,Value.slice none 0 0] 53) ⟨b,off+j,none⟩ hb
   rw [hcj] at hcj'
   clear hcell hS
   go_wp2
   go_round
   case rel=>exact ⟨j+1,by omega,by go_num,by rw [hw]⟩
   case measure=>simp [intOf];omega
  ·have e:j=k:=by omega
   subst e
   have H1:Hid (Below w.heap.size w (w.alloc (Obj.cells #[Value.bool (xr g j && decide (0 < n)),Value.slice a n cap] 53))):=(Below.refl _ _).alloc (Nat.le_refl _) _
   clear hS hjj
   by_cases hx:xr g j=true
   ·by_cases h0:0 < n
    ·rw [hx] at H1 ⊢
     have hsd:sd true = -1:=rfl
     rw [hsd]
     go_wp2
     simp only [h0,decide_true,Bool.and_true] at H1 ⊢
     refine bodyPost_ret (v:=.agg #[.bool true,.slice a n cap]) (by rw [xQ5 rfl];go_simp) rfl ?_
     exact ⟨rfl,H1.out⟩
    ·rw [hx] at H1 ⊢
     have hsd:sd true = -1:=rfl
     rw [hsd]
     have h0':n=0:=by omega
     subst h0'
     go_wp2
     simp only [Nat.lt_irrefl,decide_false,Bool.and_false] at H1 ⊢
     refine bodyPost_ret (v:=.agg #[.bool false,.slice a 0 cap]) (by rw [xQ5 rfl];go_simp) rfl ?_
     exact ⟨rfl,H1.out⟩
   ·rw [Bool.not_eq_true] at hx
    rw [hx] at H1 ⊢
    have hsd:sd false=1:=rfl
    rw [hsd]
    go_wp2
    simp only [Bool.false_and] at H1 ⊢
    refine bodyPost_ret (v:=.agg #[.bool false,.slice a n cap]) (by rw [xQ5 rfl];go_simp) rfl ?_
    exact ⟨rfl,H1.out⟩
theorem take' {P:Program} {ops:Array Oper} {Q:Exit→Act→World→Prop} {md:Region.Mode} {S:World→Prop} (i:Nat) {d:Option Tmp} {op:Op} {ty:TypeId} {pos:String} {af:Array Edge} {g:Option (Nat × Bool)} {v:Value} {n:Nat} {L:Array Bool} {a:Act} {w:World}
  (hi:ops[i]?=some ⟨d,op,ty,pos,af,g⟩) (hs:Region.noSelect ops=true) (hf:Region.free md ops L i=true) (hr:(Region.ready md ops L).contains i=true)
  (hQ:∀ c a w,Q (.panic c) (a.put d v) w→Q (.panic c) a w) (hy:YieldsIf P ops S ⟨d,op,ty,pos,af,g⟩ v a) (hS:S w) (h:wpAnyH P md ops Q S n (L.setIfInBounds i true) (a.put d v) w):wpAnyH P md ops Q S (n+1) L a w :=
 wpAnyH_take hi hs hf hr hQ hy hS h
theorem pP (a:Act) (d:Tmp) (v:Value):a.put (some d) v=⟨a.tmps.setIfInBounds d v,a.defers⟩:=rfl
theorem pN (a:Act) (v:Value):a.put none v=a:=rfl
theorem pS {α:Type} (l:List α) (i:Nat) (a:α):l.toArray.setIfInBounds i a=(l.set i a).toArray:=List.setIfInBounds_toArray ..
theorem pZ {α:Type} (a b:α) (l:List α):(a :: l).set 0 b=b :: l:=rfl
theorem pC {α:Type} (a b:α) (l:List α) (n:Nat):(a :: l).set (n+1) b=a :: l.set n b:=rfl
theorem pA:(∀ (a:Act) (d:Tmp) (v:Value),a.put (some d) v=⟨a.tmps.setIfInBounds d v,a.defers⟩)∧(∀ (a:Act) (v:Value),a.put none v=a)∧(∀ {α:Type} (l:List α) (i:Nat) (a:α),l.toArray.setIfInBounds i a=(l.set i a).toArray)∧(∀ {α:Type} (a b:α) (l:List α),(a :: l).set 0 b=b :: l)∧(∀ {α:Type} (a b:α) (l:List α) (n:Nat),(a :: l).set (n+1) b=a :: l.set n b):=⟨pP,pN,pS,pZ,pC⟩
theorem tk {P:Program} {ops:Array Oper} {Q:Exit→Act→World→Prop} {md:Region.Mode} {S:World→Prop} (i:Nat) {d:Option Tmp} {op:Op} {ty:TypeId} {pos:String} {af:Array Edge} {g:Option (Nat × Bool)} {v:Value} {n:Nat} {L:Array Bool} {a:Act} {w:World}
  (hi:ops[i]?=some ⟨d,op,ty,pos,af,g⟩) (hy:YieldsIf P ops S ⟨d,op,ty,pos,af,g⟩ v a) (h:wpAnyH P md ops Q S n (L.setIfInBounds i true) (a.put d v) w) (hs:Region.noSelect ops=true:=by kernel_rfl) (hf:Region.free md ops L i=true:=by kernel_rfl) (hr:(Region.ready md ops L).contains i=true:=by kernel_rfl)
  (hQ:∀ c a w,Q (.panic c) (a.put d v) w→Q (.panic c) a w:=by exact fun _ _ _ h=>h) (hS:S w:=by assumption):wpAnyH P md ops Q S (n+1) L a w:=take' i hi hs hf hr hQ hy hS h
theorem xX0 {P:Program} {ops:Array Oper} {Q:Exit→Act→World→Prop} {md:Region.Mode} {S:World→Prop} {n:Nat} {L:Array Bool} {a:Act} {w:World} {i:Nat} {d:Option Tmp} {op:Op} {ty:TypeId} {pos:String} {af:Array Edge} {g:Option (Nat × Bool)}
  (ho:ops[i]?=some ⟨d,op,ty,pos,af,g⟩) (h:∀ K':Act→World→Prop,Shut (∀ a w,S w→(S w→wpAnyH P md ops Q S n (L.setIfInBounds i true) a w)→K' a w)→if Region.wanted ⟨d,op,ty,pos,af,g⟩ (yielded ops a.tmps)=true then Oper.wp P ⟨d,op,ty,pos,af,g⟩ a w K' Q else K' (a.put d undef) w) :
  AllReadyH P md ops Q S n L a w [i]:=AllReadyH.cons ho h AllReadyH.nil
theorem below_at {B:Nat} {w w':World} (h:Below B w w') {p:Addr} {v:Value} (hp:p.block < B) (hc:w.cell? p=some v):w'.cell? p=some v:=by
 rw [h.cell hp];exact hc
theorem xQ0 {w w':World} (h:Below w.heap.size w w') {p:Addr} {v:Value} (hc:w.cell? p=some v):w'.cell? p=some v :=
 below_at h (World.block_lt_of_cell? w p hc) hc
theorem xQ3 {w w':World} (h:Below w.heap.size w w') {b:Nat} (hr:Row w b):Row w' b:=hr.below h hr.lt
theorem xQ2 {w:World} (o:Obj):Below w.heap.size w (w.alloc o):=(Below.refl _ _).alloc (Nat.le_refl _) _
theorem below_al {w w':World} {o:Obj} (h:Below (w.alloc o).heap.size (w.alloc o) w'):Below w.heap.size w w':=(xQ2 o).trans (h.mono (xQ2 o).size)
theorem sb {w W W':World} {a:Option Addr} {X n:Nat} (h:Seg w a X n) (hB:Below w.heap.size w W) (k:Below W.heap.size W W'):Seg W' a X n :=
 h.below (hB.trans (k.mono hB.size)) (Nat.le_refl _)
theorem kp2 {w W W':World} {p0 p1:Addr} {v0 v1:Value} (hb:Below W.heap.size W W') (h:W.cell? p0=some v0∧W.cell? p1=some v1∧Below w.heap.size w W):W'.cell? p0=some v0∧W'.cell? p1=some v1∧Below w.heap.size w W' :=
 ⟨xQ0 hb h.1,xQ0 hb h.2.1,h.2.2.trans (hb.mono h.2.2.size)⟩
theorem kp4 {w W W':World} {p0 p1 p2 p3:Addr} {v0 v1 v2 v3:Value} (hb:Below W.heap.size W W') (h:W.cell? p0=some v0∧W.cell? p1=some v1∧W.cell? p2=some v2∧W.cell? p3=some v3∧Below w.heap.size w W) :
  W'.cell? p0=some v0∧W'.cell? p1=some v1∧W'.cell? p2=some v2∧W'.cell? p3=some v3∧Below w.heap.size w W' :=
 ⟨xQ0 hb h.1,xQ0 hb h.2.1,xQ0 hb h.2.2.1,xQ0 hb h.2.2.2.1,h.2.2.2.2.trans (hb.mono h.2.2.2.2.size)⟩
theorem kpS4 {w W:World} {b d c o:Nat} {v0 v1 v2 v3 u:Value} (h:W.cell? ⟨b,0,none⟩=some v0∧W.cell? ⟨b,1,none⟩=some v1∧W.cell? ⟨d,0,none⟩=some v2∧W.cell? ⟨d,1,none⟩=some v3∧Below w.heap.size w W) (hne:c≠b) (hne2:c≠d) (hc:w.heap.size≤c) :
  (W.setCell ⟨c,o,none⟩ u).cell? ⟨b,0,none⟩=some v0∧(W.setCell ⟨c,o,none⟩ u).cell? ⟨b,1,none⟩=some v1∧(W.setCell ⟨c,o,none⟩ u).cell? ⟨d,0,none⟩=some v2∧(W.setCell ⟨c,o,none⟩ u).cell? ⟨d,1,none⟩=some v3∧Below w.heap.size w (W.setCell ⟨c,o,none⟩ u) :=
 ⟨by rw [World.cell?_setCell_far _ _ _ _ (by exact hne)];exact h.1,by rw [World.cell?_setCell_far _ _ _ _ (by exact hne)];exact h.2.1,by rw [World.cell?_setCell_far _ _ _ _ (by exact hne2)];exact h.2.2.1,
  by rw [World.cell?_setCell_far _ _ _ _ (by exact hne2)];exact h.2.2.2.1,h.2.2.2.2.setCell hc _⟩
theorem kp6 {w W W':World} {p0 p1 p2 p3 p4 p5:Addr} {v0 v1 v2 v3 v4 v5:Value} (hb:Below W.heap.size W W') (h:W.cell? p0=some v0∧W.cell? p1=some v1∧W.cell? p2=some v2∧W.cell? p3=some v3∧W.cell? p4=some v4∧W.cell? p5=some v5∧Below w.heap.size w W):W'.cell? p0=some v0∧W'.cell? p1=some v1∧W'.cell? p2=some v2∧W'.cell? p3=some v3∧W'.cell? p4=some v4∧W'.cell? p5=some v5∧Below w.heap.size w W' :=
 ⟨xQ0 hb h.1,xQ0 hb h.2.1,xQ0 hb h.2.2.1,xQ0 hb h.2.2.2.1,xQ0 hb h.2.2.2.2.1,xQ0 hb h.2.2.2.2.2.1,h.2.2.2.2.2.2.trans (hb.mono h.2.2.2.2.2.2.size)⟩
theorem kp8 {w W W':World} {p0 p1 p2 p3 p4 p5 p6 p7:Addr} {v0 v1 v2 v3 v4 v5 v6 v7:Value} (hb:Below W.heap.size W W') (h:W.cell? p0=some v0∧W.cell? p1=some v1∧W.cell? p2=some v2∧W.cell? p3=some v3∧W.cell? p4=some v4∧W.cell? p5=some v5∧W.cell? p6=some v6∧W.cell? p7=some v7∧Below w.heap.size w W):W'.cell? p0=some v0∧W'.cell? p1=some v1∧W'.cell? p2=some v2∧W'.cell? p3=some v3∧W'.cell? p4=some v4∧W'.cell? p5=some v5∧W'.cell? p6=some v6∧W'.cell? p7=some v7∧Below w.heap.size w W' :=
 ⟨xQ0 hb h.1,xQ0 hb h.2.1,xQ0 hb h.2.2.1,xQ0 hb h.2.2.2.1,xQ0 hb h.2.2.2.2.1,xQ0 hb h.2.2.2.2.2.1,xQ0 hb h.2.2.2.2.2.2.1,xQ0 hb h.2.2.2.2.2.2.2.1,h.2.2.2.2.2.2.2.2.trans (hb.mono h.2.2.2.2.2.2.2.2.size)⟩
theorem kp10 {w W W':World} {p0 p1 p2 p3 p4 p5 p6 p7 p8 p9:Addr} {v0 v1 v2 v3 v4 v5 v6 v7 v8 v9:Value} (hb:Below W.heap.size W W') (h:W.cell? p0=some v0∧W.cell? p1=some v1∧W.cell? p2=some v2∧W.cell? p3=some v3∧W.cell? p4=some v4∧W.cell? p5=some v5∧W.cell? p6=some v6∧W.cell? p7=some v7∧W.cell? p8=some v8∧W.cell? p9=some v9∧Below w.heap.size w W):W'.cell? p0=some v0∧W'.cell? p1=some v1∧W'.cell? p2=some v2∧W'.cell? p3=some v3∧W'.cell? p4=some v4∧W'.cell? p5=some v5∧W'.cell? p6=some v6∧W'.cell? p7=some v7∧W'.cell? p8=some v8∧W'.cell? p9=some v9∧Below w.heap.size w W' :=
 ⟨xQ0 hb h.1,xQ0 hb h.2.1,xQ0 hb h.2.2.1,xQ0 hb h.2.2.2.1,xQ0 hb h.2.2.2.2.1,xQ0 hb h.2.2.2.2.2.1,xQ0 hb h.2.2.2.2.2.2.1,xQ0 hb h.2.2.2.2.2.2.2.1,xQ0 hb h.2.2.2.2.2.2.2.2.1,xQ0 hb h.2.2.2.2.2.2.2.2.2.1,h.2.2.2.2.2.2.2.2.2.2.trans (hb.mono h.2.2.2.2.2.2.2.2.2.2.size)⟩
theorem New.ret {w W w3:World} {a:Option Addr} {Z n c:Nat} (h:New W w3 a Z n) (hB:Below w.heap.size w W) (hc:w.heap.size≤c) (hcW:c < W.heap.size) (u v:Value) :
  New w ((w3.setCell ⟨c,0,none⟩ u).setCell ⟨c,1,none⟩ v) a Z n:=by
 have hk:Wr c 0 2 w3 ((w3.setCell ⟨c,0,none⟩ u).setCell ⟨c,1,none⟩ v):=((Wr.refl _ _ _ _).setCell 0 (by omega) (by omega) u).setCell 1 (by omega) (by omega) v
 refine ⟨?_,(hB.trans (h.below.mono hB.size)).trans (hk.below hc (Nat.le_trans hB.size h.below.size)),fun hn=>?_⟩
 ·by_cases hn:0 < n
  ·obtain ⟨b,off,rfl,hb,hr⟩:=h.fresh hn
   refine h.seg.wr hk fun o e=>?_
   simp only [Option.some.injEq,Addr.mk.injEq] at e
   omega
  ·exact ⟨h.seg.1,fun h=>absurd h hn⟩
 ·obtain ⟨b,off,e,hb,hr⟩:=h.fresh hn
  exact ⟨b,off,e,Nat.le_trans hB.size hb,(hr.setCell _ _).setCell _ _⟩
theorem xr1 (s:Bool):xr (fun _=>s) 1=s:=by simp [xr]
theorem xr2 (s t:Bool):xr (fun i=>if i=0 then s else t) 2=(s != t):=by simp [xr]
theorem NewI {w w':World} {s:Bool} {a:Option Addr} {X:Nat} {Z:Int} (h:New w w' a X (ln X)) (hz:sg s X=Z):New w w' a (am Z) (ln (am Z)):=by
 subst hz;rw [am_sg];exact h
theorem res_eq {s:Bool} {a:Option Addr} {X:Nat} {Z:Int} (hz:sg s X=Z):Ending.returned (.agg #[.bool (s && decide (0 < ln X)),.slice a (ln X) (ln X)])=.returned (.agg #[.bool (ng Z),.slice a (ln (am Z)) (ln (am Z))]):=by
 subst hz;rw [am_sg,ng_sg]
theorem signs1 (w:World) (s:Bool) (t:TypeId):0 < 1→∃ b off,(some ⟨w.heap.size,0,none⟩:Option Addr)=some ⟨b,off,none⟩∧b < (w.alloc (.cells #[.int .i64 (sd s)] t)).heap.size∧∀ i,i < 1→(w.alloc (.cells #[.int .i64 (sd s)] t)).cell? ⟨b,off+i,none⟩=some (.int .i64 (sd ((fun _=>s) i))) :=
 fun _=>⟨_,0,rfl,by rw [World.size_alloc];omega,fun i hi=>by obtain rfl:i=0:=(by omega);go_simp⟩
theorem signs2 (w:World) (s s':Bool) (t:TypeId):0 < 2→∃ b off,(some ⟨w.heap.size,0,none⟩:Option Addr)=some ⟨b,off,none⟩∧b < (w.alloc (.cells #[.int .i64 (sd s),.int .i64 (sd s')] t)).heap.size∧∀ i,i < 2→(w.alloc (.cells #[.int .i64 (sd s),.int .i64 (sd s')] t)).cell? ⟨b,off+i,none⟩=some (.int .i64 (sd ((fun i=>if i=0 then s else s') i))) :=
 fun _=>⟨_,0,rfl,by rw [World.size_alloc];omega,fun i hi=>by
  by_cases h:i=0
  ·subst h;go_simp
  ·obtain rfl:i=1:=(by omega)
   go_simp⟩
theorem signed0 (a:Option Addr) (n cap:Nat) (w:World) (hn:n≤140737488355328) :
  Calls Tryz.prog 121 #[.slice a n cap,.slice none 0 0] w fun e w'=>e=.returned (.agg #[.bool false,.slice a n cap])∧Below w.heap.size w w' :=
 (signed_any a n cap none 0 0 (fun _=>false) w (by omega) hn (fun h=>absurd h (by omega))).mono fun e w' ⟨h1,h2⟩=>⟨by rw [h1];rfl,h2⟩
theorem signed1 (a:Option Addr) (n cap:Nat) (s:Bool) (w:World) (hn:n≤140737488355328) :
  Calls Tryz.prog 121 #[.slice a n cap,.slice (some ⟨w.heap.size,0,none⟩) 1 1] (w.alloc (.cells #[.int .i64 (sd s)] 3)) fun e w'=>e=.returned (.agg #[.bool (s && decide (0 < n)),.slice a n cap])∧Below w.heap.size w w' :=
 (signed_any a n cap _ 1 1 (fun _=>s) _ (by omega) hn (signs1 _ _ _)).mono fun e w' ⟨h1,h2⟩=>⟨by rw [h1,xr1],below_al h2⟩
theorem signed2 (a:Option Addr) (n cap:Nat) (s t:Bool) (w:World) (hn:n≤140737488355328) :
  Calls Tryz.prog 121 #[.slice a n cap,.slice (some ⟨w.heap.size,0,none⟩) 2 2] (w.alloc (.cells #[.int .i64 (sd s),.int .i64 (sd t)] 3)) fun e w'=>e=.returned (.agg #[.bool ((s != t) && decide (0 < n)),.slice a n cap])∧Below w.heap.size w w' :=
 (signed_any a n cap _ 2 2 (fun i=>if i=0 then s else t) _ (by omega) hn (signs2 _ _ _ _)).mono fun e w' ⟨h1,h2⟩=>⟨by rw [h1,xr2],below_al h2⟩
theorem bl_beq {X:Nat}:(((bl X:Nat):Int) == 0)=decide (X=0):=by
 by_cases h:X=0
 ·subst h;rw [bl_zero];rfl
 ·have:=bl_pos h
  rw [decide_eq_false h]
  rw [beq_eq_false_iff_ne];omega
set_option maxHeartbeats 1000000 in
theorem wSign_is (s:Bool) (ao:Option Addr) (n cap X:Nat) (Z:Int) (w:World) (hc:n≤cap) (hm:n≤70368744177664) (hS:Seg w ao X n) (hZ:sg s X=Z) :
  Calls Tryz.prog 101 #[.agg #[.bool s,.slice ao n cap]] w fun e w'=>e=.returned (.int .i64 (sgn Z))∧Below w.heap.size w w':=by
 have hB:=xQ2 (w:=w) (.cells #[.bool s,.slice ao n cap] 53)
 have hx:=bl_beq (X:=X)
 subst hZ
 by_cases h0:X=0
 ·subst h0
  rw [decide_eq_true rfl] at hx
  go_enter Tryz.func101,Tryz.ntmps101
  go_wp2_with fail
  refine (Bits_any ao n cap 0 _ hc hm (hS.below hB (Nat.le_refl _))).mono ?_
  rintro e w1 ⟨rfl,rfl⟩
  go_wp2
  go_ret
  exact ⟨by rw [sg_zero,sgn_zero];rfl,hB⟩
 ·rw [decide_eq_false h0] at hx
  have hsg:=sgn_sg (s:=s) h0
  go_enter Tryz.func101,Tryz.ntmps101
  go_wp2_with fail
  refine (Bits_any ao n cap X _ hc hm (hS.below hB (Nat.le_refl _))).mono ?_
  rintro e w1 ⟨rfl,rfl⟩
  go_wp2_with fail
  refine (side_any s _ _).mono ?_
  rintro e w2 ⟨rfl,b2⟩
  go_wp2
  go_ret
  exact ⟨by rw [hsg];rfl,hB.trans (b2.mono hB.size)⟩
end Go.Proofs.YtgfmaejhdbmkoaaGreat
