import Derived.Test.YtgfmaejhdbmkoaaGreatMem
import Derived.RangeFuncRecord
import Derived.Test.YtgfmaejhdbmkoaaGreatWI1
import Derived.Test.YtgfmaejhdbmkoaaGreatWQ3
set_option linter.unusedSimpArgs false
namespace Go.Proofs.YtgfmaejhdbmkoaaGreat
open Go.RowKit
set_option linter.unusedVariables false
structure Ch (c:Nat) (W W':World):Prop where
 os:W'.os=W.os
 tape:W'.tape=W.tape
 output:W'.output=W.output
 size:W'.heap.size=W.heap.size
 other:∀ k,k≠c→W'.heap[k]?=W.heap[k]?
theorem Ch.set {c o:Nat} {W:World} (u:Value):Ch c W (W.setCell ⟨c,o,none⟩ u):=⟨rfl,rfl,rfl,by simp [World.setCell],fun k hk=>Below.heap_setCell _ _ _ _ hk⟩
theorem Ch.trans {c:Nat} {W W1 W2:World} (h:Ch c W W1) (k:Ch c W1 W2):Ch c W W2 :=
 ⟨k.os.trans h.os,k.tape.trans h.tape,k.output.trans h.output,k.size.trans h.size,fun i hi=>(k.other i hi).trans (h.other i hi)⟩
theorem Ch.below {c B:Nat} {W W':World} (h:Ch c W W') (hB:B≤c):Below B W W':=⟨h.os,h.tape,h.output,Nat.le_of_eq h.size.symm,fun k hk=>h.other k (by omega)⟩
theorem set4_is {c:Nat} {W:World} {u0 u1 u2 u3:Value} {t:TypeId} (h:W.heap[c]?=some (.cells #[u0,u1,u2,u3] t (0,0))) (v0 v1 v2 v3:Value) :
  Ch c W ((((W.setCell ⟨c,0,none⟩ v0).setCell ⟨c,1,none⟩ v1).setCell ⟨c,2,none⟩ v2).setCell ⟨c,3,none⟩ v3) ∧
   ((((W.setCell ⟨c,0,none⟩ v0).setCell ⟨c,1,none⟩ v1).setCell ⟨c,2,none⟩ v2).setCell ⟨c,3,none⟩ v3).heap[c]?=some (.cells #[v0,v1,v2,v3] t (0,0)):=by
 refine ⟨(((Ch.set v0).trans (Ch.set v1)).trans (Ch.set v2)).trans (Ch.set v3),?_⟩
 simp [World.setCell,Array.getElem?_modify,h]
def Blk (W:World) (c:Nat) (cur:Array Value) (t:TypeId):Prop:=W.heap[c]?=some (.cells cur t (0,0))
theorem Blk.lt {W:World} {c:Nat} {cur:Array Value} {t:TypeId} (h:Blk W c cur t):c < W.heap.size:=(Array.getElem?_eq_some_iff.1 h).1
theorem Blk.later {W W':World} {c:Nat} {cur:Array Value} {t:TypeId} (h:Blk W c cur t) (hb:Below W.heap.size W W'):Blk W' c cur t:=(hb.block c h.lt).trans h
theorem Blk.cell {W:World} {c:Nat} {cur:Array Value} {t:TypeId} (h:Blk W c cur t) (o:Nat):W.cell? ⟨c,o,none⟩=cur[o]?:=by simp [World.cell?,show W.heap[c]?=_ from h]
theorem Blk.frozen {W:World} {c:Nat} {cur:Array Value} {t:TypeId} (h:Blk W c cur t) (o:Nat):W.frozen? ⟨c,o,none⟩=false:=frozen_of_row W c o cur t h
theorem Blk.new (W:World) (cur:Array Value) (t:TypeId):Blk (W.alloc (.cells cur t)) W.heap.size cur t:=World.alloc_heap_new W _
theorem Seg.ch {c:Nat} {W W':World} {ao:Option Addr} {X n:Nat} (h:Seg W ao X n) (k:Ch c W W') (hno:∀ o i,W.cell? ⟨c,o,none⟩≠some (.int .u32 i)):Seg W' ao X n:=by
 refine ⟨h.1,fun hn=>?_⟩
 obtain ⟨b,off,e,hl,hc⟩:=h.2 hn
 refine ⟨b,off,e,by rw [k.size];exact hl,fun i hi=>?_⟩
 have h1:=hc i hi
 rw [World.cell?_of_block (w:=W) (a:=⟨b,off+i,none⟩) (k.other b fun e=>hno (off+i) _ (by rw [←e];exact h1))]
 exact h1
theorem Blk.ch {c d:Nat} {W W':World} {cur:Array Value} {t:TypeId} (h:Blk W d cur t) (k:Ch c W W') (hne:d≠c):Blk W' d cur t:=(k.other d hne).trans h
theorem Blk.no {W:World} {c:Nat} {cur:Array Value} {t:TypeId} (h:Blk W c cur t) (hc:∀ u∈cur.toList,∀ i,u≠.int .u32 i):∀ o i,W.cell? ⟨c,o,none⟩≠some (.int .u32 i):=fun o i e=>by
 rw [h.cell o] at e
 obtain ⟨hl,he⟩:=Array.getElem?_eq_some_iff.1 e
 exact hc _ (by rw [←he];simp) i rfl
theorem Blk.set4 {c:Nat} {W:World} {u0 u1 u2 u3:Value} {t:TypeId} (h:Blk W c #[u0,u1,u2,u3] t) (v0 v1 v2 v3:Value) :
  Ch c W ((((W.setCell ⟨c,0,none⟩ v0).setCell ⟨c,1,none⟩ v1).setCell ⟨c,2,none⟩ v2).setCell ⟨c,3,none⟩ v3)∧Blk ((((W.setCell ⟨c,0,none⟩ v0).setCell ⟨c,1,none⟩ v1).setCell ⟨c,2,none⟩ v2).setCell ⟨c,3,none⟩ v3) c #[v0,v1,v2,v3] t:=set4_is h v0 v1 v2 v3
theorem Blk.set3 {c:Nat} {W:World} {u0 u1 u2:Value} {t:TypeId} (h:Blk W c #[u0,u1,u2] t) (v0 v1 v2:Value) :
  Ch c W (((W.setCell ⟨c,0,none⟩ v0).setCell ⟨c,1,none⟩ v1).setCell ⟨c,2,none⟩ v2)∧Blk (((W.setCell ⟨c,0,none⟩ v0).setCell ⟨c,1,none⟩ v1).setCell ⟨c,2,none⟩ v2) c #[v0,v1,v2] t:=by
 refine ⟨((Ch.set v0).trans (Ch.set v1)).trans (Ch.set v2),?_⟩
 simp [Blk,World.setCell,Array.getElem?_modify,show W.heap[c]?=_ from h]
theorem nameH {P:Program} {md:Region.Mode} {ops:Array Oper} {Q:Exit→Act→World→Prop} {S:World→Prop} {n:Nat} {L:Array Bool} {a:Act} {w:World} (base:Nat) (hb:∀ W W':World,Below W.heap.size W W'→S W→S W') (hc:∀ (W W':World) c,base≤c→Ch c W W'→S W→S W')
  (h:∀ (G:Nat→Array Bool→Act→World→Prop) (S':World→Prop) (F:List (Nat × Value)→Act),(∀ n L a w,G n L a w↔wpAnyH P md ops Q S' n L a w)→(∀ W,S W→S' W)→(∀ W W':World,Below W.heap.size W W'→S' W→S' W')→(∀ (W W':World) c,base≤c→Ch c W W'→S' W→S' W') →
   (∀ l,F l=⟨l.foldl (fun t p=>t.setIfInBounds p.1 p.2) a.tmps,a.defers⟩)→G n L a w):wpAnyH P md ops Q S n L a w:=h _ S _ (fun _ _ _ _=>Iff.rfl) (fun _ h=>h) hb hc (fun _=>rfl)
theorem Geq {G:Nat→Array Bool→Act→World→Prop} {n m:Nat} {L L':Array Bool} {a a':Act} {w:World} (hn:n=m) (hL:L=L') (ha:a=a') (h:G m L' a' w):G n L a w:=by subst hn hL ha;exact h
theorem cellsT {W W':World} {c b o:Nat} {v:Value} (k:Ch c W W') (hne:b≠c) (h:W.cell? ⟨b,o,none⟩=some v):W'.cell? ⟨b,o,none⟩=some v:=(World.cell?_of_block (w:=W) (a:=⟨b,o,none⟩) (k.other b hne)).trans h
theorem blw {w W W':World} (h:Below w.heap.size w W) (k:Below W.heap.size W W'):Below w.heap.size w W':=h.trans (k.mono h.size)
def Vb (base:Nat) (zs:Array Value) (t:TypeId) (W:World) (c:Nat):Prop:=Blk W c zs t∧base≤c
theorem Vb.later {base:Nat} {zs:Array Value} {t:TypeId} {W W':World} {c:Nat} (h:Vb base zs t W c) (hb:Below W.heap.size W W'):Vb base zs t W' c:=⟨h.1.later hb,h.2⟩
theorem Vb.new {base:Nat} {w W:World} (zs:Array Value) (t:TypeId) (h:Below base w W) (hb:base≤w.heap.size):Vb base zs t (W.alloc (.cells zs t)) W.heap.size:=⟨Blk.new W zs t,Nat.le_trans hb h.size⟩
theorem rd_lt {Y n:Nat} (h:Y < BB ^ n):rd Y < BB ^ (n+1):=by
 unfold rd
 split
 ·have h1:BB ^ 1≤BB ^ (n+1):=xX4 (by omega)
  have h2:1 < BB ^ 1:=by rw [Nat.pow_one,BB_eq];omega
  exact Nat.lt_of_lt_of_le h2 h1
 ·exact Nat.lt_of_lt_of_le h (xX4 (by omega))
theorem consT {P:Program} {ops:Array Oper} {Q:Exit→Act→World→Prop} {md:Region.Mode} {S:World→Prop} {n:Nat} {L:Array Bool} {a:Act} {w:World} {i:Nat} {rs:List Nat} {d:Option Tmp} {op:Op} {ty:TypeId} {pos:String} {af:Array Edge} {g:Option (Nat × Bool)}
  (ho:ops[i]?=some ⟨d,op,ty,pos,af,g⟩) (h:∀ K':Act→World→Prop,Shut (∀ a w,S w→(S w→wpAnyH P md ops Q S n (L.setIfInBounds i true) a w)→K' a w)→if Region.wanted ⟨d,op,ty,pos,af,g⟩ (yielded ops a.tmps)=true then Oper.wp P ⟨d,op,ty,pos,af,g⟩ a w K' Q else K' (a.put d undef) w)
  (h2:AllReadyH P md ops Q S n L a w rs):AllReadyH P md ops Q S n L a w (i :: rs):=AllReadyH.cons ho h h2
theorem Seg.setB {w:World} {p:Option Addr} {X n c o:Nat} {u z:Value} (h:Seg w p X n) (hc:w.cell? ⟨c,o,none⟩=some z) (hz:∀ k i,z≠.int k i):Seg (w.setCell ⟨c,o,none⟩ u) p X n:=by
 refine ⟨h.1,fun hn=>?_⟩
 obtain ⟨b,off,rfl,hb,hcell⟩:=h.2 hn
 refine ⟨b,off,rfl,by simpa [World.setCell] using hb,fun i hi=>?_⟩
 have h1:=hcell i hi
 rw [World.cell?_setCell_other _ _ _ _ (fun e=>?_)]
 ·exact h1
 ·rw [←e,hc] at h1
  simp only [Option.some.injEq] at h1
  exact hz _ _ h1
theorem Seg.set4 {w:World} {p:Option Addr} {X n c:Nat} {u0 u1 u2 u3:Value} {z0 z2:Bool} {a1 a3:Option Addr} {n1 n3 k1 k3:Nat} (h:Seg w p X n) (h0:w.cell? ⟨c,0,none⟩=some (.bool z0)) (h1:w.cell? ⟨c,1,none⟩=some (.slice a1 n1 k1)) (h2:w.cell? ⟨c,2,none⟩=some (.bool z2)) (h3:w.cell? ⟨c,3,none⟩=some (.slice a3 n3 k3)) :
  Seg ((((w.setCell ⟨c,0,none⟩ u0).setCell ⟨c,1,none⟩ u1).setCell ⟨c,2,none⟩ u2).setCell ⟨c,3,none⟩ u3) p X n:=by
 refine (((h.setB h0 (by simp)).setB (z:=.slice a1 n1 k1) ?_ (by simp)).setB (z:=.bool z2) ?_ (by simp)).setB (z:=.slice a3 n3 k3) ?_ (by simp)
 ·rw [World.cell?_setCell_other _ _ _ _ (fun e=>by simp at e)];exact h1
 ·rw [World.cell?_setCell_other _ _ _ _ (fun e=>by simp at e),World.cell?_setCell_other _ _ _ _ (fun e=>by simp at e)];exact h2
 ·rw [World.cell?_setCell_other _ _ _ _ (fun e=>by simp at e),World.cell?_setCell_other _ _ _ _ (fun e=>by simp at e),World.cell?_setCell_other _ _ _ _ (fun e=>by simp at e)];exact h3
set_option maxHeartbeats 4000000 in
set_option maxRecDepth 100000 in
theorem qMul_is (s0:Bool) (a0:Option Addr) (n0 c0 X0:Nat) (b0:Option Addr) (m0 d0 Y0:Nat) (s1:Bool) (a1:Option Addr) (n1 c1 X1:Nat) (b1:Option Addr) (m1 d1 Y1:Nat) (Z:Int) (V:Nat) (w:World) (hc0:n0≤c0) (hm0:n0≤1099511627776) (hS0:Seg w a0 X0 n0) (hd0:m0≤d0) (hk0:m0≤1099511627776) (hT0:Seg w b0 Y0 m0) (hc1:n1≤c1) (hm1:n1≤1099511627776) (hS1:Seg w a1 X1 n1) (hd1:m1≤d1) (hk1:m1≤1099511627776) (hT1:Seg w b1 Y1 m1) (hL:Low (rn s0 X0 Y0*rn s1 X1 Y1) ((rd Y0:Nat)*(rd Y1:Nat)) Z V) :
  Calls Tryz.prog 90 #[Value.agg #[Value.bool s0,Value.slice a0 n0 c0,Value.slice b0 m0 d0],Value.agg #[Value.bool s1,Value.slice a1 n1 c1,Value.slice b1 m1 d1]] w fun e w'=>∃ p q,e=.returned (.agg #[.bool (ng Z),.slice p (ln (am Z)) (ln (am Z)),.slice q (ln V) (ln V)])∧New w w' p (am Z) (ln (am Z))∧New w w' q V (ln V):=by
 have HL:=xQ1 hL
 clear hL
 obtain ⟨P,hP⟩:∃ P,rn s0 X0 Y0*rn s1 X1 Y1=P:=⟨_,rfl⟩
 obtain ⟨D,hD⟩:∃ D,rd Y0*rd Y1=D:=⟨_,rfl⟩
 have hL:=HL.out
 rw [hP,←Int.natCast_mul,hD] at hL
 have lP:ln (am P)≤70368744176010:=by rw [←hP,am_mul];have:=ln_prod (Nat.lt_of_le_of_lt (rn_am s0 X0 Y0) hS0.1) (Nat.lt_of_le_of_lt (rn_am s1 X1 Y1) hS1.1);omega
 have lD:ln D≤70368744176012:=by rw [←hD];have:=ln_prod (rd_lt hT0.1) (rd_lt hT1.1);omega
 have H4':=fun w' zq11 zm11 zd11 zq12 zm12 zd12 (g1:zm11≤zd11) (g2:zm11≤1099511627776) k1 (g3:zm12≤zd12) (g4:zm12≤1099511627776) k2=>wMul_is false zq11 zm11 zd11 (rd Y0) false zq12 zm12 zd12 (rd Y1) (D:Nat) w' g1 (by omega) k1 g3 (by omega) k2 (by rw [sg_mul,hD];rfl)
 rw [ng_nat,am_nat] at H4'
 have H4:=xQ1 H4'
 have H5:=xQ1 (fun w' p q k1 k2=>lowest_is (ng P) p (ln (am P)) (ln (am P)) (am P) q (ln D) (ln D) D V Z w' (Nat.le_refl _) (by omega) k1 (Nat.le_refl _) (by omega) k2 (by rw [sg_na];exact hL))
 have HP:=xQ1 hP
 clear hL hP hD H4' HL
 have HR0:=xQ1 (fun w' k1 k2=>read_is s0 a0 n0 c0 X0 b0 m0 d0 Y0 1099511627776 w' hc0 hm0 k1 hd0 hk0 k2 (by omega) (by omega))
 have HR1:=xQ1 (fun w' k1 k2=>read_is s1 a1 n1 c1 X1 b1 m1 d1 Y1 1099511627776 w' hc1 hm1 k1 hd1 hk1 k2 (by omega) (by omega))
 go_enter Tryz.func90,Tryz.ntmps90
 go_upto_region 1 with fail
 obtain ⟨W,hW⟩:∃ W,(((w.alloc (.cells #[.bool s0,.slice a0 n0 c0,.slice b0 m0 d0] 55)).alloc (.cells #[.bool s1,.slice a1 n1 c1,.slice b1 m1 d1] 55)).alloc (.cells #[.bool false,.slice none 0 0,.slice none 0 0] 55))=W:=⟨_,rfl⟩
 have q00:W.cell? ⟨w.heap.size,0,none⟩=some (.bool s0):=by subst hW;go_simp
 have q01:W.cell? ⟨w.heap.size,1,none⟩=some (.slice a0 n0 c0):=by subst hW;go_simp
 have q02:W.cell? ⟨w.heap.size,2,none⟩=some (.slice b0 m0 d0):=by subst hW;go_simp
 have q10:W.cell? ⟨w.heap.size+1,0,none⟩=some (.bool s1):=by subst hW;go_simp
 have q11:W.cell? ⟨w.heap.size+1,1,none⟩=some (.slice a1 n1 c1):=by subst hW;go_simp
 have q12:W.cell? ⟨w.heap.size+1,2,none⟩=some (.slice b1 m1 d1):=by subst hW;go_simp
 have r00:W.cell? ⟨w.heap.size+1+1,0,none⟩=some (.bool false):=by subst hW;go_simp
 have r01:W.cell? ⟨w.heap.size+1+1,1,none⟩=some (.slice none 0 0):=by subst hW;go_simp
 have r02:W.cell? ⟨w.heap.size+1+1,2,none⟩=some (.slice none 0 0):=by subst hW;go_simp
 have hB:Below w.heap.size w W:=by subst hW;exact ((((Below.refl _ _).alloc (by (try simp only [World.size_alloc]);omega) _).alloc (by (try simp only [World.size_alloc]);omega) _).alloc (by (try simp only [World.size_alloc]);omega) _)
 have hR0:Row W (w.heap.size+1+1):=by
  have:=xQ9 (((w.alloc (.cells #[.bool s0,.slice a0 n0 c0,.slice b0 m0 d0] 55)).alloc (.cells #[.bool s1,.slice a1 n1 c1,.slice b1 m1 d1] 55))) #[.bool false,.slice none 0 0,.slice none 0 0] 55
  try simp only [World.size_alloc] at this
  subst hW;exact this
 have hz:W.heap.size=w.heap.size+1+1+1:=by subst hW;simp only [World.size_alloc]
 rw [hW]
 clear hW
 have hBW:Below W.heap.size W W:=Below.refl _ _
 have hz1:=Nat.le_of_eq hz
 have hz2:=Nat.le_of_eq hz.symm
 clear hz
 go_cut [5,6] from 7 to 10 (fun s5 s6 wx=>∃ c d zs11 zp11 zn11 zc11 zX11 zq11 zm11 zd11 zs12 zp12 zn12 zc12 zX12 zq12 zm12 zd12,s5=.pointer (some ⟨c,0,none⟩)∧s6=.pointer (some ⟨d,0,none⟩)∧W.heap.size≤c∧W.heap.size≤d∧Below W.heap.size W wx∧wx.cell? ⟨c,0,none⟩=some (.bool zs11)∧wx.cell? ⟨c,1,none⟩=some (.slice zp11 zn11 zc11)∧wx.cell? ⟨c,2,none⟩=some (.bool false)∧wx.cell? ⟨c,3,none⟩=some (.slice zq11 zm11 zd11)∧wx.cell? ⟨d,0,none⟩=some (.bool zs12)∧wx.cell? ⟨d,1,none⟩=some (.slice zp12 zn12 zc12)∧wx.cell? ⟨d,2,none⟩=some (.bool false)∧wx.cell? ⟨d,3,none⟩=some (.slice zq12 zm12 zd12)∧zn11≤zc11∧zn11≤1099511627776∧zm11≤zd11∧zm11≤1099511627776∧Seg wx zp11 zX11 zn11∧Seg wx zq11 (rd Y0) zm11∧sg zs11 zX11=rn s0 X0 Y0∧zn12≤zc12∧zn12≤1099511627776∧zm12≤zd12∧zm12≤1099511627776∧Seg wx zp12 zX12 zn12∧Seg wx zq12 (rd Y1) zm12∧sg zs12 zX12=rn s1 X1 Y1)
 case first =>
  have Qq00:=q00
  have Qq01:=q01
  have Qq02:=q02
  have Qq10:=q10
  have Qq11:=q11
  have Qq12:=q12
  clear q00 q01 q02 q10 q11 q12 r00 r01 r02 hR0
  replace hBW:=hBW.drew
  refine wp_region_held_drew (S:=(fun w'=>w'.cell? ⟨w.heap.size,0,none⟩=some (.bool s0)∧w'.cell? ⟨w.heap.size,1,none⟩=some (.slice a0 n0 c0)∧w'.cell? ⟨w.heap.size,2,none⟩=some (.slice b0 m0 d0)∧w'.cell? ⟨w.heap.size+1,0,none⟩=some (.bool s1)∧w'.cell? ⟨w.heap.size+1,1,none⟩=some (.slice a1 n1 c1)∧w'.cell? ⟨w.heap.size+1,2,none⟩=some (.slice b1 m1 d1)∧Below w.heap.size w w')) (by kernel_rfl) (kp6 (W:=W) hBW ⟨Qq00,Qq01,Qq02,Qq10,Qq11,Qq12,hB⟩) (fun hHeld=>?_)
  generalize W.drew=w0 at hBW hHeld ⊢
  refine tk 0 (v:=?_) rfl (Or.inl ⟨by rfl,?_⟩) ?_
  rotate_left
  ·intro w9 hSw
   go_simp
   try with_reducible rfl
  simp only [pA]
  refine tk 2 (v:=?_) rfl (Or.inl ⟨by rfl,?_⟩) ?_
  rotate_left
  ·intro w9 hSw
   go_simp
   try with_reducible rfl
  simp only [pA]
  have hs0:=hBW.size
  obtain ⟨va0,hva0⟩:∃ v,Value.agg #[.bool s0,.slice a0 n0 c0,.slice b0 m0 d0]=v:=⟨_,rfl⟩
  rw [hva0] at HR0 ⊢
  obtain ⟨P0,hP0⟩:∃ P:World→Value→Prop,P=fun W v=>∃ zs11 zp11 zn11 zc11 zX11 zq11 zm11 zd11,v=.agg #[.bool zs11,.slice zp11 zn11 zc11,.bool false,.slice zq11 zm11 zd11]∧zn11≤zc11∧zn11≤1099511627776∧zm11≤zd11∧zm11≤1099511627776∧Seg W zp11 zX11 zn11∧Seg W zq11 (rd Y0) zm11∧sg zs11 zX11=rn s0 X0 Y0:=⟨_,rfl⟩
  have P0_b:∀ {W W':World} {v:Value},Below W.heap.size W W'→P0 W v→P0 W' v:=fun {W W' v} hb h=>by
   rw [hP0] at h ⊢
   obtain ⟨zs11,zp11,zn11,zc11,zX11,zq11,zm11,zd11,e,ga11,gb11,gc11,gd11,kS11,kT11,ge11⟩:=h
   exact ⟨zs11,zp11,zn11,zc11,zX11,zq11,zm11,zd11,e,ga11,gb11,gc11,gd11,kS11.later hb,kT11.later hb,ge11⟩
  have GC0:∀ W':World,Below w0.heap.size w0 W'→Calls Tryz.prog 76 #[va0] W' fun e w'=>∃ v,e=.returned v∧Below W'.heap.size W' w'∧P0 w' v:=fun W' hb=>by
   have hX:=hBW.trans (hb.mono hBW.size)
   refine (HR0.out _ (sb hS0 hB hX) (sb hT0 hB hX)).mono ?_
   rintro e W2 ⟨zs11,zp11,zn11,zc11,zX11,zq11,zm11,zd11,rfl,ga11,gb11,gc11,gd11,kS11,kT11,ge11,bb11⟩
   exact ⟨_,rfl,bb11,by rw [hP0];exact ⟨zs11,zp11,zn11,zc11,zX11,zq11,zm11,zd11,rfl,ga11,gb11,gc11,gd11,kS11,kT11,ge11⟩⟩
  obtain ⟨va1,hva1⟩:∃ v,Value.agg #[.bool s1,.slice a1 n1 c1,.slice b1 m1 d1]=v:=⟨_,rfl⟩
  rw [hva1] at HR1 ⊢
  obtain ⟨P1,hP1⟩:∃ P:World→Value→Prop,P=fun W v=>∃ zs12 zp12 zn12 zc12 zX12 zq12 zm12 zd12,v=.agg #[.bool zs12,.slice zp12 zn12 zc12,.bool false,.slice zq12 zm12 zd12]∧zn12≤zc12∧zn12≤1099511627776∧zm12≤zd12∧zm12≤1099511627776∧Seg W zp12 zX12 zn12∧Seg W zq12 (rd Y1) zm12∧sg zs12 zX12=rn s1 X1 Y1:=⟨_,rfl⟩
  have P1_b:∀ {W W':World} {v:Value},Below W.heap.size W W'→P1 W v→P1 W' v:=fun {W W' v} hb h=>by
   rw [hP1] at h ⊢
   obtain ⟨zs12,zp12,zn12,zc12,zX12,zq12,zm12,zd12,e,ga12,gb12,gc12,gd12,kS12,kT12,ge12⟩:=h
   exact ⟨zs12,zp12,zn12,zc12,zX12,zq12,zm12,zd12,e,ga12,gb12,gc12,gd12,kS12.later hb,kT12.later hb,ge12⟩
  have GC1:∀ W':World,Below w0.heap.size w0 W'→Calls Tryz.prog 76 #[va1] W' fun e w'=>∃ v,e=.returned v∧Below W'.heap.size W' w'∧P1 w' v:=fun W' hb=>by
   have hX:=hBW.trans (hb.mono hBW.size)
   refine (HR1.out _ (sb hS1 hB hX) (sb hT1 hB hX)).mono ?_
   rintro e W2 ⟨zs12,zp12,zn12,zc12,zX12,zq12,zm12,zd12,rfl,ga12,gb12,gc12,gd12,kS12,kT12,ge12,bb12⟩
   exact ⟨_,rfl,bb12,by rw [hP1];exact ⟨zs12,zp12,zn12,zc12,zX12,zq12,zm12,zd12,rfl,ga12,gb12,gc12,gd12,kS12,kT12,ge12⟩⟩
  have bZ:Below w0.heap.size w0 w0:=Below.refl _ _
  refine nameH w0.heap.size (fun W1 W2 hb h=>(⟨xQ0 hb h.1,xQ0 hb h.2.1,xQ0 hb h.2.2.1,xQ0 hb h.2.2.2.1,xQ0 hb h.2.2.2.2.1,xQ0 hb h.2.2.2.2.2.1,h.2.2.2.2.2.2.trans (hb.mono h.2.2.2.2.2.2.size)⟩:_∧_∧_∧_∧_∧_∧_)) (fun W1 W2 c hg hk h=>(⟨cellsT hk (by omega) h.1,cellsT hk (by omega) h.2.1,cellsT hk (by omega) h.2.2.1,cellsT hk (by omega) h.2.2.2.1,cellsT hk (by omega) h.2.2.2.2.1,cellsT hk (by omega) h.2.2.2.2.2.1,h.2.2.2.2.2.2.trans (hk.below (by omega))⟩:_∧_∧_∧_∧_∧_∧_)) ?_
  intro G SS F hG hS0 hSB hSC hF
  replace hHeld:=hS0 _ hHeld
  clear hS0
  obtain ⟨z0V,hz0V⟩:∃ z:Array Value,#[.bool false,.slice none 0 0,.bool false,.slice none 0 0]=z:=⟨_,rfl⟩
  have b0V:∀ W:World,Below W.heap.size W (W.alloc (.cells z0V 111)):=fun W=>xQ2 _
  have st2cd:∀ (WW:World) (v0 v1:Value) (cc cd:Nat),P0 WW v0→P1 WW v1→Vb w0.heap.size z0V 111 WW cc→Vb w0.heap.size z0V 111 WW cd→cc≠cd→Below w0.heap.size w0 WW→SS WW→G 2 #[true,true,true,true,true,true,false,false] (F [(8,v0),(10,v1),(5,.pointer (some ⟨cc,0,none⟩)),(6,.pointer (some ⟨cd,0,none⟩))]) WW:=by
   intro WW v0 v1 cc cd k0 k1 qc qd ncd bT hH
   rw [hF]
   simp only [List.foldl_cons,List.foldl_nil,List.setIfInBounds_toArray,List.set_cons_zero,List.set_cons_succ]
   refine (hG _ _ _ _).2 ?_
   rw [hP0] at k0
   obtain ⟨zs11,zp11,zn11,zc11,zX11,zq11,zm11,zd11,rfl,ga11,gb11,gc11,gd11,kS11,kT11,ge11⟩:=k0
   rw [hP1] at k1
   obtain ⟨zs12,zp12,zn12,zc12,zX12,zq12,zm12,zd12,rfl,ga12,gb12,gc12,gd12,kS12,kT12,ge12⟩:=k1
   obtain ⟨qc,lcge⟩:=qc
   obtain ⟨qd,ldge⟩:=qd
   subst hva0 hva1 hz0V
   refine wpAnyH_ready (rs:=[6]) (by kernel_rfl) (by simp) ?_
   refine xX0 rfl (fun KK hKK=>?_)
   have z0:=qc.cell 0
   have z1:=qc.cell 1
   have z2:=qc.cell 2
   have z3:=qc.cell 3
   simp only [List.getElem?_toArray,List.getElem?_cons_zero,List.getElem?_cons_succ] at z0 z1 z2 z3
   have fz:=fun o=>qc.frozen o
   obtain ⟨c9,q9⟩:=qc.set4 (.bool zs11) (.slice zp11 zn11 zc11) (.bool false) (.slice zq11 zm11 zd11)
   have hno:=qc.no (by simp)
   replace kS11:=kS11.ch c9 hno
   replace kT11:=kT11.ch c9 hno
   replace kS12:=kS12.ch c9 hno
   replace kT12:=kT12.ch c9 hno
   replace qd:=qd.ch c9 (by omega)
   replace bT:=bT.trans (c9.below lcge)
   replace hH:=hSC _ _ _ lcge c9 hH
   go_simp
   clear z0 z1 z2 z3 fz hno c9
   replace qc:=q9
   refine hKK.out _ _ hH ?_
   intro _
   clear hKK KK
   try simp only [pA]
   generalize ((((WW.setCell ⟨cc,0,none⟩ (.bool zs11)).setCell ⟨cc,1,none⟩ (.slice zp11 zn11 zc11)).setCell ⟨cc,2,none⟩ (.bool false)).setCell ⟨cc,3,none⟩ (.slice zq11 zm11 zd11))=wLc at kS11 kT11 kS12 kT12 qc qd bT hH ⊢
   refine wpAnyH_ready (rs:=[7]) (by kernel_rfl) (by simp) ?_
   refine xX0 rfl (fun KK hKK=>?_)
   have z0:=qd.cell 0
   have z1:=qd.cell 1
   have z2:=qd.cell 2
   have z3:=qd.cell 3
   simp only [List.getElem?_toArray,List.getElem?_cons_zero,List.getElem?_cons_succ] at z0 z1 z2 z3
   have fz:=fun o=>qd.frozen o
   obtain ⟨c9,q9⟩:=qd.set4 (.bool zs12) (.slice zp12 zn12 zc12) (.bool false) (.slice zq12 zm12 zd12)
   have hno:=qd.no (by simp)
   replace kS11:=kS11.ch c9 hno
   replace kT11:=kT11.ch c9 hno
   replace kS12:=kS12.ch c9 hno
   replace kT12:=kT12.ch c9 hno
   replace qc:=qc.ch c9 (by omega)
   replace bT:=bT.trans (c9.below ldge)
   replace hH:=hSC _ _ _ ldge c9 hH
   go_simp
   clear z0 z1 z2 z3 fz hno c9
   replace qd:=q9
   refine hKK.out _ _ hH ?_
   intro _
   clear hKK KK
   try simp only [pA]
   generalize ((((wLc.setCell ⟨cd,0,none⟩ (.bool zs12)).setCell ⟨cd,1,none⟩ (.slice zp12 zn12 zc12)).setCell ⟨cd,2,none⟩ (.bool false)).setCell ⟨cd,3,none⟩ (.slice zq12 zm12 zd12))=wLd at kS11 kT11 kS12 kT12 qc qd bT hH ⊢
   refine wpAnyH_done (by kernel_rfl) ?_ _
   have lc0:=qc.cell 0
   have lc1:=qc.cell 1
   have lc2:=qc.cell 2
   have lc3:=qc.cell 3
   have ld0:=qd.cell 0
   have ld1:=qd.cell 1
   have ld2:=qd.cell 2
   have ld3:=qd.cell 3
   simp only [List.getElem?_toArray,List.getElem?_cons_zero,List.getElem?_cons_succ] at lc0 lc1 lc2 lc3 ld0 ld1 ld2 ld3
   replace lcge:=Nat.le_trans hs0 lcge
   replace ldge:=Nat.le_trans hs0 ldge
   have hBW:=hBW.trans (bT.mono hs0)
   go_wp2_with fail
   go_meet
   exact ⟨cc,cd,zs11,zp11,zn11,zc11,zX11,zq11,zm11,zd11,zs12,zp12,zn12,zc12,zX12,zq12,zm12,zd12,rfl,rfl,lcge,ldge,hBW,lc0,lc1,lc2,lc3,ld0,ld1,ld2,ld3,ga11,gb11,gc11,gd11,kS11,kT11,ge11,ga12,gb12,gc12,gd12,kS12,kT12,ge12⟩
  have st2c:∀ (WW:World) (v0 v1:Value) (cc:Nat),P0 WW v0→P1 WW v1→Vb w0.heap.size z0V 111 WW cc→Below w0.heap.size w0 WW→SS WW→G 3 #[true,true,true,true,true,false,false,false] (F [(8,v0),(10,v1),(5,.pointer (some ⟨cc,0,none⟩))]) WW:=by
   intro WW v0 v1 cc k0 k1 qc bT hH
   rw [hF]
   simp only [List.foldl_cons,List.foldl_nil,List.setIfInBounds_toArray,List.set_cons_zero,List.set_cons_succ]
   refine (hG _ _ _ _).2 ?_
   refine wpAnyH_ready (rs:=[5]) (by kernel_rfl) (by simp) ?_
   refine consT rfl (fun KK hKK=>?_) ?_
   ·go_simp
    try rw [hz0V]
    refine hKK.out _ _ (hSB _ _ (b0V WW) hH) ?_
    intro _
    try simp only [pA]
    exact (hG _ _ _ _).1 (Geq (by kernel_rfl) (by kernel_rfl) (by rw [hF];kernel_rfl) (st2cd _ v0 v1 cc WW.heap.size (P0_b (b0V WW) k0) (P1_b (b0V WW) k1) (qc.later (b0V WW)) (Vb.new _ _ bT (Nat.le_refl _)) (Nat.ne_of_lt qc.1.lt) (blw bT (b0V WW)) (hSB _ _ (b0V WW) hH)))
   exact AllReadyH.nil
  have st2d:∀ (WW:World) (v0 v1:Value) (cd:Nat),P0 WW v0→P1 WW v1→Vb w0.heap.size z0V 111 WW cd→Below w0.heap.size w0 WW→SS WW→G 3 #[true,true,true,true,false,true,false,false] (F [(8,v0),(10,v1),(6,.pointer (some ⟨cd,0,none⟩))]) WW:=by
   intro WW v0 v1 cd k0 k1 qd bT hH
   rw [hF]
   simp only [List.foldl_cons,List.foldl_nil,List.setIfInBounds_toArray,List.set_cons_zero,List.set_cons_succ]
   refine (hG _ _ _ _).2 ?_
   refine wpAnyH_ready (rs:=[4]) (by kernel_rfl) (by simp) ?_
   refine consT rfl (fun KK hKK=>?_) ?_
   ·go_simp
    try rw [hz0V]
    refine hKK.out _ _ (hSB _ _ (b0V WW) hH) ?_
    intro _
    try simp only [pA]
    exact (hG _ _ _ _).1 (Geq (by kernel_rfl) (by kernel_rfl) (by rw [hF];kernel_rfl) (st2cd _ v0 v1 WW.heap.size cd (P0_b (b0V WW) k0) (P1_b (b0V WW) k1) (Vb.new _ _ bT (Nat.le_refl _)) (qd.later (b0V WW)) (Nat.ne_of_gt qd.1.lt) (blw bT (b0V WW)) (hSB _ _ (b0V WW) hH)))
   exact AllReadyH.nil
  have st2:∀ (WW:World) (v0 v1:Value),P0 WW v0→P1 WW v1→Below w0.heap.size w0 WW→SS WW→G 4 #[true,true,true,true,false,false,false,false] (F [(8,v0),(10,v1)]) WW:=by
   intro WW v0 v1 k0 k1 bT hH
   rw [hF]
   simp only [List.foldl_cons,List.foldl_nil,List.setIfInBounds_toArray,List.set_cons_zero,List.set_cons_succ]
   refine (hG _ _ _ _).2 ?_
   refine wpAnyH_ready (rs:=[4,5]) (by kernel_rfl) (by simp) ?_
   refine consT rfl (fun KK hKK=>?_) ?_
   ·go_simp
    try rw [hz0V]
    refine hKK.out _ _ (hSB _ _ (b0V WW) hH) ?_
    intro _
    try simp only [pA]
    exact (hG _ _ _ _).1 (Geq (by kernel_rfl) (by kernel_rfl) (by rw [hF];kernel_rfl) (st2c _ v0 v1 WW.heap.size (P0_b (b0V WW) k0) (P1_b (b0V WW) k1) (Vb.new _ _ bT (Nat.le_refl _)) (blw bT (b0V WW)) (hSB _ _ (b0V WW) hH)))
   refine consT rfl (fun KK hKK=>?_) ?_
   ·go_simp
    try rw [hz0V]
    refine hKK.out _ _ (hSB _ _ (b0V WW) hH) ?_
    intro _
    try simp only [pA]
    exact (hG _ _ _ _).1 (Geq (by kernel_rfl) (by kernel_rfl) (by rw [hF];kernel_rfl) (st2d _ v0 v1 WW.heap.size (P0_b (b0V WW) k0) (P1_b (b0V WW) k1) (Vb.new _ _ bT (Nat.le_refl _)) (blw bT (b0V WW)) (hSB _ _ (b0V WW) hH)))
   exact AllReadyH.nil
  have st1cd:∀ (WW:World) (v0:Value) (cc cd:Nat),P0 WW v0→Vb w0.heap.size z0V 111 WW cc→Vb w0.heap.size z0V 111 WW cd→cc≠cd→Below w0.heap.size w0 WW→SS WW→G 3 #[true,true,true,false,true,true,false,false] (F [(8,v0),(5,.pointer (some ⟨cc,0,none⟩)),(6,.pointer (some ⟨cd,0,none⟩))]) WW:=by
   intro WW v0 cc cd k0 qc qd ncd bT hH
   rw [hF]
   simp only [List.foldl_cons,List.foldl_nil,List.setIfInBounds_toArray,List.set_cons_zero,List.set_cons_succ]
   refine (hG _ _ _ _).2 ?_
   refine wpAnyH_ready (rs:=[3]) (by kernel_rfl) (by simp) ?_
   refine consT rfl (fun KK hKK=>?_) ?_
   ·go_simp
    refine (GC1 _ bT).mono ?_
    rintro e W2 ⟨v1,rfl,bC,k1⟩
    go_wp2_with fail
    refine hKK.out _ _ (hSB _ _ bC hH) ?_
    intro _
    try simp only [pA]
    exact (hG _ _ _ _).1 (Geq (by kernel_rfl) (by kernel_rfl) (by rw [hF];kernel_rfl) (st2cd W2 v0 v1 cc cd (P0_b bC k0) k1 (qc.later bC) (qd.later bC) ncd (blw bT bC) (hSB _ _ bC hH)))
   exact AllReadyH.nil
  have st1c:∀ (WW:World) (v0:Value) (cc:Nat),P0 WW v0→Vb w0.heap.size z0V 111 WW cc→Below w0.heap.size w0 WW→SS WW→G 4 #[true,true,true,false,true,false,false,false] (F [(8,v0),(5,.pointer (some ⟨cc,0,none⟩))]) WW:=by
   intro WW v0 cc k0 qc bT hH
   rw [hF]
   simp only [List.foldl_cons,List.foldl_nil,List.setIfInBounds_toArray,List.set_cons_zero,List.set_cons_succ]
   refine (hG _ _ _ _).2 ?_
   refine wpAnyH_ready (rs:=[3,5]) (by kernel_rfl) (by simp) ?_
   refine consT rfl (fun KK hKK=>?_) ?_
   ·go_simp
    refine (GC1 _ bT).mono ?_
    rintro e W2 ⟨v1,rfl,bC,k1⟩
    go_wp2_with fail
    refine hKK.out _ _ (hSB _ _ bC hH) ?_
    intro _
    try simp only [pA]
    exact (hG _ _ _ _).1 (Geq (by kernel_rfl) (by kernel_rfl) (by rw [hF];kernel_rfl) (st2c W2 v0 v1 cc (P0_b bC k0) k1 (qc.later bC) (blw bT bC) (hSB _ _ bC hH)))
   refine consT rfl (fun KK hKK=>?_) ?_
   ·go_simp
    try rw [hz0V]
    refine hKK.out _ _ (hSB _ _ (b0V WW) hH) ?_
    intro _
    try simp only [pA]
    exact (hG _ _ _ _).1 (Geq (by kernel_rfl) (by kernel_rfl) (by rw [hF];kernel_rfl) (st1cd _ v0 cc WW.heap.size (P0_b (b0V WW) k0) (qc.later (b0V WW)) (Vb.new _ _ bT (Nat.le_refl _)) (Nat.ne_of_lt qc.1.lt) (blw bT (b0V WW)) (hSB _ _ (b0V WW) hH)))
   exact AllReadyH.nil
  have st1d:∀ (WW:World) (v0:Value) (cd:Nat),P0 WW v0→Vb w0.heap.size z0V 111 WW cd→Below w0.heap.size w0 WW→SS WW→G 4 #[true,true,true,false,false,true,false,false] (F [(8,v0),(6,.pointer (some ⟨cd,0,none⟩))]) WW:=by
   intro WW v0 cd k0 qd bT hH
   rw [hF]
   simp only [List.foldl_cons,List.foldl_nil,List.setIfInBounds_toArray,List.set_cons_zero,List.set_cons_succ]
   refine (hG _ _ _ _).2 ?_
   refine wpAnyH_ready (rs:=[3,4]) (by kernel_rfl) (by simp) ?_
   refine consT rfl (fun KK hKK=>?_) ?_
   ·go_simp
    refine (GC1 _ bT).mono ?_
    rintro e W2 ⟨v1,rfl,bC,k1⟩
    go_wp2_with fail
    refine hKK.out _ _ (hSB _ _ bC hH) ?_
    intro _
    try simp only [pA]
    exact (hG _ _ _ _).1 (Geq (by kernel_rfl) (by kernel_rfl) (by rw [hF];kernel_rfl) (st2d W2 v0 v1 cd (P0_b bC k0) k1 (qd.later bC) (blw bT bC) (hSB _ _ bC hH)))
   refine consT rfl (fun KK hKK=>?_) ?_
   ·go_simp
    try rw [hz0V]
    refine hKK.out _ _ (hSB _ _ (b0V WW) hH) ?_
    intro _
    try simp only [pA]
    exact (hG _ _ _ _).1 (Geq (by kernel_rfl) (by kernel_rfl) (by rw [hF];kernel_rfl) (st1cd _ v0 WW.heap.size cd (P0_b (b0V WW) k0) (Vb.new _ _ bT (Nat.le_refl _)) (qd.later (b0V WW)) (Nat.ne_of_gt qd.1.lt) (blw bT (b0V WW)) (hSB _ _ (b0V WW) hH)))
   exact AllReadyH.nil
  have st1:∀ (WW:World) (v0:Value),P0 WW v0→Below w0.heap.size w0 WW→SS WW→G 5 #[true,true,true,false,false,false,false,false] (F [(8,v0)]) WW:=by
   intro WW v0 k0 bT hH
   rw [hF]
   simp only [List.foldl_cons,List.foldl_nil,List.setIfInBounds_toArray,List.set_cons_zero,List.set_cons_succ]
   refine (hG _ _ _ _).2 ?_
   refine wpAnyH_ready (rs:=[3,4,5]) (by kernel_rfl) (by simp) ?_
   refine consT rfl (fun KK hKK=>?_) ?_
   ·go_simp
    refine (GC1 _ bT).mono ?_
    rintro e W2 ⟨v1,rfl,bC,k1⟩
    go_wp2_with fail
    refine hKK.out _ _ (hSB _ _ bC hH) ?_
    intro _
    try simp only [pA]
    exact (hG _ _ _ _).1 (Geq (by kernel_rfl) (by kernel_rfl) (by rw [hF];kernel_rfl) (st2 W2 v0 v1 (P0_b bC k0) k1 (blw bT bC) (hSB _ _ bC hH)))
   refine consT rfl (fun KK hKK=>?_) ?_
   ·go_simp
    try rw [hz0V]
    refine hKK.out _ _ (hSB _ _ (b0V WW) hH) ?_
    intro _
    try simp only [pA]
    exact (hG _ _ _ _).1 (Geq (by kernel_rfl) (by kernel_rfl) (by rw [hF];kernel_rfl) (st1c _ v0 WW.heap.size (P0_b (b0V WW) k0) (Vb.new _ _ bT (Nat.le_refl _)) (blw bT (b0V WW)) (hSB _ _ (b0V WW) hH)))
   refine consT rfl (fun KK hKK=>?_) ?_
   ·go_simp
    try rw [hz0V]
    refine hKK.out _ _ (hSB _ _ (b0V WW) hH) ?_
    intro _
    try simp only [pA]
    exact (hG _ _ _ _).1 (Geq (by kernel_rfl) (by kernel_rfl) (by rw [hF];kernel_rfl) (st1d _ v0 WW.heap.size (P0_b (b0V WW) k0) (Vb.new _ _ bT (Nat.le_refl _)) (blw bT (b0V WW)) (hSB _ _ (b0V WW) hH)))
   exact AllReadyH.nil
  have st0cd:∀ (WW:World) (cc cd:Nat),Vb w0.heap.size z0V 111 WW cc→Vb w0.heap.size z0V 111 WW cd→cc≠cd→Below w0.heap.size w0 WW→SS WW→G 4 #[true,false,true,false,true,true,false,false] (F [(5,.pointer (some ⟨cc,0,none⟩)),(6,.pointer (some ⟨cd,0,none⟩))]) WW:=by
   intro WW cc cd qc qd ncd bT hH
   rw [hF]
   simp only [List.foldl_cons,List.foldl_nil,List.setIfInBounds_toArray,List.set_cons_zero,List.set_cons_succ]
   refine (hG _ _ _ _).2 ?_
   refine wpAnyH_ready (rs:=[1]) (by kernel_rfl) (by simp) ?_
   refine consT rfl (fun KK hKK=>?_) ?_
   ·go_simp
    refine (GC0 _ bT).mono ?_
    rintro e W2 ⟨v0,rfl,bC,k0⟩
    go_wp2_with fail
    refine hKK.out _ _ (hSB _ _ bC hH) ?_
    intro _
    try simp only [pA]
    exact (hG _ _ _ _).1 (Geq (by kernel_rfl) (by kernel_rfl) (by rw [hF];kernel_rfl) (st1cd W2 v0 cc cd k0 (qc.later bC) (qd.later bC) ncd (blw bT bC) (hSB _ _ bC hH)))
   exact AllReadyH.nil
  have st0c:∀ (WW:World) (cc:Nat),Vb w0.heap.size z0V 111 WW cc→Below w0.heap.size w0 WW→SS WW→G 5 #[true,false,true,false,true,false,false,false] (F [(5,.pointer (some ⟨cc,0,none⟩))]) WW:=by
   intro WW cc qc bT hH
   rw [hF]
   simp only [List.foldl_cons,List.foldl_nil,List.setIfInBounds_toArray,List.set_cons_zero,List.set_cons_succ]
   refine (hG _ _ _ _).2 ?_
   refine wpAnyH_ready (rs:=[1,5]) (by kernel_rfl) (by simp) ?_
   refine consT rfl (fun KK hKK=>?_) ?_
   ·go_simp
    refine (GC0 _ bT).mono ?_
    rintro e W2 ⟨v0,rfl,bC,k0⟩
    go_wp2_with fail
    refine hKK.out _ _ (hSB _ _ bC hH) ?_
    intro _
    try simp only [pA]
    exact (hG _ _ _ _).1 (Geq (by kernel_rfl) (by kernel_rfl) (by rw [hF];kernel_rfl) (st1c W2 v0 cc k0 (qc.later bC) (blw bT bC) (hSB _ _ bC hH)))
   refine consT rfl (fun KK hKK=>?_) ?_
   ·go_simp
    try rw [hz0V]
    refine hKK.out _ _ (hSB _ _ (b0V WW) hH) ?_
    intro _
    try simp only [pA]
    exact (hG _ _ _ _).1 (Geq (by kernel_rfl) (by kernel_rfl) (by rw [hF];kernel_rfl) (st0cd _ cc WW.heap.size (qc.later (b0V WW)) (Vb.new _ _ bT (Nat.le_refl _)) (Nat.ne_of_lt qc.1.lt) (blw bT (b0V WW)) (hSB _ _ (b0V WW) hH)))
   exact AllReadyH.nil
  have st0d:∀ (WW:World) (cd:Nat),Vb w0.heap.size z0V 111 WW cd→Below w0.heap.size w0 WW→SS WW→G 5 #[true,false,true,false,false,true,false,false] (F [(6,.pointer (some ⟨cd,0,none⟩))]) WW:=by
   intro WW cd qd bT hH
   rw [hF]
   simp only [List.foldl_cons,List.foldl_nil,List.setIfInBounds_toArray,List.set_cons_zero,List.set_cons_succ]
   refine (hG _ _ _ _).2 ?_
   refine wpAnyH_ready (rs:=[1,4]) (by kernel_rfl) (by simp) ?_
   refine consT rfl (fun KK hKK=>?_) ?_
   ·go_simp
    refine (GC0 _ bT).mono ?_
    rintro e W2 ⟨v0,rfl,bC,k0⟩
    go_wp2_with fail
    refine hKK.out _ _ (hSB _ _ bC hH) ?_
    intro _
    try simp only [pA]
    exact (hG _ _ _ _).1 (Geq (by kernel_rfl) (by kernel_rfl) (by rw [hF];kernel_rfl) (st1d W2 v0 cd k0 (qd.later bC) (blw bT bC) (hSB _ _ bC hH)))
   refine consT rfl (fun KK hKK=>?_) ?_
   ·go_simp
    try rw [hz0V]
    refine hKK.out _ _ (hSB _ _ (b0V WW) hH) ?_
    intro _
    try simp only [pA]
    exact (hG _ _ _ _).1 (Geq (by kernel_rfl) (by kernel_rfl) (by rw [hF];kernel_rfl) (st0cd _ WW.heap.size cd (Vb.new _ _ bT (Nat.le_refl _)) (qd.later (b0V WW)) (Nat.ne_of_gt qd.1.lt) (blw bT (b0V WW)) (hSB _ _ (b0V WW) hH)))
   exact AllReadyH.nil
  have st0:∀ (WW:World),Below w0.heap.size w0 WW→SS WW→G 6 #[true,false,true,false,false,false,false,false] (F []) WW:=by
   intro WW bT hH
   rw [hF]
   simp only [List.foldl_cons,List.foldl_nil,List.setIfInBounds_toArray,List.set_cons_zero,List.set_cons_succ]
   refine (hG _ _ _ _).2 ?_
   refine wpAnyH_ready (rs:=[1,4,5]) (by kernel_rfl) (by simp) ?_
   refine consT rfl (fun KK hKK=>?_) ?_
   ·go_simp
    refine (GC0 _ bT).mono ?_
    rintro e W2 ⟨v0,rfl,bC,k0⟩
    go_wp2_with fail
    refine hKK.out _ _ (hSB _ _ bC hH) ?_
    intro _
    try simp only [pA]
    exact (hG _ _ _ _).1 (Geq (by kernel_rfl) (by kernel_rfl) (by rw [hF];kernel_rfl) (st1 W2 v0 k0 (blw bT bC) (hSB _ _ bC hH)))
   refine consT rfl (fun KK hKK=>?_) ?_
   ·go_simp
    try rw [hz0V]
    refine hKK.out _ _ (hSB _ _ (b0V WW) hH) ?_
    intro _
    try simp only [pA]
    exact (hG _ _ _ _).1 (Geq (by kernel_rfl) (by kernel_rfl) (by rw [hF];kernel_rfl) (st0c _ WW.heap.size (Vb.new _ _ bT (Nat.le_refl _)) (blw bT (b0V WW)) (hSB _ _ (b0V WW) hH)))
   refine consT rfl (fun KK hKK=>?_) ?_
   ·go_simp
    try rw [hz0V]
    refine hKK.out _ _ (hSB _ _ (b0V WW) hH) ?_
    intro _
    try simp only [pA]
    exact (hG _ _ _ _).1 (Geq (by kernel_rfl) (by kernel_rfl) (by rw [hF];kernel_rfl) (st0d _ WW.heap.size (Vb.new _ _ bT (Nat.le_refl _)) (blw bT (b0V WW)) (hSB _ _ (b0V WW) hH)))
   exact AllReadyH.nil
  exact Geq (by kernel_rfl) (by kernel_rfl) (by rw [hF];kernel_rfl) (st0 _ bZ hHeld)
 case rest =>
 clear hBW HR0 HR1
 obtain ⟨c,d,zs11,zp11,zn11,zc11,zX11,zq11,zm11,zd11,zs12,zp12,zn12,zc12,zX12,zq12,zm12,zd12,rfl,rfl,lcge,ldge,hBW,lc0,lc1,lc2,lc3,ld0,ld1,ld2,ld3,ga11,gb11,gc11,gd11,kS11,kT11,ge11,ga12,gb12,gc12,gd12,kS12,kT12,ge12⟩:=hcut
 replace q00:=xQ0 hBW q00
 replace q01:=xQ0 hBW q01
 replace q02:=xQ0 hBW q02
 replace q10:=xQ0 hBW q10
 replace q11:=xQ0 hBW q11
 replace q12:=xQ0 hBW q12
 replace r00:=xQ0 hBW r00
 replace r01:=xQ0 hBW r01
 replace r02:=xQ0 hBW r02
 replace hR0:=xQ3 hBW hR0
 have hp:sg zs11 zX11*sg zs12 zX12=P:=by rw [ge11,ge12];exact HP.out
 go_wp2_with fail
 replace hBW:=hBW.drew
 replace kS11:=kS11.drew
 replace kT11:=kT11.drew
 replace kS12:=kS12.drew
 replace kT12:=kT12.drew
 first
  | go_region_held3 (fun w'=>w'.cell? ⟨c,0,none⟩=some (.bool zs11)∧w'.cell? ⟨c,1,none⟩=some (.slice zp11 zn11 zc11)∧w'.cell? ⟨c,2,none⟩=some (.bool false)∧w'.cell? ⟨c,3,none⟩=some (.slice zq11 zm11 zd11)∧w'.cell? ⟨d,0,none⟩=some (.bool zs12)∧w'.cell? ⟨d,1,none⟩=some (.slice zp12 zn12 zc12)∧w'.cell? ⟨d,2,none⟩=some (.bool false)∧w'.cell? ⟨d,3,none⟩=some (.slice zq12 zm12 zd12)∧Below w.heap.size w w')
    (first | exact ⟨lc0,lc1,lc2,lc3,ld0,ld1,ld2,ld3,hB.trans (hBW.mono hB.size)⟩ | exact kp8 b21 (by assumption) | exact kp8 b22 (by assumption) | exact kp8 b23 (by assumption) | exact kp8 (xQ2 _) (by assumption) | exact kp8 (xQ2 _) ⟨lc0,lc1,lc2,lc3,ld0,ld1,ld2,ld3,hB.trans (hBW.mono hB.size)⟩ | exact kpT8_3 (by assumption) (by omega) (by omega) (by omega) (by omega) (by omega) (by omega) (by omega) (by omega) (by omega))
    (first
     | (go_at_call 116;go_at_call_of 116 (Value.agg #[Value.bool zs11,Value.slice zp11 zn11 zc11]);go_at_call_of 116 (Value.agg #[Value.bool zs12,Value.slice zp12 zn12 zc12]);refine (wMul_is zs11 zp11 zn11 zc11 zX11 zs12 zp12 zn12 zc12 zX12 P _ ga11 (by omega) kS11 ga12 (by omega) kS12 hp).mono ?_;rintro e w21 ⟨a21,rfl,h1⟩;have b21:=h1.below;replace h1:=h1.back hBW;replace hBW:=hBW.trans (b21.mono hBW.size);replace q00:=xQ0 b21 q00;replace q01:=xQ0 b21 q01;replace q02:=xQ0 b21 q02;replace q10:=xQ0 b21 q10;replace q11:=xQ0 b21 q11;replace q12:=xQ0 b21 q12;replace r00:=xQ0 b21 r00;replace r01:=xQ0 b21 r01;replace r02:=xQ0 b21 r02;replace lc0:=xQ0 b21 lc0;replace lc1:=xQ0 b21 lc1;replace lc2:=xQ0 b21 lc2;replace lc3:=xQ0 b21 lc3;replace ld0:=xQ0 b21 ld0;replace ld1:=xQ0 b21 ld1;replace ld2:=xQ0 b21 ld2;replace ld3:=xQ0 b21 ld3;replace hR0:=xQ3 b21 hR0;replace kS11:=kS11.later b21;replace kT11:=kT11.later b21;replace kS12:=kS12.later b21;replace kT12:=kT12.later b21)
     | (go_at_call 116;go_at_call_of 116 (Value.agg #[Value.bool false,Value.slice zq11 zm11 zd11]);go_at_call_of 116 (Value.agg #[Value.bool false,Value.slice zq12 zm12 zd12]);refine (H4.out _ zq11 zm11 zd11 zq12 zm12 zd12 gc11 gd11 kT11 gc12 gd12 kT12).mono ?_;rintro e w22 ⟨a22,rfl,h2⟩;have b22:=h2.below;replace h2:=h2.back hBW;replace hBW:=hBW.trans (b22.mono hBW.size);replace q00:=xQ0 b22 q00;replace q01:=xQ0 b22 q01;replace q02:=xQ0 b22 q02;replace q10:=xQ0 b22 q10;replace q11:=xQ0 b22 q11;replace q12:=xQ0 b22 q12;replace r00:=xQ0 b22 r00;replace r01:=xQ0 b22 r01;replace r02:=xQ0 b22 r02;replace lc0:=xQ0 b22 lc0;replace lc1:=xQ0 b22 lc1;replace lc2:=xQ0 b22 lc2;replace lc3:=xQ0 b22 lc3;replace ld0:=xQ0 b22 ld0;replace ld1:=xQ0 b22 ld1;replace ld2:=xQ0 b22 ld2;replace ld3:=xQ0 b22 ld3;replace hR0:=xQ3 b22 hR0;replace kS11:=kS11.later b22;replace kT11:=kT11.later b22;replace kS12:=kS12.later b22;replace kT12:=kT12.later b22;replace h1:=h1.later b22)
     | (go_at_call 75;(fail_if_success clear b23);refine (H5.out _ a21 a22 h1.seg h2.seg).mono ?_;rintro e w23 ⟨p23,q23,rfl,hp23,hq23⟩;have b23:=hp23.below;replace hp23:=hp23.back hBW;replace hq23:=hq23.back hBW;replace hBW:=hBW.trans (b23.mono hBW.size);replace q00:=xQ0 b23 q00;replace q01:=xQ0 b23 q01;replace q02:=xQ0 b23 q02;replace q10:=xQ0 b23 q10;replace q11:=xQ0 b23 q11;replace q12:=xQ0 b23 q12;replace r00:=xQ0 b23 r00;replace r01:=xQ0 b23 r01;replace r02:=xQ0 b23 r02;replace lc0:=xQ0 b23 lc0;replace lc1:=xQ0 b23 lc1;replace lc2:=xQ0 b23 lc2;replace lc3:=xQ0 b23 lc3;replace ld0:=xQ0 b23 ld0;replace ld1:=xQ0 b23 ld1;replace ld2:=xQ0 b23 ld2;replace ld3:=xQ0 b23 ld3;replace hR0:=xQ3 b23 hR0;replace kS11:=kS11.later b23;replace kT11:=kT11.later b23;replace kS12:=kS12.later b23;replace kT12:=kT12.later b23;replace h1:=h1.later b23;replace h2:=h2.later b23;have fz:=fun o=>hR0.frozen o))
  | fail
 have fz0:=fun o=>hR0.frozen o
 go_wp2
 all_goals refine bodyPost_ret (v:=Value.agg #[Value.bool (ng Z),Value.slice p23 (ln (am Z)) (ln (am Z)),Value.slice q23 (ln V) (ln V)]) (by rw [xQ5 rfl];go_simp) rfl ?_
 all_goals exact ⟨p23,q23,rfl,hp23.mid hB (((((Mid.refl _ _ _).set _ _ (by omega) (by omega) _).set _ _ (by omega) (by omega) _).set _ _ (by omega) (by omega) _)),hq23.mid hB (((((Mid.refl _ _ _).set _ _ (by omega) (by omega) _).set _ _ (by omega) (by omega) _).set _ _ (by omega) (by omega) _))⟩
end Go.Proofs.YtgfmaejhdbmkoaaGreat
