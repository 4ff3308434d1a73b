import Derived.Test.YtgfmaejhdbmkoaaGreatProg
import Derived.Test.YtgfmaejhdbmkoaaGreatNum
import Derived.WalkKit
import Derived.WalkSpells
import Derived.WalkLawsBesides
import Derived.CellFam
import Derived.BigQuiet
import Derived.Deep.OwnRows
import Derived.Laws.CopyOwn
import Derived.Laws.BitsAllLaws
set_option linter.unusedSimpArgs false
namespace Go.Proofs.YtgfmaejhdbmkoaaGreat
open Go.RowKit
set_option linter.unusedVariables false
def Seg (w:World) (ao:Option Addr) (X n:Nat):Prop :=
 X < BB ^ n∧(0 < n→∃ b off,ao=some ⟨b,off,none⟩∧b < w.heap.size∧∀ i,i < n→w.cell? ⟨b,off+i,none⟩=some (.int .u32 (dg X i:Nat)))
def Row (w:World) (b:Nat):Prop:=∃ cur t,w.heap[b]?=some (.cells cur t (0,0))
theorem Row.frozen {w:World} {b:Nat} (h:Row w b) (o:Nat):w.frozen? ⟨b,o,none⟩=false:=by
 obtain ⟨cur,t,h⟩:=h
 exact frozen_of_row w b o cur t h
theorem Row.lt {w:World} {b:Nat} (h:Row w b):b < w.heap.size:=by
 obtain ⟨cur,t,h⟩:=h
 exact (Array.getElem?_eq_some_iff.1 h).1
theorem Row.below {B:Nat} {w w':World} {b:Nat} (h:Row w b) (hb:Below B w w') (hB:b < B):Row w' b:=by
 obtain ⟨cur,t,h⟩:=h
 exact ⟨cur,t,by rw [hb.block b hB];exact h⟩
theorem Row.drew {w:World} {b:Nat} (h:Row w b):Row w.drew b:=h
theorem Row.drewN {w:World} {b n:Nat} (h:Row w b):Row (w.drewN n) b:=h
theorem Row.setCell {w:World} {b:Nat} (h:Row w b) (a:Addr) (u:Value):Row (w.setCell a u) b:=by
 obtain ⟨cur,t,h⟩:=h
 unfold Row World.setCell
 simp only [Array.getElem?_modify]
 by_cases e:a.block=b
 ·subst e;simp only [if_true,h,Option.map_some];exact ⟨_,_,rfl⟩
 ·simp only [e,if_false];exact ⟨cur,t,h⟩
theorem Seg.below {B:Nat} {w w':World} {ao:Option Addr} {X n:Nat} (h:Seg w ao X n) (hb:Below B w w') (hB:w.heap.size≤B):Seg w' ao X n:=by
 refine ⟨h.1,fun hn=>?_⟩
 obtain ⟨b,off,e,hlt,hc⟩:=h.2 hn
 refine ⟨b,off,e,Nat.lt_of_lt_of_le hlt hb.size,fun i hi=>?_⟩
 rw [hb.cell (p:=⟨b,off+i,none⟩) (show b < B by omega)]
 exact hc i hi
theorem Seg.drewN {w:World} {ao:Option Addr} {X n q:Nat} (h:Seg w ao X n):Seg (w.drewN q) ao X n:=h
theorem Seg.drew {w:World} {ao:Option Addr} {X n:Nat} (h:Seg w ao X n):Seg w.drew ao X n:=h
theorem Seg.nil (w:World) (ao:Option Addr):Seg w ao 0 0:=⟨by simp,fun h=>absurd h (by omega)⟩
theorem Seg.zero {w:World} {ao:Option Addr} {X:Nat} (h:Seg w ao X 0):X=0:=by have:=h.1;simpa using this
theorem Seg.take {w:World} {ao:Option Addr} {X n:Nat} (h:Seg w ao X n) (k:Nat) (hk:k≤n):Seg w ao (X % BB ^ k) k:=by
 refine ⟨Nat.mod_lt _ (BBp k),fun h0=>?_⟩
 obtain ⟨b,off,e,hlt,hc⟩:=h.2 (by omega)
 exact ⟨b,off,e,hlt,fun i hi=>by rw [hc i (by omega),dg_mod _ _ _ hi]⟩
theorem Seg.drop {w:World} {b off X n:Nat} (h:Seg w (some ⟨b,off,none⟩) X n) (k:Nat) (hk:k≤n):Seg w (some ⟨b,off+k,none⟩) (X / BB ^ k) (n - k):=by
 refine ⟨(Nat.div_lt_iff_lt_mul (BBp k)).2 (by rw [←Nat.pow_add,Nat.sub_add_cancel hk];exact h.1),fun h0=>?_⟩
 obtain ⟨b',off',e,hlt,hc⟩:=h.2 (by omega)
 simp only [Option.some.injEq,Addr.mk.injEq,and_true] at e
 obtain ⟨rfl,rfl⟩:=e
 exact ⟨b,off+k,rfl,hlt,fun i hi=>by rw [Nat.add_assoc,hc (k+i) (by omega),dg_div]⟩
theorem Seg.cells {w:World} {b off X n:Nat} (h:Seg w (some ⟨b,off,none⟩) X n):∀ i,i < n→w.cell? ⟨b,off+i,none⟩=some (.int .u32 (dg X i:Nat)):=by
 intro i hi
 obtain ⟨b',off',e,hlt,hc⟩:=h.2 (by omega)
 simp only [Option.some.injEq,Addr.mk.injEq,and_true] at e
 obtain ⟨rfl,rfl⟩:=e
 exact hc i hi
theorem Seg.lt {w:World} {b off X n:Nat} (h:Seg w (some ⟨b,off,none⟩) X n) (hn:0 < n):b < w.heap.size:=by
 obtain ⟨b',off',e,hlt,hc⟩:=h.2 hn
 simp only [Option.some.injEq,Addr.mk.injEq,and_true] at e
 obtain ⟨rfl,rfl⟩:=e
 exact hlt
theorem Seg.mk' {w:World} {b off X n:Nat} (hX:X < BB ^ n) (hb:b < w.heap.size) (h:∀ i,i < n→w.cell? ⟨b,off+i,none⟩=some (.int .u32 (dg X i:Nat))):Seg w (some ⟨b,off,none⟩) X n :=
 ⟨hX,fun _=>⟨b,off,rfl,hb,h⟩⟩
def Dr (w w':World):Prop:=∃ q,w'=w.drewN q
theorem Dr.refl (w:World):Dr w w:=⟨0,rfl⟩
theorem Dr.drewN {w w':World} (h:Dr w w') (n:Nat):Dr w (w'.drewN n):=by obtain ⟨q,rfl⟩:=h;exact ⟨q+n,by simp [World.drewN,Nat.add_assoc]⟩
theorem Dr.drew {w w':World} (h:Dr w w'):Dr w w'.drew:=by obtain ⟨q,rfl⟩:=h;exact ⟨q+1,by simp [World.drewN,World.drew,Nat.add_assoc]⟩
theorem Dr.trans {w w1 w2:World} (h:Dr w w1) (k:Dr w1 w2):Dr w w2:=by obtain ⟨q,rfl⟩:=k;exact h.drewN q
theorem Dr.below {w w':World} (h:Dr w w') (B:Nat):Below B w w':=by obtain ⟨q,rfl⟩:=h;exact ⟨rfl,rfl,rfl,Nat.le_refl _,fun _ _=>rfl⟩
theorem Seg.dr {w w':World} {ao:Option Addr} {X n:Nat} (h:Seg w ao X n) (k:Dr w w'):Seg w' ao X n:=by obtain ⟨q,rfl⟩:=k;exact h
theorem Row.dr {w w':World} {b:Nat} (h:Row w b) (k:Dr w w'):Row w' b:=by obtain ⟨q,rfl⟩:=k;exact h
structure Wr (b lo hi:Nat) (w w':World):Prop where
 os:w'.os=w.os
 tape:w'.tape=w.tape
 output:w'.output=w.output
 size:w.heap.size≤w'.heap.size
 other:∀ k,k < w.heap.size→k≠b→w'.heap[k]?=w.heap[k]?
 cell:∀ o,(o < lo∨hi≤o)→w'.cell? ⟨b,o,none⟩=w.cell? ⟨b,o,none⟩
 row:Row w b→Row w' b
theorem Wr.refl (b lo hi:Nat) (w:World):Wr b lo hi w w:=⟨rfl,rfl,rfl,Nat.le_refl _,fun _ _ _=>rfl,fun _ _=>rfl,id⟩
theorem Wr.trans {b lo hi:Nat} {w w1 w2:World} (h:Wr b lo hi w w1) (k:Wr b lo hi w1 w2):Wr b lo hi w w2 :=
 ⟨k.os.trans h.os,k.tape.trans h.tape,k.output.trans h.output,Nat.le_trans h.size k.size,fun i hi hn=>(k.other i (Nat.lt_of_lt_of_le hi h.size) hn).trans (h.other i hi hn),
  fun o ho=>(k.cell o ho).trans (h.cell o ho),fun r=>k.row (h.row r)⟩
theorem Wr.mono {b lo hi lo' hi':Nat} {w w1:World} (h:Wr b lo hi w w1) (h1:lo'≤lo) (h2:hi≤hi'):Wr b lo' hi' w w1 :=
 ⟨h.os,h.tape,h.output,h.size,h.other,fun o ho=>h.cell o (by omega),h.row⟩
theorem Wr.drew {b lo hi:Nat} {w w1:World} (h:Wr b lo hi w w1):Wr b lo hi w w1.drew:=⟨h.os,h.tape,h.output,h.size,h.other,h.cell,h.row⟩
theorem Wr.drewN {b lo hi n:Nat} {w w1:World} (h:Wr b lo hi w w1):Wr b lo hi w (w1.drewN n):=⟨h.os,h.tape,h.output,h.size,h.other,h.cell,h.row⟩
theorem Wr.setCell {b lo hi:Nat} {w w1:World} (h:Wr b lo hi w w1) (o:Nat) (h1:lo≤o) (h2:o < hi) (u:Value):Wr b lo hi w (w1.setCell ⟨b,o,none⟩ u):=by
 refine h.trans ⟨rfl,rfl,rfl,by simp [World.setCell],fun k _ hk=>Below.heap_setCell _ _ _ _ hk,fun o' ho=>?_,fun r=>r.setCell _ _⟩
 exact World.cell?_setCell_other _ _ _ _ (fun e=>by simp only [Addr.mk.injEq,true_and,and_true] at e;omega)
theorem Wr.below {b lo hi B:Nat} {w w1:World} (h:Wr b lo hi w w1) (hB:B≤b) (hs:B≤w.heap.size):Below B w w1 :=
 ⟨h.os,h.tape,h.output,h.size,fun k hk=>h.other k (by omega) (by omega)⟩
theorem Wr.of_below {b lo hi:Nat} {w w1:World} (h:Below w.heap.size w w1) (hb:b < w.heap.size):Wr b lo hi w w1 :=
 ⟨h.os,h.tape,h.output,h.size,fun k hk _=>h.block k hk,fun o _=>h.cell (p:=⟨b,o,none⟩) hb,fun r=>r.below h hb⟩
theorem Wr.of_dr {b lo hi:Nat} {w w1:World} (h:Dr w w1):Wr b lo hi w w1:=by obtain ⟨q,rfl⟩:=h;exact (Wr.refl _ _ _ _).drewN
theorem Seg.wr {w w':World} {ao:Option Addr} {X n b lo hi:Nat} (h:Seg w ao X n) (k:Wr b lo hi w w') (hne:∀ o,ao≠some ⟨b,o,none⟩):Seg w' ao X n:=by
 refine ⟨h.1,fun hn=>?_⟩
 obtain ⟨b',off,rfl,hlt,hc⟩:=h.2 hn
 refine ⟨b',off,rfl,Nat.lt_of_lt_of_le hlt k.size,fun i hi=>?_⟩
 rw [World.cell?_of_block (w:=w) (a:=⟨b',off+i,none⟩) (k.other b' hlt (fun e=>hne off (by rw [e])))]
 exact hc i hi
theorem Row.of_wr {w w':World} {b b' lo hi:Nat} (h:Row w b) (k:Wr b' lo hi w w') (hne:b≠b'):Row w' b:=by
 obtain ⟨cur,t,hh⟩:=h
 exact ⟨cur,t,by rw [k.other b (Array.getElem?_eq_some_iff.1 hh).1 hne];exact hh⟩
theorem Seg.congr {w:World} {ao:Option Addr} {X Z n:Nat} (h:Seg w ao X n) (hZ:Z < BB ^ n) (he:∀ i,i < n→dg Z i=dg X i):Seg w ao Z n:=by
 refine ⟨hZ,fun hn=>?_⟩
 obtain ⟨b,off,e,hlt,hc⟩:=h.2 hn
 exact ⟨b,off,e,hlt,fun i hi=>by rw [hc i hi,he i hi]⟩
theorem Seg.set {w:World} {b off X Z k n:Nat} (h:Seg w (some ⟨b,off,none⟩) (mix Z X k) n) (hk:k < n) (hX:X < BB ^ n) {v:Int} (hv:v=(dg Z k:Nat)) :
  Seg (w.setCell ⟨b,off+k,none⟩ (.int .u32 v)) (some ⟨b,off,none⟩) (mix Z X (k+1)) n:=by
 refine Seg.mk' (mix_lt hX (by omega)) (by have:=h.lt (by omega);simpa using this) fun i hi=>?_
 by_cases e:i=k
 ·subst e
  rw [World.cell?_setCell_same (u:=.int .u32 (dg (mix Z X i) i:Nat)) _ _ _ (h.cells i hi),hv,dg_mix_lo _ _ (by omega)]
 ·rw [World.cell?_setCell_other _ _ _ _ (fun e'=>by simp only [Addr.mk.injEq,true_and,and_true] at e';omega),h.cells i hi]
  by_cases e2:i < k
  ·rw [dg_mix_lo _ _ e2,dg_mix_lo _ _ (by omega)]
  ·rw [dg_mix_hi _ _ (by omega),dg_mix_hi _ _ (by omega)]
theorem Seg.rest {w:World} {b off X Z k n:Nat} (h:Seg w (some ⟨b,off,none⟩) (mix Z X k) n):∀ i,k≤i→i < n→w.cell? ⟨b,off+i,none⟩=some (.int .u32 (dg X i:Nat)) :=
 fun i hk hi=>by rw [h.cells i hi,dg_mix_hi _ _ hk]
structure New (w w':World) (ao:Option Addr) (Z n:Nat):Prop where
 seg:Seg w' ao Z n
 below:Below w.heap.size w w'
 fresh:0 < n→∃ b off,ao=some ⟨b,off,none⟩∧w.heap.size≤b∧Row w' b
theorem New.drew {w w':World} {ao:Option Addr} {Z n:Nat} (h:New w w' ao Z n):New w w'.drew ao Z n:=⟨h.seg,h.below.drew,h.fresh⟩
theorem below_drewN {B:Nat} {w w':World} {q:Nat} (h:Below B w w'):Below B w (w'.drewN q):=⟨h.os,h.tape,h.output,h.size,h.block⟩
theorem New.drewN {w w':World} {ao:Option Addr} {Z n q:Nat} (h:New w w' ao Z n):New w (w'.drewN q) ao Z n:=⟨h.seg,below_drewN h.below,h.fresh⟩
theorem New.back {w w1 w':World} {ao:Option Addr} {Z n:Nat} (h:New w1 w' ao Z n) (hb:Below w.heap.size w w1):New w w' ao Z n :=
 ⟨h.seg,hb.trans (h.below.mono hb.size),fun hn=>by obtain ⟨b,off,e,hlt,hr⟩:=h.fresh hn;exact ⟨b,off,e,Nat.le_trans hb.size hlt,hr⟩⟩
theorem New.later {w w1 w':World} {ao:Option Addr} {Z n:Nat} (h:New w w1 ao Z n) (hb:Below w1.heap.size w1 w'):New w w' ao Z n :=
 ⟨h.seg.below hb (Nat.le_refl _),h.below.trans (hb.mono h.below.size),fun hn=>by obtain ⟨b,off,e,hlt,hr⟩:=h.fresh hn;exact ⟨b,off,e,hlt,hr.below hb hr.lt⟩⟩
theorem New.nil {w w':World} (ao:Option Addr) (hb:Below w.heap.size w w'):New w w' ao 0 0:=⟨Seg.nil _ _,hb,fun h=>absurd h (by omega)⟩
theorem xZ6:Tryz.prog.underlying 51=some (.slice 89):=Tryz.underlying51
theorem A_info_u32:(Tryz.prog.info? 89).map (fun i=>(i.zero,i.size,i.bytes))=some (some (.int .u32 0),1,4):=by kernel_rfl
theorem cell_made (n i:Nat) (h:i < n) (z:Value):(madeCells #[z] n)[i]?=some z:=by
 simp [madeCells,h,Nat.mod_one]
theorem made_new (w:World) (n t:Nat):New w (w.alloc (.cells (madeCells #[.int .u32 0] n) t)) (some ⟨w.heap.size,0,none⟩) 0 n∧Row (w.alloc (.cells (madeCells #[.int .u32 0] n) t)) w.heap.size:=by
 have hh:(w.alloc (.cells (madeCells #[.int .u32 0] n) t)).heap[w.heap.size]?=some (.cells (madeCells #[.int .u32 0] n) t):=by
  show (w.heap.push _)[w.heap.size]?=_
  rw [Array.getElem?_push,if_pos rfl]
 have hr:Row (w.alloc (.cells (madeCells #[.int .u32 0] n) t)) w.heap.size:=⟨madeCells #[.int .u32 0] n,t,hh⟩
 refine ⟨⟨Seg.mk' (BBp n) hr.lt fun i hi=>?_,(Below.refl _ _).alloc (Nat.le_refl _) _,fun _=>⟨_,_,rfl,Nat.le_refl _,hr⟩⟩,hr⟩
 rw [dg_zero,Nat.zero_add]
 simp only [World.cell?,hh,Option.isSome_none,Bool.false_eq_true,if_false]
 exact cell_made n i hi _
theorem mk_law {ops:Array Oper} {rest:List Oper} {o:Oper} {a:Act} {Q:Exit→Act→World→Prop} (w:World)
  (hg:o.guard=none) (l c:Operand) (hop:o.op=Op.makeSlice 51 l c) (L:Int) (n:Nat) (hl:a.eval l=.int .i64 L) (hc:a.eval c=.int .i64 L) (hL:L=(n:Int)) (hn:n≤70368744177664)
  (hK:∀ w',New w w' (some ⟨w.heap.size,0,none⟩) 0 n→Row w' w.heap.size→wpList Tryz.prog ops Q rest (a.put o.dst (.slice (some ⟨w.heap.size,0,none⟩) n n)) w') :
  wpList Tryz.prog ops Q (o :: rest) a w:=by
 refine wpList_plain hg fun K hK'=>?_
 have hrun:=run_make_row' (P:=Tryz.prog) 51 89 (.int .u32 0) 4 xZ6 A_info_u32 rfl .i64 .i64 n (by omega) (by omega) w
 subst hL
 unfold Oper.wp
 simp [execOp,hop,hl,hc,hrun,Result.andThen]
 exact hK' _ _ (hK _ (made_new w n _).1 (made_new w n _).2)
theorem A_size_u32:(Tryz.prog.info? 89).map (·.size)=some 1:=by kernel_rfl
theorem setRow_seg {w:World} {g off n m t:Nat} {cur:Array Value} (hg:w.heap[g]?=some (.cells cur t (0,0))) {Y D:Nat} (hY:Y < BB ^ m) (hmn:m≤n) (hn:0 < n) (hD:Seg w (some ⟨g,off,none⟩) D n) (cs:List Value) (hcs:cs=(List.range m).map (fun i=>Value.int .u32 (dg Y i:Nat))) :
  Seg (w.setRow g (cur.toList.take off ++ (cs ++ cur.toList.drop (off+cs.length))).toArray) (some ⟨g,off,none⟩) (mix Y D m) n ∧
  Wr g off (off+n) w (w.setRow g (cur.toList.take off ++ (cs ++ cur.toList.drop (off+cs.length))).toArray)∧off+n≤cur.size:=by
 have hl:cs.length=m:=by rw [hcs];simp
 have hcell:=hD.cells
 have hget:∀ i,i < n→cur[off+i]?=some (.int .u32 (dg D i:Nat)):=by
  intro i hi
  have:=hcell i hi
  simpa [World.cell?,hg] using this
 have hsz:off+n≤cur.size:=by
  have:=hget (n - 1) (by omega)
  have:=(Array.getElem?_eq_some_iff.1 this).1
  omega
 have hrow:=setRow_heap w g cur (cur.toList.take off ++ (cs ++ cur.toList.drop (off+cs.length))).toArray t (0,0) hg
 have hnew:∀ j,(cur.toList.take off ++ (cs ++ cur.toList.drop (off+cs.length)))[j]?=if off≤j∧j < off+m then some (.int .u32 (dg Y (j - off):Nat)) else cur[j]?:=by
  intro j
  by_cases h1:j < off
  ·rw [List.getElem?_append_left (by simp;omega),List.getElem?_take_of_lt h1,if_neg (by omega)];simp
  ·rw [List.getElem?_append_right (by simp;omega)]
   have e1:(List.take off cur.toList).length=off:=by simp;omega
   rw [e1]
   by_cases h2:j - off < m
   ·rw [List.getElem?_append_left (by omega),if_pos (by omega),hcs]
    simp [h2]
   ·rw [List.getElem?_append_right (by omega),if_neg (by omega),hl,List.getElem?_drop]
    rw [show off+m+(j - off - m)=j by omega]
    simp
 refine ⟨Seg.mk' (mix_lt hD.1 hmn) ?_ ?_,⟨rfl,rfl,rfl,by simp,fun k _ hk=>setRow_other w g k _ hk,?_,fun _=>⟨_,_,hrow⟩⟩,hsz⟩
 ·have:=(Array.getElem?_eq_some_iff.1 hg).1
  simpa using this
 ·intro i hi
  simp only [World.cell?,hrow,Option.isSome_none,Bool.false_eq_true,if_false,List.getElem?_toArray]
  rw [hnew]
  by_cases h:i < m
  ·rw [if_pos (by omega),Nat.add_sub_cancel_left,dg_mix_lo _ _ h]
  ·rw [if_neg (by omega),hget i hi,dg_mix_hi _ _ (by omega)]
 ·intro o ho
  simp only [World.cell?,hrow,hg,Option.isSome_none,Bool.false_eq_true,if_false,List.getElem?_toArray]
  rw [hnew,if_neg (by omega)]
theorem at_copy {P:Program} {ops:Array Oper} {rest:List Oper} {a:Act} {Q:Exit→Act→World→Prop} {w:World} {dst:Option Nat} {type:TypeId} {pos:String} {aft:Array Edge} {d s:Operand} {ts:Array TypeId}
  (h:wpList P ops Q ({ dst:=dst,op:=.call { callee:=.builtin .copy,args:=#[d,s],argTypes:=ts },type:=type,pos:=pos,after:=aft,guard:=none } :: rest) a w) :
  wpList P ops Q ({ dst:=dst,op:=.call { callee:=.builtin .copy,args:=#[d,s],argTypes:=ts },type:=type,pos:=pos,after:=aft,guard:=none } :: rest) a w:=h
theorem copy_law {w:World} {ops:Array Oper} {rest:List Oper} {o:Oper} {a:Act} {Q:Exit→Act→World→Prop} (hgd:o.guard=none) (d s:Operand)
  (ho:o.op=.call { callee:=.builtin .copy,args:=#[d,s],argTypes:=#[51,51] })
  (g off n dCap:Nat) (ao:Option Addr) (m sCap:Nat) (hd:a.eval d=.slice (some ⟨g,off,none⟩) n dCap) (hs:a.eval s=.slice ao m sCap)
  (Y D:Nat) (hrow:Row w g) (hD:Seg w (some ⟨g,off,none⟩) D n) (hY:Seg w ao Y m) (hmn:m≤n)
  (h:∀ w',Wr g off (off+n) w w'→Seg w' (some ⟨g,off,none⟩) (mix Y D m) n→wpList Tryz.prog ops Q rest (a.put o.dst (.int .i64 m)) w'):wpList Tryz.prog ops Q (o :: rest) a w:=by
 by_cases h0:m=0
 ·subst h0
  refine wpList_copy_nothing hgd d s _ _ ho 89 xZ6 A_size_u32 _ ao n dCap 0 sCap hd hs (by simp) ?_
  have:=h w (Wr.refl _ _ _ _) (by rw [mix_zero];exact hD)
  simpa [goInt] using this
 ·obtain ⟨b2,off2,rfl,hlt2,hc2⟩:=hY.2 (by omega)
  obtain ⟨cur,t,hg⟩:=hrow
  have hS:=setRow_seg hg hY.1 hmn (by omega) hD _ rfl
  refine wpList_copy_own hgd d s _ _ ho 89 xZ6 A_size_u32 g off n dCap ⟨b2,off2,none⟩ m sCap hd hs cur t hg ((List.range m).map (fun i=>Value.int .u32 (dg Y i:Nat)))
   (by simp [Nat.min_eq_left hmn]) ?_ (by simp;omega) (by intro v hv;simp at hv;obtain ⟨i,_,rfl⟩:=hv;rfl) ?_
  ·intro j v hj
   simp only [List.getElem?_map,Option.map_eq_some_iff] at hj
   obtain ⟨x,hx,rfl⟩:=hj
   rw [List.getElem?_eq_some_iff] at hx
   obtain ⟨hx1,hx2⟩:=hx
   simp at hx1 hx2
   subst hx2
   have ea:(Addr.mk b2 off2 none).add j=⟨b2,off2+j,none⟩:=by unfold Addr.add;split <;> simp_all
   rw [ea]
   exact hc2 j hx1
  ·have:=h _ hS.2.1 hS.1
   simpa [goInt] using this
set_option maxRecDepth 30000 in
theorem sl_lh (b off n cap lo d:Nat) (L H:Int) (hL:L=(lo:Int)) (hH:H=(lo:Int)+(d:Int)) (h2:lo+d≤cap) (h3:lo < cap) (w:World) :
  (Instr.slice 51 (.slice (some ⟨b,off,none⟩) n cap) (some (.int .i64 L)) (some (.int .i64 H)) none).run Tryz.prog w=.ok (.slice (some ⟨b,off+lo,none⟩) d (cap - lo)) w:=by
 subst hL hH
 rw [run_slice_lh (P:=Tryz.prog) w 51 _ n cap xZ6 .i64 .i64 _ _ (by omega) (by omega) (by omega)]
 have es:(sizeOf (Tryz.prog.elem 51)).run Tryz.prog w=.ok 1 w:=by kernel_rfl
 rw [es]
 simp only [Result.andThen,sliced,Int.toNat_natCast,Nat.mul_one]
 rw [if_neg (by omega),show ((lo:Int)+(d:Int)).toNat=lo+d by omega,Nat.add_sub_cancel_left]
 simp only [Option.map_some]
 have ea:(Addr.mk b off none).add lo=⟨b,off+lo,none⟩:=by unfold Addr.add;split <;> simp_all
 rw [ea]
set_option maxRecDepth 30000 in
theorem sl_l (b off n cap lo:Nat) (L:Int) (hL:L=(lo:Int)) (h2:lo≤n) (h3:lo < cap) (w:World) :
  (Instr.slice 51 (.slice (some ⟨b,off,none⟩) n cap) (some (.int .i64 L)) none none).run Tryz.prog w=.ok (.slice (some ⟨b,off+lo,none⟩) (n - lo) (cap - lo)) w:=by
 subst hL
 rw [run_slice_l (P:=Tryz.prog) w 51 _ n cap xZ6 .i64 _ (by omega) (by omega)]
 have es:(sizeOf (Tryz.prog.elem 51)).run Tryz.prog w=.ok 1 w:=by kernel_rfl
 rw [es]
 simp only [Result.andThen,sliced,Int.toNat_natCast,Nat.mul_one]
 rw [if_neg (by omega)]
 simp only [Option.map_some]
 have ea:(Addr.mk b off none).add lo=⟨b,off+lo,none⟩:=by unfold Addr.add;split <;> simp_all
 rw [ea]
set_option maxRecDepth 30000 in
theorem sl_h (ao:Option Addr) (n cap hi:Nat) (H:Int) (hH:H=(hi:Int)) (h2:hi≤cap) (w:World) :
  (Instr.slice 51 (.slice ao n cap) none (some (.int .i64 H)) none).run Tryz.prog w=.ok (.slice ao hi cap) w:=by
 subst hH
 rw [run_slice_h (P:=Tryz.prog) w 51 _ n cap xZ6 .i64 _ (by omega) (by omega)]
 have es:(sizeOf (Tryz.prog.elem 51)).run Tryz.prog w=.ok 1 w:=by kernel_rfl
 rw [es]
 simp only [Result.andThen,sliced,Int.toNat_natCast,Nat.zero_mul,Nat.sub_zero]
 have ea:ao.map (fun a=>a.add 0)=ao:=by cases ao <;> simp [Addr.add]
 rw [ea];simp
theorem xQ5 {fn:Func} {p:Tmp} {ty:TypeId} (h:fn.results=#[.cell p ty]) (tmps:Array Value) (P:Program) (w:World) :
  (results fn tmps).run P w=((asAddr (tmps.getD p undef)).run P w).andThen fun a w1=>(loadVar ty a).run P w1:=by
 simp only [results,h]
 simp [Sem.run_bind]
theorem xQ9 (w:World) (cs:Array Value) (t:TypeId):Row (w.alloc (.cells cs t)) w.heap.size:=by
 refine ⟨cs,t,?_⟩
 show (w.heap.push _)[w.heap.size]?=_
 rw [Array.getElem?_push,if_pos rfl]
theorem Row.alloc {w:World} {b:Nat} (h:Row w b) (o:Obj):Row (w.alloc o) b:=by
 have hl:=h.lt
 obtain ⟨cur,t,h⟩:=h
 refine ⟨cur,t,?_⟩
 show (w.heap.push _)[b]?=_
 rw [Array.getElem?_push,if_neg (by omega)]
 exact h
theorem size_alloc (w:World) (o:Obj):(w.alloc o).heap.size=w.heap.size+1:=by
 show (w.heap.push _).size=_
 rw [Array.size_push]
end Go.Proofs.YtgfmaejhdbmkoaaGreat
