import Derived.Test.YtfppjaoddicgpaaGreatDoorWI1
import Derived.Test.YtfppjaoddicgpaaGreatDoorW13
import Derived.Test.YtfppjaoddicgpaaGreatDoorW8
import Derived.Test.YtfppjaoddicgpaaGreatDoorWBk
import Derived.ArgAppend
import Derived.OwnWalk
import Derived.Laws.OwnMore
import Derived.Deep.AppendLies
set_option linter.unusedSimpArgs false
namespace Go.Proofs.YtfppjaoddicgpaaGreatDoor
open Go.RowKit
set_option linter.unusedVariables false
def mrk (i j:Nat):Int:=IntKind.u32.wrap (2768240640+IntKind.u32.wrap ((i:Int)*4096+(j:Int)))
def Ap (a:Option Addr) (n:Nat) (b:Option Addr) (m:Nat):Prop:=0 < n→0 < m→∀ x i y j,a=some ⟨x,i,none⟩→b=some ⟨y,j,none⟩→x≠y
theorem ap_two {w w':World} {a b:Option Addr} {X Z n m:Nat} (h:Seg w a X n) (k:New w w' b Z m):Ap a n b m:=fun hn hm x i y j e1 e2=>by
 obtain ⟨c,o,e3,h3,_⟩:=h.2 hn
 obtain ⟨g,o2,e4,h4,_⟩:=k.fresh hm
 rw [e1] at e3
 rw [e2] at e4
 obtain ⟨rfl,_⟩:x=c∧i=o:=by simpa using e3
 obtain ⟨rfl,_⟩:y=g∧j=o2:=by simpa using e4
 omega
structure Ls (w:World) (lo bl ol L:Nat) (A:Nat→Option Addr) (n:Nat→Nat) (f:Nat→Nat→Int):Prop where
 row:∀ i,i < L→w.cell? ⟨bl,ol+i,none⟩=some (.slice (A i) (n i) (n i))
 lst:∀ i,i < L→0 < n i→∃ b off,A i=some ⟨b,off,none⟩∧lo≤b∧b≠bl∧Row w b∧∀ j,j < n i→w.cell? ⟨b,off+j,none⟩=some (.int .u32 (f i j))
 apart:∀ i k,i < L→k < L→i≠k→0 < n i→0 < n k→∀ b off c off',A i=some ⟨b,off,none⟩→A k=some ⟨c,off',none⟩→b≠c
theorem Ls.later {w w':World} {lo bl ol L:Nat} {A:Nat→Option Addr} {n:Nat→Nat} {f:Nat→Nat→Int} (h:Ls w lo bl ol L A n f) (hb:Below w.heap.size w w'):Ls w' lo bl ol L A n f :=
 ⟨fun i hi=>below_cell hb (h.row i hi),fun i hi hn=>by
  obtain ⟨b,off,e,h1,h2,h3,h4⟩:=h.lst i hi hn
  exact ⟨b,off,e,h1,h2,below_row hb h3,fun j hj=>below_cell hb (h4 j hj)⟩,h.apart⟩
def upd (f:Nat→Nat→Int) (i k:Nat) (v:Int):Nat→Nat→Int:=fun i' j=>if i'=i∧j=k then v else f i' j
theorem Ls.set {w:World} {lo bl ol L i k b off:Nat} {A:Nat→Option Addr} {n:Nat→Nat} {f:Nat→Nat→Int} (h:Ls w lo bl ol L A n f) (hi:i < L) (hk:k < n i) (e:A i=some ⟨b,off,none⟩) (v:Int) :
  Ls (w.setCell ⟨b,off+k,none⟩ (.int .u32 v)) lo bl ol L A n (upd f i k v)∧lo≤b:=by
 obtain ⟨b0,off0,e0,l1,l2,l3,l4⟩:=h.lst i hi (by omega)
 rw [e] at e0
 obtain ⟨rfl,rfl⟩:b=b0∧off=off0:=by simpa using e0
 refine ⟨⟨fun i' hi'=>?_,fun i' hi' hn'=>?_,h.apart⟩,l1⟩
 ·rw [World.cell?_setCell_other _ _ _ _ (fun e'=>l2 (by have:=congrArg Addr.block e';simpa using this))]
  exact h.row i' hi'
 ·obtain ⟨c,off',e',m1,m2,m3,m4⟩:=h.lst i' hi' hn'
  refine ⟨c,off',e',m1,m2,m3.setCell _ _,fun j hj=>?_⟩
  by_cases hii:i'=i
  ·subst hii
   rw [e] at e'
   obtain ⟨rfl,rfl⟩:b=c∧off=off':=by simpa using e'
   by_cases hjk:j=k
   ·subst hjk
    rw [World.cell?_setCell_same (u:=.int .u32 (f i' j)) _ _ _ (m4 j hj)]
    unfold upd
    rw [if_pos ⟨rfl,rfl⟩]
   ·rw [World.cell?_setCell_other _ _ _ _ (fun e'=>hjk (by have:=congrArg Addr.off e';simp at this;omega)),m4 j hj]
    unfold upd
    rw [if_neg (fun c=>hjk c.2)]
  ·have hne:=h.apart i i' hi hi' (fun c=>hii c.symm) (by omega) hn' b off c off' e e'
   rw [World.cell?_setCell_other _ _ _ _ (fun e'=>hne (by have:=congrArg Addr.block e';simpa using this)),m4 j hj]
   unfold upd
   rw [if_neg (fun c=>hii c.1)]
theorem own_belowO {w w':World} {base:Nat} {e:TypeId} {size:Nat} {v:Value} {n:Nat} {xs:List Value} (h:w.ownsRow base e size v n xs) (hb:Below w.heap.size w w'):w'.ownsRow base e size v n xs:=by
 refine ⟨h.1,?_⟩
 rcases h.2 with h0 | ⟨g,cap,cur,hv,hg,hc,rest⟩
 ·exact Or.inl h0
 ·refine Or.inr ⟨g,cap,cur,hv,hg,?_,rest⟩
  rw [hb.block g (Array.getElem?_eq_some_iff.1 hc).1]
  exact hc
theorem below_grownO {base:Nat} {w w':World} {row:Option Nat} (hb:base≤w.heap.size) (hrow:∀ k,row=some k→base≤k) (hg:w.grownBy w' row):Below base w w' :=
 ⟨hg.os,hg.tape,hg.output,hg.size,fun k hk=>hg.block k (by omega) (fun e=>by have:=hrow k e.symm;omega)⟩
theorem own_monoO {w:World} {base base':Nat} {e:TypeId} {size:Nat} {v:Value} {n:Nat} {xs:List Value} (h:w.ownsRow base e size v n xs) (hb:base'≤base):w.ownsRow base' e size v n xs:=by
 refine ⟨h.1,?_⟩
 rcases h.2 with h0 | ⟨g,cap,cur,hv,hg,rest⟩
 ·exact Or.inl h0
 ·exact Or.inr ⟨g,cap,cur,hv,Nat.le_trans hb hg,rest⟩
def mks (i m:Nat):List Value:=(List.range m).map fun j=>.int .u32 (mrk i j)
theorem mks_len (i m:Nat):(mks i m).length=m:=by simp [mks]
theorem mks_succ (i m:Nat):mks i (m+1)=mks i m ++ [.int .u32 (mrk i m)]:=by unfold mks;rw [List.range_succ,List.map_append];rfl
theorem mks_at {i m j:Nat} (h:j < m):(mks i m)[j]?=some (.int .u32 (mrk i j)):=by unfold mks;rw [List.getElem?_map,List.getElem?_range h];rfl
theorem Ls.congr {w:World} {lo bl ol L:Nat} {A:Nat→Option Addr} {n:Nat→Nat} {f g:Nat→Nat→Int} (h:Ls w lo bl ol L A n f) (e:∀ i,i < L→∀ j,j < n i→f i j=g i j):Ls w lo bl ol L A n g :=
 ⟨h.row,fun i hi hn=>by
  obtain ⟨b,off,e1,l1,l2,l3,l4⟩:=h.lst i hi hn
  exact ⟨b,off,e1,l1,l2,l3,fun j hj=>by rw [l4 j hj,e i hi j hj]⟩,h.apart⟩
theorem Ls.olds {w:World} {lo bl ol L i:Nat} {A:Nat→Option Addr} {n:Nat→Nat} (h:Ls w lo bl ol L A n mrk) (hi:i < L):(A i=none→n i=0∧n i=0)∧∀ b,A i=some b→∀ j u,(mks i (n i))[j]?=some u→w.cell? (b.add j)=some u:=by
 refine ⟨fun e=>?_,fun b e j u hj=>?_⟩
 ·by_cases h0:n i=0
  ·exact ⟨h0,h0⟩
  ·obtain ⟨b,off,e1,_⟩:=h.lst i hi (by omega)
   rw [e] at e1;cases e1
 ·have hl:j < n i:=by have:=(List.getElem?_eq_some_iff.1 hj).1;rwa [mks_len] at this
  obtain ⟨c,off,e1,l1,l2,l3,l4⟩:=h.lst i hi (by omega)
  rw [e] at e1
  obtain rfl:b=⟨c,off,none⟩:=by simpa using e1
  rw [mks_at hl] at hj
  rw [Addr.add_lit,l4 j hl,←hj]
def GI (wr:World) (base TU:Nat) (n:Nat→Nat) (vg:Value) (i:Nat) (cs:List Value):Prop :=
 ∀ k,k < i→∃ g c,cs[k]?=some (.slice (some ⟨g,0,none⟩) (n k+16) c)∧wr.ownsRow base TU 1 (.slice (some ⟨g,0,none⟩) (n k+16) c) (n k+16) (mks k (n k+16))∧vg.ownBlock≠some g
theorem GI.grown {wr wq:World} {base TU i:Nat} {n:Nat→Nat} {vg:Value} {cs:List Value} (h:GI wr base TU n vg i cs) (hg:wr.grownBy wq vg.ownBlock):∀ k,k < i→∃ g c,cs[k]?=some (.slice (some ⟨g,0,none⟩) (n k+16) c)∧wq.ownsRow base TU 1 (.slice (some ⟨g,0,none⟩) (n k+16) c) (n k+16) (mks k (n k+16))∧vg.ownBlock≠some g∧g < wr.heap.size:=fun k hk=>by
 obtain ⟨g,c,h1,h2,h3⟩:=h k hk
 exact ⟨g,c,h1,h2.kept hg (.inr (fun e=>h3 e.symm)),h3,(h2.lt g rfl).2⟩
theorem GI.later {wr wq:World} {base TU i:Nat} {n:Nat→Nat} {vg:Value} {cs:List Value} (h:GI wr base TU n vg i cs) (hb:Below wr.heap.size wr wq):GI wq base TU n vg i cs:=fun k hk=>by
 obtain ⟨g,c,h1,h2,h3⟩:=h k hk
 exact ⟨g,c,h1,own_belowO h2 hb,h3⟩
theorem GI.push {wI wr wB w9:World} {base TU TS i g7 c7 gb m cap:Nat} {n:Nat→Nat} {vg:Value} {cs:List Value} (hG:GI wI base TU n vg i cs) (hO:wI.ownsRow base TS 1 vg i cs) (hB7:Below wI.heap.size wI wr) (b3:Below wr.heap.size wr wB)
  (hO7:wr.ownsRow wI.heap.size TU 1 (.slice (some ⟨g7,0,none⟩) (n i+16) c7) (n i+16) (mks i (n i+16))) (hb:base≤wI.heap.size) (hgr:wB.grownBy w9 vg.ownBlock) (hat:vg.ownBlock=some gb∨gb=wB.heap.size) :
  GI w9 base TU n (.slice (some ⟨gb,0,none⟩) m cap) (i+1) (cs ++ [.slice (some ⟨g7,0,none⟩) (n i+16) c7]):=by
 have hl:cs.length=i:=by have:=hO.1;rw [Nat.mul_one] at this;exact this
 have hg7:=hO7.lt g7 rfl
 have s3:=b3.size
 intro k hk
 by_cases e:k=i
 ·subst e
  have hne:vg.ownBlock≠some g7:=fun c=>by have:=(hO.lt g7 c).2;omega
  refine ⟨g7,c7,by rw [List.getElem?_append_right (by omega),hl,Nat.sub_self];rfl,(own_monoO (own_belowO hO7 b3) hb).kept hgr (.inr (fun c=>hne c.symm)),fun c=>?_⟩
  have c':gb=g7:=by simpa [Value.ownBlock] using c
  rcases hat with h | h
  ·exact hne (by rw [h,c'])
  ·omega
 ·obtain ⟨g,c,h1,h2,h3,h4⟩:=((hG.later hB7).later b3).grown hgr k (by omega)
  refine ⟨g,c,by rw [List.getElem?_append_left (by omega)];exact h1,h2,fun c=>?_⟩
  have c':gb=g:=by simpa [Value.ownBlock] using c
  rcases hat with h | h
  ·exact h3 (by rw [h,c'])
  ·omega
theorem mark_is (i j:Nat) (w:World) (hi:i≤1048576) (hj:j≤1099511627776) :
  Calls Tryz.prog 35 #[.int .i64 (i:Nat),.int .i64 (j:Nat)] w fun e w'=>e=.returned (.int .u32 (mrk i j))∧w'=w:=by
 go_enter Tryz.func35,Tryz.ntmps35
 go_wp2
 go_ret
 exact ⟨rfl,rfl⟩
end Go.Proofs.YtfppjaoddicgpaaGreatDoor
