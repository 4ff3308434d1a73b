import Derived.Test.YtgfmaejhdbmkoaaGreatWL3
import Derived.Deep.AppendLies
import Derived.Laws.OwnMore
set_option linter.unusedSimpArgs false
namespace Go.Proofs.YtgfmaejhdbmkoaaGreat
open Go.RowKit
set_option linter.unusedVariables false
def cellsV (q:Nat→RatV):Nat→List Value
 | 0=>[]
 | n+1=>cellsV q n ++ [.bool (q n).s,.slice (q n).a (q n).n (q n).c,.slice (q n).b (q n).m (q n).e]
theorem cellsV_length (q:Nat→RatV):∀ n,(cellsV q n).length=n*3
 | 0=>rfl
 | n+1=>by simp only [cellsV,List.length_append,cellsV_length q n,List.length_cons,List.length_nil];omega
theorem cellsV_at (q:Nat→RatV):∀ (n i:Nat),i < n→(cellsV q n)[i*3]?=some (.bool (q i).s)∧(cellsV q n)[i*3+1]?=some (.slice (q i).a (q i).n (q i).c)∧(cellsV q n)[i*3+2]?=some (.slice (q i).b (q i).m (q i).e)
 | 0,i,h=>absurd h (by omega)
 | n+1,i,h=>by
  have hl:=cellsV_length q n
  rcases Nat.lt_or_ge i n with h1 | h1
  ·have:=cellsV_at q n i h1
   simp only [cellsV]
   rw [List.getElem?_append_left (by omega),List.getElem?_append_left (by omega),List.getElem?_append_left (by omega)]
   exact this
  ·obtain rfl:i=n:=by omega
   simp only [cellsV]
   rw [List.getElem?_append_right (by omega),List.getElem?_append_right (by omega),List.getElem?_append_right (by omega),hl]
   simp [show i*3+1 - i*3=1 by omega,show i*3+2 - i*3=2 by omega]
theorem cellsV_congr {q q':Nat→RatV}:∀ (n:Nat),(∀ i,i < n→q i=q' i)→cellsV q n=cellsV q' n
 | 0,_=>rfl
 | n+1,h=>by simp only [cellsV];rw [cellsV_congr n fun i hi=>h i (by omega),h n (by omega)]
theorem own_rats {w:World} {base:Nat} {e:TypeId} {v:Value} {n:Nat} {q:Nat→RatV} (h:w.ownsRow base e 3 v n (cellsV q n)):∃ a cap,v=.slice a n cap∧n≤cap∧cap≤maxLen∧RatsAt w a n q:=by
 rcases h.2 with ⟨rfl,rfl⟩ | ⟨g,cap,cur,rfl,hb,hg,hc,hm,_,_⟩
 ·exact ⟨none,0,rfl,Nat.le_refl _,by simp [maxLen],fun h=>absurd h (by omega)⟩
 ·refine ⟨_,cap,rfl,hc,hm,fun hn=>⟨g,0,rfl,(Array.getElem?_eq_some_iff.1 hg).1,fun i hi=>?_⟩⟩
  obtain ⟨c0,c1,c2⟩:=cellsV_at q n i hi
  have k0:=h.cellAt (i*3) (by omega)
  have k1:=h.cellAt (i*3+1) (by omega)
  have k2:=h.cellAt (i*3+2) (by omega)
  rw [c0] at k0
  rw [c1] at k1
  rw [c2] at k2
  rw [Nat.zero_add]
  exact ⟨k0,k1,k2⟩
theorem xQ6 {w w':World} {base:Nat} {e:TypeId} {size:Nat} {v:Value} {n:Nat} {xs:List Value} (h:w.ownsRow base e size v n xs) (hb:Below w.heap.size w w'):w'.ownsRow base e size v n xs:=by
 refine ⟨h.1,?_⟩
 rcases h.2 with h0 | ⟨g,cap,cur,hv,hg,hc,rest⟩
 ·exact Or.inl h0
 ·refine Or.inr ⟨g,cap,cur,hv,hg,?_,rest⟩
  rw [hb.block g (Array.getElem?_eq_some_iff.1 hc).1]
  exact hc
theorem Seg.grown {w w':World} {a:Option Addr} {X n:Nat} {row:Option Nat} (h:Seg w a X n) (hg:w.grownBy w' row) (hne:0 < n→∀ ad,a=some ad→some ad.block≠row):Seg w' a X n:=by
 refine ⟨h.1,fun hn=>?_⟩
 obtain ⟨b,off,rfl,hl,hc⟩:=h.2 hn
 exact ⟨b,off,rfl,Nat.lt_of_lt_of_le hl hg.size,fun i hi=>hg.cell (hc i hi) (hne hn ⟨b,off,none⟩ rfl)⟩
theorem xQ8 {base:Nat} {w w':World} {row:Option Nat} (hb:base≤w.heap.size) (hrow:∀ k,row=some k→base≤k) (hg:w.grownBy w' row):Below base w w' :=
 ⟨hg.os,hg.tape,hg.output,hg.size,fun k hk=>hg.block k (by omega) (fun e=>by have:=hrow k e.symm;omega)⟩
def RatV.off (q:RatV) (g:Nat):Prop:=(0 < q.n→∀ ad,q.a=some ad→ad.block≠g)∧(0 < q.m→∀ ad,q.b=some ad→ad.block≠g)
theorem RatV.ok.grown {w w':World} {q:RatV} {row:Option Nat} (h:q.ok w) (hg:w.grownBy w' row) (hne:∀ g,row=some g→q.off g):q.ok w' :=
 ⟨h.1.grown hg fun hn ad e r=>(hne ad.block r.symm).1 hn ad e rfl,h.2.1,h.2.2.1,h.2.2.2.1.grown hg fun hn ad e r=>(hne ad.block r.symm).2 hn ad e rfl,h.2.2.2.2.1,h.2.2.2.2.2⟩
theorem RatV.ok.off {w:World} {q:RatV} (h:q.ok w) {g:Nat} (hg:w.heap.size≤g):q.off g:=by
 refine ⟨fun hn ad e=>?_,fun hn ad e=>?_⟩
 ·obtain ⟨b,off,e',hl,_⟩:=h.1.2 hn
  rw [e] at e'
  obtain rfl:=Option.some.inj e'
  show b≠g
  omega
 ·obtain ⟨b,off,e',hl,_⟩:=h.2.2.2.1.2 hn
  rw [e] at e'
  obtain rfl:=Option.some.inj e'
  show b≠g
  omega
end Go.Proofs.YtgfmaejhdbmkoaaGreat
