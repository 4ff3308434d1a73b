import Derived.Test.YtejlnodillnoaaaGreatDoorWJ1
import Derived.Test.YtejlnodillnoaaaGreatDoorWBk
import Derived.Test.YtejlnodillnoaaaGreatDoorNumI
import Derived.Deep.AppendLies
set_option linter.unusedSimpArgs false
namespace Go.Proofs.YtejlnodillnoaaaGreatDoor
open Go.RowKit Go.Shelf
set_option linter.unusedVariables false
def csI (x:Int × Option Addr):List Value:=[.bool (ng x.1),.slice x.2 (ln (am x.1)) (ln (am x.1))]
def cellsI:List (Int × Option Addr)→List Value
 | []=>[]
 | x :: s=>csI x ++ cellsI s
theorem cellsI_append (s t:List (Int × Option Addr)):cellsI (s ++ t)=cellsI s ++ cellsI t:=by
 induction s with
 | nil=>rfl
 | cons x s ih=>simp only [List.cons_append,cellsI,ih,List.append_assoc]
theorem cellsI_snoc (s:List (Int × Option Addr)) (x:Int × Option Addr):cellsI (s ++ [x])=cellsI s ++ csI x:=by rw [cellsI_append];simp [cellsI]
theorem cellsI_at:∀ (s:List (Int × Option Addr)) (i:Nat) (h:i < s.length),(cellsI s)[i*2]?=some (.bool (ng s[i].1))∧(cellsI s)[i*2+1]?=some (.slice s[i].2 (ln (am s[i].1)) (ln (am s[i].1)))
 | [],i,h=>absurd h (by simp)
 | x :: s,0,h=>⟨rfl,rfl⟩
 | x :: s,i+1,h=>by
  have:=cellsI_at s i (by simpa using h)
  simp only [cellsI,csI]
  rw [List.getElem?_append_right (by simp;omega),List.getElem?_append_right (by simp;omega)]
  simp only [List.length_cons,List.length_nil,List.getElem_cons_succ]
  rw [show (i+1)*2 - (0+1+1)=i*2 by omega,show (i+1)*2+1 - (0+1+1)=i*2+1 by omega]
  exact this
theorem csI_one (x:Int × Option Addr):∀ u∈csI x,u.oneCell'=true:=by
 intro u hu
 simp only [csI,List.mem_cons,List.not_mem_nil,or_false] at hu
 rcases hu with rfl | rfl <;> rfl
def Out (B:Nat) (W:World) (k:Nat):Prop:=∃ v,W.cell? ⟨B,0,none⟩=some v∧v.ownBlock=some k
theorem Out.below {B k:Nat} {W W':World} (hb:Below W.heap.size W W') (hB:B < W.heap.size):Out B W' k↔Out B W k:=by
 unfold Out
 rw [hb.cell (p:=⟨B,0,none⟩) hB]
theorem Out.put {B k D:Nat} {W:World} {r:Loop} (hk:Bk D r W) (r':Loop) (h:Out B (W.putObj (D+1) (.loop r')) k):Out B W k:=by
 obtain ⟨v,hv,hn⟩:=h
 by_cases e:B=D+1
 ·subst e
  simp [World.cell?,World.putObj_heap_same hk.lt] at hv
 ·rw [World.cell?_of_block (w:=W) (World.putObj_heap_other e)] at hv
  exact ⟨v,hv,hn⟩
structure Kpo (B:Nat) (W W':World):Prop where
 size:W.heap.size≤W'.heap.size
 same:∀ k cur t fz,W.heap[k]?=some (.cells cur t fz)→k≠B→¬ Out B W k→W'.heap[k]?=some (.cells cur t fz)
 out:∀ k,Out B W' k→Out B W k∨W.heap.size≤k
theorem Kpo.trans {B:Nat} {W W1 W2:World} (h:Kpo B W W1) (k:Kpo B W1 W2):Kpo B W W2:=by
 refine ⟨Nat.le_trans h.size k.size,fun i cur t fz hi hB ho=>?_,fun i hi=>?_⟩
 ·have hlt:=(Array.getElem?_eq_some_iff.1 hi).1
  refine k.same i cur t fz (h.same i cur t fz hi hB ho) hB fun hn=>?_
  rcases h.out i hn with h1 | h1
  ·exact ho h1
  ·omega
 ·rcases k.out i hi with h1 | h1
  ·exact h.out i h1
  ·exact .inr (Nat.le_trans h.size h1)
theorem Kpo.put {B D:Nat} {W:World} {r:Loop} (hk:Bk D r W) (r':Loop):Kpo B W (W.putObj (D+1) (.loop r')) :=
 ⟨by simp,fun k cur t fz h _ _=>cells_putLoop h hk r',fun k h=>.inl (h.put hk r')⟩
theorem Kpo.below {B:Nat} {W W':World} (h:Below W.heap.size W W') (hB:B < W.heap.size):Kpo B W W' :=
 ⟨h.size,fun k cur t fz hk _ _=>(h.block k (Array.getElem?_eq_some_iff.1 hk).1).trans hk,fun k hk=>.inl ((Out.below h hB).1 hk)⟩
structure SegC (B:Nat) (W:World) (ao:Option Addr) (X n:Nat):Prop where
 seg:Seg W ao X n
 clr:0 < n→∀ b off,ao=some ⟨b,off,none⟩→b≠B∧¬ Out B W b
theorem SegC.kpo {B:Nat} {W W':World} {ao:Option Addr} {X n:Nat} (h:SegC B W ao X n) (k:Kpo B W W'):SegC B W' ao X n:=by
 refine ⟨⟨h.seg.1,fun hn=>?_⟩,fun hn b off e=>?_⟩
 ·obtain ⟨b,off,rfl,hl,hc⟩:=h.seg.2 hn
  obtain ⟨hB,ho⟩:=h.clr hn b off rfl
  refine ⟨b,off,rfl,Nat.lt_of_lt_of_le hl k.size,fun i hi=>?_⟩
  have h1:=hc i hi
  have hbl:W'.heap[b]?=W.heap[b]?:=by
   have h2:=h1
   simp only [World.cell?] at h2
   cases hh:W.heap[b]? with
   | none=>simp [hh] at h2
   | some o =>
    cases o with
    | cells cur t fz=>exact k.same b cur t fz hh hB ho
    | _=>simp [hh] at h2
  rw [World.cell?_of_block (w:=W) hbl]
  exact h1
 ·obtain ⟨hB,ho⟩:=h.clr hn b off e
  refine ⟨hB,fun h1=>?_⟩
  obtain ⟨b',off',e',hl,_⟩:=h.seg.2 hn
  rw [e] at e'
  simp only [Option.some.injEq,Addr.mk.injEq,and_true] at e'
  rcases k.out b h1 with h2 | h2
  ·exact ho h2
  ·omega
theorem SegC.below {B:Nat} {W W':World} {ao:Option Addr} {X n:Nat} (h:SegC B W ao X n) (hb:Below W.heap.size W W') (hB:B < W.heap.size):SegC B W' ao X n:=h.kpo (Kpo.below hb hB)
theorem SegC.of_new {B:Nat} {W W':World} {ao:Option Addr} {X n:Nat} (h:New W W' ao X n) (hB:B < W.heap.size) (ho:∀ k,Out B W k→k < W.heap.size):SegC B W' ao X n:=by
 refine ⟨h.seg,fun hn b off e=>?_⟩
 obtain ⟨b',off',e',hl,_⟩:=h.fresh hn
 rw [e] at e'
 simp only [Option.some.injEq,Addr.mk.injEq,and_true] at e'
 refine ⟨by omega,fun h1=>?_⟩
 have:=ho b ((Out.below h.below hB).1 h1)
 omega
structure BoxC (B:Nat) (W:World) (c:Nat) (cur:Array Value) (t:TypeId):Prop where
 box:W.heap[c]?=some (.cells cur t (0,0))
 ne:c≠B
 clr:¬ Out B W c
theorem BoxC.lt {B:Nat} {W:World} {c:Nat} {cur:Array Value} {t:TypeId} (h:BoxC B W c cur t):c < W.heap.size:=(Array.getElem?_eq_some_iff.1 h.box).1
theorem BoxC.kpo {B:Nat} {W W':World} {c:Nat} {cur:Array Value} {t:TypeId} (h:BoxC B W c cur t) (k:Kpo B W W'):BoxC B W' c cur t:=by
 refine ⟨k.same c cur t _ h.box h.ne h.clr,h.ne,fun h1=>?_⟩
 have:=h.lt
 rcases k.out c h1 with h2 | h2
 ·exact h.clr h2
 ·omega
theorem BoxC.below {B:Nat} {W W':World} {c:Nat} {cur:Array Value} {t:TypeId} (h:BoxC B W c cur t) (hb:Below W.heap.size W W') (hB:B < W.heap.size):BoxC B W' c cur t:=h.kpo (Kpo.below hb hB)
theorem BoxC.new {B:Nat} (W:World) (cur:Array Value) (t:TypeId) (hB:B < W.heap.size) (ho:∀ k,Out B W k→k < W.heap.size):BoxC B (W.alloc (.cells cur t)) W.heap.size cur t:=by
 refine ⟨World.alloc_heap_new W _,by omega,fun h1=>?_⟩
 have:=ho _ ((Out.below ((Below.refl W.heap.size W).alloc (Nat.le_refl _) _) hB).1 h1)
 omega
theorem BoxC.cell {B:Nat} {W:World} {c:Nat} {cur:Array Value} {t:TypeId} (h:BoxC B W c cur t) (o:Nat):W.cell? ⟨c,o,none⟩=cur[o]?:=by simp [World.cell?,h.box]
theorem BoxC.frozen {B:Nat} {W:World} {c:Nat} {cur:Array Value} {t:TypeId} (h:BoxC B W c cur t) (o:Nat):W.frozen? ⟨c,o,none⟩=false:=frozen_of_row W c o cur t h.box
structure JI (B n₀:Nat) (w0:World) (s:List (Int × Option Addr)) (W:World):Prop where
 ex:∃ v,Boxed W B 76 v∧W.ownsRow n₀ 25 2 v s.length (cellsI s)
 num:∀ x∈s,SegC B W x.2 (am x.1) (ln (am x.1))
 bel:Below n₀ w0 W
 le:n₀≤B
theorem JI.out {B n₀:Nat} {w0 W:World} {s:List (Int × Option Addr)} (h:JI B n₀ w0 s W):∀ k,Out B W k→k < W.heap.size:=by
 obtain ⟨v,hv,hr⟩:=h.ex
 rintro k ⟨v',hc,hn⟩
 rw [hv.cell] at hc
 obtain rfl:=Option.some.inj hc
 exact (hr.lt k hn).2
theorem JI.lt {B n₀:Nat} {w0 W:World} {s:List (Int × Option Addr)} (h:JI B n₀ w0 s W):B < W.heap.size:=by
 obtain ⟨v,hv,hr⟩:=h.ex
 exact hv.lt
theorem ownsRow_keep {w w':World} {base:Nat} {e:TypeId} {size:Nat} {v:Value} {n:Nat} {xs:List Value} (h:w.ownsRow base e size v n xs) (hb:∀ (k:Nat) cur t fz,w.heap[k]?=some (Obj.cells cur t fz)→w'.heap[k]?=some (Obj.cells cur t fz)):w'.ownsRow base e size v n xs:=by
 refine ⟨h.1,?_⟩
 rcases h.2 with h0 | ⟨g,cap,cur,hv,hg,hc,rest⟩
 ·exact Or.inl h0
 ·exact Or.inr ⟨g,cap,cur,hv,hg,hb g _ _ _ hc,rest⟩
theorem JI.put {B n₀ D:Nat} {w0 W:World} {s:List (Int × Option Addr)} {r:Loop} (h:JI B n₀ w0 s W) (hk:Bk D r W) (hD:n₀≤D+1) (r':Loop):JI B n₀ w0 s (W.putObj (D+1) (.loop r')):=by
 obtain ⟨v,hv,hr⟩:=h.ex
 exact ⟨⟨v,cells_putLoop hv hk r',ownsRow_keep hr fun k cur t fz hh=>cells_putLoop hh hk r'⟩,fun x hx=>(h.num x hx).kpo (Kpo.put hk r'),below_putLoop h.bel hk hD _,h.le⟩
theorem JI.below {B n₀:Nat} {w0 W W':World} {s:List (Int × Option Addr)} (h:JI B n₀ w0 s W) (hb:Below W.heap.size W W'):JI B n₀ w0 s W':=by
 obtain ⟨v,hv,hr⟩:=h.ex
 have hl:=h.lt
 refine ⟨⟨v,(hb.block B hl).trans hv,ownsRow_keep hr fun k cur t fz hh=>(hb.block k (Array.getElem?_eq_some_iff.1 hh).1).trans hh⟩,fun x hx=>(h.num x hx).below hb hl,h.bel.trans (hb.mono ?_),h.le⟩
 have:=h.le
 omega
theorem Bk.others {D:Nat} {r:Loop} {V W:World} (h:Bk D r V) (k:KeepsOthers V W):Bk D r W:=⟨k.same _ _ h.dfr rfl,k.same _ _ h.lp rfl⟩
theorem Bk.ch {D c:Nat} {r:Loop} {W W':World} {cur:Array Value} {t:TypeId} {fz:Nat × Nat} (h:Bk D r W) (k:Ch c W W') (hc:W.heap[c]?=some (.cells cur t fz)):Bk D r W':=by
 refine ⟨(k.other D fun e=>?_).trans h.dfr,(k.other (D+1) fun e=>?_).trans h.lp⟩
 ·have:=h.dfr
  rw [e,hc] at this
  simp at this
 ·have:=h.lp
  rw [e,hc] at this
  simp at this
theorem Out.ch {B c k:Nat} {W W':World} (h:Ch c W W') (hB:c≠B):Out B W' k↔Out B W k:=by
 unfold Out
 rw [World.cell?_of_block (w:=W) (a:=⟨B,0,none⟩) (h.other B (Ne.symm hB))]
theorem SegC.ch {B c:Nat} {W W':World} {ao:Option Addr} {X n:Nat} (h:SegC B W ao X n) (k:Ch c W W') (hB:c≠B) (hno:∀ o i,W.cell? ⟨c,o,none⟩≠some (.int .u32 i)):SegC B W' ao X n:=by
 refine ⟨⟨h.seg.1,fun hn=>?_⟩,fun hn b off e=>?_⟩
 ·obtain ⟨b,off,e,hl,hc⟩:=h.seg.2 hn
  refine ⟨b,off,e,by rw [k.size];exact hl,fun i hi=>?_⟩
  have h1:=hc i hi
  rw [World.cell?_of_block (w:=W) (a:=⟨b,off+i,none⟩) (k.other b fun e=>hno (off+i) _ (by rw [←e];exact h1))]
  exact h1
 ·obtain ⟨h1,h2⟩:=h.clr hn b off e
  exact ⟨h1,fun h3=>h2 ((Out.ch k hB).1 h3)⟩
theorem JI.ch {B n₀ c:Nat} {w0 W W':World} {s:List (Int × Option Addr)} (h:JI B n₀ w0 s W) (k:Ch c W W') (hB:c≠B) (ho:¬ Out B W c) (hn:n₀≤c) (hno:∀ o i,W.cell? ⟨c,o,none⟩≠some (.int .u32 i)):JI B n₀ w0 s W':=by
 obtain ⟨v,hv,hr⟩:=h.ex
 refine ⟨⟨v,(k.other B (Ne.symm hB)).trans hv,hr.1,?_⟩,fun x hx=>(h.num x hx).ch k hB hno,h.bel.trans (k.below hn),h.le⟩
 rcases hr.2 with h0 | ⟨g,cap,cur,hv',hg,hc,rest⟩
 ·exact Or.inl h0
 ·refine Or.inr ⟨g,cap,cur,hv',hg,(k.other g fun e=>ho ⟨v,hv.cell,?_⟩).trans hc,rest⟩
  subst hv'
  simp [Value.ownBlock,e]
end Go.Proofs.YtejlnodillnoaaaGreatDoor
