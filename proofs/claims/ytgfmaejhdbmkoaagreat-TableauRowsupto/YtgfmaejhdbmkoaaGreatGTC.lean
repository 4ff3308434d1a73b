import Derived.Test.YtgfmaejhdbmkoaaGreatGT5
import Derived.Test.YtgfmaejhdbmkoaaGreatGT6
import Derived.Test.YtgfmaejhdbmkoaaGreatGT8
import Derived.Test.YtgfmaejhdbmkoaaGreatGT9
set_option linter.unusedSimpArgs false
namespace Go.Proofs.YtgfmaejhdbmkoaaGreat
open Go.RowKit
set_option linter.unusedVariables false
structure But (q:Nat) (w w':World):Prop where
 size:w.heap.size≤w'.heap.size
 block:∀ j,j < w.heap.size→j≠q→w'.heap[j]?=w.heap[j]?
theorem But.refl (q:Nat) (w:World):But q w w:=⟨Nat.le_refl _,fun _ _ _=>rfl⟩
theorem But.below {q:Nat} {a b c:World} (h:But q a b) (k:Below b.heap.size b c):But q a c:=⟨Nat.le_trans h.size k.size,fun j hj hq=>(k.block j (Nat.lt_of_lt_of_le hj h.size)).trans (h.block j hj hq)⟩
theorem But.grown {q:Nat} {a b c:World} {row:Option Nat} (h:But q a b) (k:b.grownBy c row) (hr:∀ j,row=some j→a.heap.size≤j):But q a c :=
 ⟨Nat.le_trans h.size k.size,fun j hj hq=>(k.block j (Nat.lt_of_lt_of_le hj h.size) (fun e=>by have:=hr j e.symm;omega)).trans (h.block j hj hq)⟩
theorem But.set {q o:Nat} {a b:World} (h:But q a b) (u:Value):But q a (b.setCell ⟨q,o,none⟩ u) :=
 ⟨by simpa [World.setCell] using h.size,fun j hj hq=>(Below.heap_setCell _ _ _ _ hq).trans (h.block j hj hq)⟩
theorem cell_ltK {a:World} {c o:Nat} {u:Value} (hc:a.cell? ⟨c,o,none⟩=some u):c < a.heap.size:=by
 obtain ⟨cur,e,fr,hb,_⟩:=Sort.cells_of_cell? hc
 exact (Array.getElem?_eq_some_iff.1 hb).1
theorem But.cell {q:Nat} {a b:World} (h:But q a b) {c o:Nat} {u:Value} (hc:a.cell? ⟨c,o,none⟩=some u) (hq:c≠q):b.cell? ⟨c,o,none⟩=some u:=by
 have hl:c < a.heap.size:=cell_ltK hc
 rw [World.cell?_of_block (w:=a) (h.block c hl hq)]
 exact hc
theorem TAt.far {w:World} {a:Option Addr} {R:List RowV} {c o:Nat} {u:Value} (h:TAt w a R) (hc:∀ ad,a=some ad→R≠[]→ad.block≠c):TAt (w.setCell ⟨c,o,none⟩ u) a R:=fun hn=>by
 obtain ⟨b,off,rfl,hl,hcell⟩:=h hn
 have hne:b≠c:=hc _ rfl hn
 exact ⟨b,off,rfl,by simpa [World.setCell] using hl,fun i p hi=>⟨(World.cell?_setCell_other _ _ _ _ (fun e=>hne (congrArg Addr.block e).symm)).trans (hcell i p hi).1,(World.cell?_setCell_other _ _ _ _ (fun e=>hne (congrArg Addr.block e).symm)).trans (hcell i p hi).2⟩⟩
def selR (g:Int→Option FV) (s:List Int):List RowV:=s.map fun v=>(v,(g v).getD default)
theorem selR_length (g:Int→Option FV) (s:List Int):(selR g s).length=s.length:=List.length_map _
theorem selR_lk {g:Int→Option FV}:∀ {s:List Int},(∀ x∈s,g x≠none)→∀ v,lk (selR g s) v=if v∈s then g v else none
 | [],_,v=>by simp [selR,lk]
 | x :: s,h,v=>by
  show lk ((x,(g x).getD default) :: selR g s) v=_
  simp only [lk]
  rw [selR_lk (fun y hy=>h y (List.mem_cons_of_mem _ hy)) v]
  by_cases e:x=v
  ·subst e
   have:=h x List.mem_cons_self
   cases hg:g x with
   | none=>exact absurd hg this
   | some F=>simp
  ·have e2:v≠x:=fun e3=>e e3.symm
   simp [e,e2]
theorem selR_rising {g:Int→Option FV} {s:List Int} (h:s.Pairwise (· < ·)):rising (selR g s):=by
 unfold rising selR
 exact List.pairwise_map.2 h
theorem selR_at {g:Int→Option FV} {s:List Int} {k:Nat} {x:Int} (h:s[k]?=some x):(selR g s)[k]?=some (x,(g x).getD default):=by unfold selR;rw [List.getElem?_map,h];rfl
structure TbA (w:World) (V:Int) (S:List RowV) (v:Value) (w':World):Prop where
 ex:∃ (a:Option Addr) (c:Nat),v=.agg #[.int .i64 V,.slice a S.length c]∧TNk w' a S∧S.length≤c∧∀ ad,a=some ad→S≠[]→w.heap.size≤ad.block
 bel:Below w.heap.size w w'
 rise:rising S
structure ToI (w w2:World) (q:Nat) (V:Int) (S:List RowV) (k:Nat) (vo:Value) (wr:World):Prop where
 bel:Below w.heap.size w wr
 but:But q w2 wr
 own:wr.ownsRow w2.heap.size 46 2 vo k (cellsR (S.take k))
 c0:wr.cell? ⟨q,0,none⟩=some (.int .i64 V)
 c1:wr.cell? ⟨q,1,none⟩=some vo
 row:Row wr q
theorem ToI.push {w w2:World} {q:Nat} {V:Int} {S:List RowV} {k:Nat} {vo:Value} {wr wB w9:World} (h:ToI w w2 q V S k vo wr) (hq:w.heap.size≤q∧q < w2.heap.size) (hw:w.heap.size≤w2.heap.size) (hb:Below wr.heap.size wr wB) {r:RowV} (hr:S[k]?=some r) {gb cap:Nat}
  (hown:w9.ownsRow w2.heap.size 46 2 (.slice (some ⟨gb,0,none⟩) (k+1) cap) (k+1) (cellsR (S.take k) ++ cells2 r)) (hg:wB.grownBy w9 vo.ownBlock) :
  w9.cell? ⟨q,1,none⟩=some vo∧Row w9 q∧ToI w w2 q V S (k+1) (.slice (some ⟨gb,0,none⟩) (k+1) cap) (w9.setCell ⟨q,1,none⟩ (.slice (some ⟨gb,0,none⟩) (k+1) cap)):=by
 have hlt:=fun j (hj:vo.ownBlock=some j)=>h.own.lt j hj
 have hne:∀ j,vo.ownBlock=some j→q≠j:=fun j hj e=>by have:=(hlt j hj).1;omega
 have c1:w9.cell? ⟨q,1,none⟩=some vo:=hg.cell (xQ0 hb h.c1) (fun e=>hne q e.symm rfl)
 have c0:w9.cell? ⟨q,0,none⟩=some (.int .i64 V):=hg.cell (xQ0 hb h.c0) (fun e=>hne q e.symm rfl)
 have hr9:Row w9 q:=by
  obtain ⟨cur,t,hc⟩:=xQ3 hb h.row
  exact ⟨cur,t,(hg.block q (Array.getElem?_eq_some_iff.1 hc).1 (fun e=>hne q e.symm rfl)).trans hc⟩
 have hgq:gb≠q:=fun e=>by have:=(hown.lt gb rfl).1;omega
 refine ⟨c1,hr9,?_,?_,?_,?_,?_,hr9.setCell _ _⟩
 ·exact (h.bel.trans ((hb.mono h.bel.size).trans (xQ8 (Nat.le_trans h.bel.size hb.size) (fun j hj=>by have:=(hlt j hj).1;omega) hg))).setCell hq.1 _
 ·exact ((h.but.below hb).grown hg (fun j hj=>(hlt j hj).1)).set _
 ·have e:cellsR (S.take (k+1))=cellsR (S.take k) ++ cells2 r:=by rw [take_snoc hr,cellsR_append];simp [cellsR]
  rw [e]
  refine ⟨hown.1,?_⟩
  rcases hown.2 with ⟨h1,_⟩ | ⟨g,cap',cur,h1,h2,h3,h4⟩
  ·cases h1
  ·have:gb=g:=by simp at h1;exact h1.1
   subst this
   exact Or.inr ⟨gb,cap',cur,h1,h2,(Below.heap_setCell _ _ _ _ hgq).trans h3,h4⟩
 ·rw [World.cell?_setCell_other _ _ _ _ (fun e=>by simp at e)];exact c0
 ·exact World.cell?_setCell_same _ _ _ c1
theorem own_keys {w w':World} {v:Value} {s:List Int} (h:Own w w' v s):∃ (a:Option Addr) (c:Nat),v=.slice a s.length c∧s.length≤c∧∀ i x,s[i]?=some x→∃ gk,a=some ⟨gk,0,none⟩∧w.heap.size≤gk∧w'.cell? ⟨gk,i,none⟩=some (.int .i64 x):=by
 rcases h.1.2 with ⟨h1,h2⟩ | ⟨gk,cap,cur,h1,h2,h3,h4,_⟩
 ·refine ⟨none,0,by rw [h1,h2],by omega,fun i x hx=>?_⟩
  rw [List.length_eq_zero_iff.1 h2] at hx
  simp at hx
 ·refine ⟨some ⟨gk,0,none⟩,cap,h1,h4,fun i x hx=>⟨gk,rfl,h2,?_⟩⟩
  have k1:=h.1
  rw [h1] at k1
  have hi:=(List.getElem?_eq_some_iff.1 hx).1
  have k2:=k1.cellAt i (by omega)
  rw [iv_at hx] at k2
  exact k2
def ToldA (w:World) (V:Int) (n:Nat) (g:Int→Option FV) (e:Ending) (w':World):Prop:=∃ v S,e=.returned v∧TbA w V S v w'∧S.length≤n∧∀ x,lk S x=g x
theorem info_Row:(Tryz.prog.info? 46).map (fun i=>(i.zero,i.size,i.bytes))=some (some (.agg #[.int .i64 0,.slice none 0 0]),2,32):=by kernel_rfl
set_option maxHeartbeats 8000000 in
set_option maxRecDepth 100000 in
theorem told_is (V:Int) (b n:Nat) (g:Int→Option FV) (w:World) (hM:MapT w b n g) (hn:n≤1048576) (hnk:∀ v F,g v=some F→F.nk w) :
  Calls Tryz.prog 48 #[.int .i64 V,.map (some b)] w (ToldA w V n g):=by
 obtain ⟨TQ,hTQ⟩:∃ TQ,ToldA w V n g=TQ:=⟨_,rfl⟩
 rw [hTQ]
 replace hTQ:=xQ1 hTQ
 obtain ⟨i0,hi0,hz0,hz1,hz2⟩:=info_parts info_Row
 have HNK:=xQ1 hnk
 clear hnk
 have bA:=xQ2 (w:=w) (.cells #[.int .i64 0,.slice none 0 0] 24)
 have bB:=xQ2 (w:=w.alloc (.cells #[.int .i64 0,.slice none 0 0] 24)) (.cells #[.int .i64 V,.slice none 0 0] 24)
 have c0:((w.alloc (.cells #[.int .i64 0,.slice none 0 0] 24)).alloc (.cells #[.int .i64 V,.slice none 0 0] 24)).cell? ⟨w.heap.size+1,0,none⟩=some (.int .i64 V):=by go_simp
 have c1:((w.alloc (.cells #[.int .i64 0,.slice none 0 0] 24)).alloc (.cells #[.int .i64 V,.slice none 0 0] 24)).cell? ⟨w.heap.size+1,1,none⟩=some (.slice none 0 0):=by go_simp
 have r0:Row ((w.alloc (.cells #[.int .i64 0,.slice none 0 0] 24)).alloc (.cells #[.int .i64 V,.slice none 0 0] 24)) w.heap.size:=xQ3 bB (xQ9 w #[.int .i64 0,.slice none 0 0] 24)
 have r1:Row ((w.alloc (.cells #[.int .i64 0,.slice none 0 0] 24)).alloc (.cells #[.int .i64 V,.slice none 0 0] 24)) (w.heap.size+1):=by have:=xQ9 (w.alloc (.cells #[.int .i64 0,.slice none 0 0] 24)) #[.int .i64 V,.slice none 0 0] 24;simpa using this
 have z0:((w.alloc (.cells #[.int .i64 0,.slice none 0 0] 24)).alloc (.cells #[.int .i64 V,.slice none 0 0] 24)).cell? ⟨w.heap.size,0,none⟩=some (.int .i64 0):=by go_simp
 have z1:((w.alloc (.cells #[.int .i64 0,.slice none 0 0] 24)).alloc (.cells #[.int .i64 V,.slice none 0 0] 24)).cell? ⟨w.heap.size,1,none⟩=some (.slice none 0 0):=by go_simp
 have hBw:=bA.trans (bB.mono bA.size)
 have hsz:((w.alloc (.cells #[.int .i64 0,.slice none 0 0] 24)).alloc (.cells #[.int .i64 V,.slice none 0 0] 24)).heap.size=w.heap.size+1+1:=by simp
 go_enter Tryz.func48,Tryz.ntmps48
 go_wp2_with fail
 obtain ⟨w2,hw2⟩:∃ w2,((w.alloc (.cells #[.int .i64 0,.slice none 0 0] 24)).alloc (.cells #[.int .i64 V,.slice none 0 0] 24))=w2:=⟨_,rfl⟩
 rw [hw2] at c0 c1 r0 r1 z0 z1 hBw hsz ⊢
 clear hw2 bA bB
 obtain ⟨q,hq⟩:∃ q,w.heap.size+1=q:=⟨_,rfl⟩
 rw [hq] at c0 c1 r1 hsz
 try rw [hq]
 have HQ:=xQ1 (show (w.heap.size≤q∧q < w2.heap.size)∧w.heap.size≤w2.heap.size∧q≠w.heap.size by omega)
 clear hq hsz
 refine (basics_is w2 b n (mapf g) (hM.later hBw) (by omega)).mono ?_
 rintro e wk ⟨v,s,rfl,hO,hrs,hsl,hmem⟩
 have hk:=hO.2
 have HS:=xQ1 (show ∀ x∈s,g x≠none from fun x hx e=>(hmem x).1 hx (mapf_none e))
 have HC:=xQ1 (show ∀ x,x ∉ s→g x=none from fun x hx=>by
  cases hg:g x with
  | none=>rfl
  | some F=>exact absurd ((hmem x).2 (by rw [mapf_some hg];simp)) hx)
 have HR:=xQ1 hrs
 have HWF:=xQ1 (fun x F (hx:g x=some F)=>show wfI x from hM.key (mapf_some hx))
 obtain ⟨av,cv,rfl,hcv,hcells⟩:=own_keys hO
 have HCell:=xQ1 hcells
 have I0:ToI w wk q V (selR g s) 0 (.slice none 0 0) wk:=⟨hBw.trans (hk.mono hBw.size),But.refl _ _,World.ownsRow_nil _ _ _ _,xQ0 hk c0,xQ0 hk c1,xQ3 hk r1⟩
 have HQ2:=xQ1 (show (w.heap.size≤q∧q < wk.heap.size)∧w.heap.size≤wk.heap.size∧q≠w.heap.size by have:=hk.size;have:=HQ.out;omega)
 have HQ3:=xQ1 (show q < w2.heap.size from HQ.out.1.2)
 have HZ:=xQ1 (show wk.cell? ⟨w.heap.size,0,none⟩=some (.int .i64 0)∧wk.cell? ⟨w.heap.size,1,none⟩=some (.slice none 0 0)∧Row wk w.heap.size from ⟨xQ0 hk z0,xQ0 hk z1,xQ3 hk r0⟩)
 have HM:=xQ1 hM
 clear hO hmem hrs c0 c1 z0 z1 r0 r1 HQ hk hM hcells hBw
 go_wp2_with fail
 go_loopw [13] (fun vi wr=>∃ (k:Nat) (vo:Value),k≤s.length∧vi=.int .i64 k∧ToI w wk q V (selR g s) k vo wr) (fun vi _=>s.length - (intOf vi).toNat)
 case atStart=>exact ⟨0,_,Nat.zero_le _,rfl,I0⟩
 case round =>
  clear I0
  obtain ⟨k,vo,hk,rfl,hI⟩:=hrel
  by_cases hlt:k < s.length
  ·obtain ⟨x,hx⟩:∃ x,s[k]?=some x:=⟨s[k],List.getElem?_eq_getElem hlt⟩
   obtain ⟨gk,rfl,hgk,hcx⟩:=HCell.out k x hx
   replace hcx:=hI.but.cell hcx (by have:=HQ3.out;omega)
   obtain ⟨F,hF⟩:∃ F,g x=some F:=by
    have h1:=HS.out x (List.mem_of_getElem? hx)
    cases hg:g x with
    | none=>exact absurd hg h1
    | some F=>exact ⟨F,rfl⟩
   have hwx:=HWF.out x F hF
   have hmf:=mapf_some hF
   have hat:=selR_at (g:=g) hx
   rw [hF] at hat
   simp only [Option.getD] at hat
   have HP:=xQ1 (fun wB w9 (hb:Below wr.heap.size wr wB) gb cap hown hg=>hI.push (wB:=wB) (w9:=w9) (gb:=gb) (cap:=cap) HQ2.out.1 HQ2.out.2.1 hb hat hown hg)
   have hMr:=HM.out.later hI.bel
   have c1:=hI.c1
   have hO:=hI.own
   have hsb:=hI.but.size
   have j0:(0:Int)≤(k:Int):=by omega
   have j1:(k:Int) < (s.length:Int):=by omega
   obtain ⟨Fa,Fc,FL⟩:=F
   unfold FV.val at hmf
   simp only at hmf
   clear hx hF hat hI
   have hnew:=heap_alloc_new wr (.cells #[.int .i64 x,.slice Fa FL.length Fc] 46)
   have bX:=xQ2 (w:=wr) (.cells #[.int .i64 x,.slice Fa FL.length Fc] 46)
   obtain ⟨wX,hwX⟩:∃ wX,wr.alloc (.cells #[.int .i64 x,.slice Fa FL.length Fc] 46)=wX:=⟨_,rfl⟩
   rw [hwX] at hnew bX
   have hO3:=xQ6 hO bX
   have sX:=bX.size
   have hbs:wk.heap.size≤wX.heap.size:=by omega
   have hbl:(k+1)*32≤140737488355328:=by omega
   have hkm:k+1≤maxLen:=by simp only [maxLen];omega
   go_wp2_with (first | (at_lookup;refine xZ3 _ rfl _ _ 40 false rfl xZ9 xZ7 (zeroF _) b n (mapf g) rfl hMr x rfl hwx _ hmf ?_) | (at_builtin;(try rw [hwX]);refine wpList_append_lies _ (by rfl) _ _ _ (by rfl) wk.heap.size 46 i0 _ 2 32 Tryz.underlying22 hi0 hz0 hz1 hz2 rfl (by omega) vo k (cellsR ((selR g s).take k)) (by rfl) hO3 ⟨wr.heap.size,0,none⟩ 1 1 [.int .i64 x,.slice Fa FL.length Fc] (by rfl) (by rfl) (World.news_of_block (cs:=#[.int .i64 x,.slice Fa FL.length Fc]) (t:=46) (fr:=(0,0)) hnew) (by simp [Value.oneCell']) (by omega) hkm hbl hbs wX.heap.size rfl ?_;intro gb cap w9 hown4 hgrow hat9 hlt4;obtain ⟨k1,kR,kI⟩:=HP.out wX w9 bX gb cap hown4 hgrow;have fz:=fun o=>kR.frozen o;have KI:=xQ1 kI;clear kI hown4 hgrow hat9 hlt4 HP kR))
   try go_roundw
   case rel=>exact ⟨k+1,_,by omega,by go_num,KI.out⟩
   case measure=>simp only [intOf];omega
  ·obtain rfl:k=s.length:=by omega
   have i1:¬ (s.length:Int) < (s.length:Int):=by omega
   have eT:(selR g s).take s.length=selR g s:=by rw [←selR_length g s,List.take_length]
   have hO:=hI.own
   rw [eT,←selR_length g s] at hO
   obtain ⟨ar,cr,hvo,hcr,_,hTA⟩:=own_tab hO
   have HRW:=xQ1 (fun ad (e:ar=some ad)=>show wk.heap.size≤ad.block from by rw [hvo,e] at hO;exact (hO.lt ad.block rfl).1)
   rw [selR_length] at hvo
   subst hvo
   have c0:=hI.c0
   have c1:=hI.c1
   have z0:=hI.but.cell HZ.out.1 (by have:=HQ2.out;omega)
   have z1:=hI.but.cell HZ.out.2.1 (by have:=HQ2.out;omega)
   have zR:Row wr w.heap.size:=by obtain ⟨cur,t,hc⟩:=HZ.out.2.2;exact ⟨cur,t,(hI.but.block _ (Array.getElem?_eq_some_iff.1 hc).1 (by have:=HQ2.out;omega)).trans hc⟩
   have fz:=fun o=>zR.frozen o
   have HX:=xQ1 (show ToldA w V n g (.returned (Value.agg #[.int .i64 V,.slice ar s.length cr])) ((wr.setCell ⟨w.heap.size,0,none⟩ (.int .i64 V)).setCell ⟨w.heap.size,1,none⟩ (.slice ar s.length cr)) from by
     have hB:Below w.heap.size w ((wr.setCell ⟨w.heap.size,0,none⟩ (.int .i64 V)).setCell ⟨w.heap.size,1,none⟩ (.slice ar s.length cr)):=(hI.bel.setCell (Nat.le_refl _) _).setCell (Nat.le_refl _) _
     have hne:∀ ad,ar=some ad→selR g s≠[]→ad.block≠w.heap.size:=fun ad e _=>by have h1:=HRW.out ad e;have:=HQ2.out;omega
     refine ⟨_,selR g s,rfl,⟨⟨ar,cr,by rw [selR_length],⟨(hTA.far hne).far hne,fun r hr=>?_,fun r hr=>?_⟩,hcr,fun ad e _=>by have h1:=HRW.out ad e;have:=HQ2.out;omega⟩,hB,selR_rising HR.out⟩,by rw [selR_length];exact hsl,fun x=>?_⟩
     ·obtain ⟨v,hv,rfl⟩:=List.mem_map.1 hr
      cases hg:g v with
      | none=>exact absurd hg (HS.out v hv)
      | some F=>simp only [Option.getD];exact (HNK.out v F hg).later hB
     ·obtain ⟨v,hv,rfl⟩:=List.mem_map.1 hr
      cases hg:g v with
      | none=>exact absurd hg (HS.out v hv)
      | some F=>exact HWF.out v F hg
     ·rw [selR_lk HS.out]
      by_cases hx:x∈s
      ·rw [if_pos hx]
      ·rw [if_neg hx,HC.out x hx])
   rw [hTQ.out] at HX
   clear hI hO hTA zR HRW eT
   go_wp2
   first | exact HX.out | (refine bodyPost_ret (v:=.agg #[.int .i64 V,.slice ar s.length cr]) (by rw [xQ5 rfl];go_simp) rfl ?_;exact HX.out)
def FFr (w:World) (T:Fo) (e:Ending) (w':World):Prop :=
 ∃ F:FV,e=.returned F.val∧F.fo=T∧F.nk w'∧F.frm w.heap.size∧Below w.heap.size w w'
def NInvN (w:World) (l:Fo) (ys:List Int) (k:Nat) (vo:Value) (wr:World):Prop :=
 ∃ R:List Mo,R.length≤k∧wr.ownsRow w.heap.size 57 4 vo R.length (xZ0 R)∧Below w.heap.size w wr∧(∀ p∈R,Grw vo wr p)∧(∀ p∈R,p.2.frm w.heap.size)∧fo R=cl l (ys.take k)
theorem NInvN.later {w:World} {l:Fo} {ys:List Int} {k:Nat} {vo:Value} {wr w':World} (h:NInvN w l ys k vo wr) (hb:Below wr.heap.size wr w'):NInvN w l ys k vo w':=by
 obtain ⟨R,h1,h2,h3,h4,h6,h5⟩:=h
 exact ⟨R,h1,xQ6 h2 hb,h3.trans (hb.mono h3.size),fun p hp=>(h4 p hp).later hb,h6,h5⟩
set_option maxHeartbeats 8000000 in
set_option maxRecDepth 100000 in
theorem vlNormN_is (a:Option Addr) (ca:Nat) (L:List Mo) (w:World) (hF:FAt w a L) (hok:∀ p∈L,p.2.ok w∧p.2.n≤1099511627776∧p.2.m≤1099511627776) (hc:L.length≤ca) (hm:L.length≤1048576) (hw:∀ k x,sz 1099511627776 (co x (fo (L.take k)))) :
  Calls Tryz.prog 22 #[.slice a L.length ca] w (FFr w (nfm (fo L))):=by
 obtain ⟨i0,hi0,hz0,hz1,hz2⟩:=info_parts info_Mono
 obtain ⟨TT,hTT⟩:∃ TT,nfm (fo L)=TT:=⟨_,rfl⟩
 rw [hTT]
 replace hTT:=xQ1 hTT
 have GA:=xQ1 (vall_is a ca L none 0 [] w hF (FAt.nil _ _) hc (Nat.le_refl _) (by simp only [List.length_nil];omega))
 have GC:=xQ1 (fun w' x (hb:Below w.heap.size w w')=>vlCoefF_is a ca L x w' (hF.later hb) (fun p hp=>⟨(hok p hp).1.later hb,(hok p hp).2⟩) hc hm (fun k=>hw k x))
 clear hF hok hc
 rw [show ([]:List Mo).length=0 from rfl] at GA
 go_enter Tryz.func22,Tryz.ntmps22
 go_wp2_with fail
 refine GA.out.mono ?_
 rintro e w2 ⟨vi,rfl,ys,hOI,hB2,hY⟩
 clear GA
 obtain ⟨ai,ci,rfl,hci,hI⟩:=own_ints hOI
 rw [List.take_length] at hY
 have HC:=xQ1 (cl_all hY)
 have hyl:ys.length≤1048576:=by have:=hY.len;rw [List.length_append,vs_length] at this;simp only [vs,List.map_nil,List.length_nil] at this;omega
 clear hY hOI
 obtain ⟨l,hl⟩:∃ l,fo L=l:=⟨_,rfl⟩
 have HS:=xQ1 (fun x=>show sz 1099511627776 (co x l) by have h:=hw L.length x;rw [List.take_length,hl] at h;exact h)
 rw [hl] at GC HC hTT
 clear hl hw
 go_wp2_with fail
 go_loopw [3,5] (fun vo vi wr=>∃ k:Nat,k≤ys.length∧vi=.int .i64 k∧NInvN w2 l ys k vo wr) (fun _ vi _=>ys.length - (intOf vi).toNat)
 case atStart=>exact ⟨0,Nat.zero_le _,rfl,[],Nat.le_refl _,World.ownsRow_nil _ _ _ _,Below.refl _ _,fun p hp=>absurd hp (by simp),fun p hp=>absurd hp (by simp),rfl⟩
 case round =>
  obtain ⟨k,hk,rfl,hN⟩:=hrel
  by_cases hlt:k < ys.length
  ·obtain ⟨x,hx⟩:∃ x,ys[k]?=some x:=⟨ys[k],List.getElem?_eq_getElem hlt⟩
   obtain ⟨bb,off,rfl,hb,hcell⟩:=hI (by intro e;rw [e] at hlt;simp at hlt)
   have hBk:Below w2.heap.size w2 wr:=by obtain ⟨R,_,_,h,_⟩:=hN;exact h
   have c0:=xQ0 hBk (hcell k x hx)
   obtain ⟨t1,t2⟩:=xJ6 hx
   clear t2 hx hcell
   obtain ⟨s,hs⟩:∃ s,co x l=s:=⟨_,rfl⟩
   have G1:=xQ1 (GC.out wr x (hB2.trans (hBk.mono hB2.size)))
   have hsz:=HS.out x
   rw [hs] at G1 hsz
   have hfo:cl l (ys.take (k+1))=cl l (ys.take k) ++ (if s=0 then [] else [(x,s)]):=by rw [t1,cl_append];simp only [cl];rw [hs,List.append_nil]
   clear t1 hs
   have G2:=fun w' p q k1 k2=>vqSign_is (ng s.num) p (ln (am s.num)) (ln (am s.num)) (am s.num) q (ln s.den) (ln s.den) s.den (sgn s.num) w' (Nat.le_refl _) (Nat.le_trans hsz.1 (by omega)) k1 (Nat.le_refl _) (Nat.le_trans hsz.2 (by omega)) k2 (by rw [rn_nf s.den_pos])
   have i1:(0:Int)≤(k:Int):=by omega
   have i2:(k:Int) < (ys.length:Int):=by omega
   go_wp2_with fail
   refine G1.out.mono ?_
   rintro e w3 ⟨p,q,rfl,b3,g1,g2,f1,f2⟩
   go_wp2_with fail
   obtain ⟨wA,hwA⟩:∃ wA,w3.alloc (.cells #[.bool (ng s.num),.slice p (ln (am s.num)) (ln (am s.num)),.slice q (ln s.den) (ln s.den)] 55)=wA:=⟨_,rfl⟩
   have bA:Below w3.heap.size w3 wA:=by subst hwA;exact xQ2 _
   have a0:wA.cell? ⟨w3.heap.size,0,none⟩=some (.bool (ng s.num)):=by subst hwA;go_simp
   have a1:wA.cell? ⟨w3.heap.size,1,none⟩=some (.slice p (ln (am s.num)) (ln (am s.num))):=by subst hwA;go_simp
   have a2:wA.cell? ⟨w3.heap.size,2,none⟩=some (.slice q (ln s.den) (ln s.den)):=by subst hwA;go_simp
   rw [hwA]
   clear hwA
   replace g1:=g1.later bA
   replace g2:=g2.later bA
   have bT:=b3.trans (bA.mono b3.size)
   have hs3:=b3.size
   replace c0:=xQ0 bT c0
   have hN3:=hN.later bT
   have hN0:=xQ1 hN
   clear hN b3 bA G1
   by_cases h0:s=0
   ·skip
    have hC0:sgn s.num=0:=(sgn_num s).2 h0
    rw [hC0] at G2
    rw [if_pos h0,List.append_nil] at hfo
    replace G2:=xQ1 G2
    clear h0
    refine (G2.out _ p q g1 g2).mono ?_
    rintro e w4 ⟨rfl,b4⟩
    replace a0:=xQ0 b4 a0
    replace a1:=xQ0 b4 a1
    replace a2:=xQ0 b4 a2
    replace c0:=xQ0 b4 c0
    replace g1:=g1.later b4
    replace g2:=g2.later b4
    replace hN3:=hN3.later b4
    replace bT:=bT.trans (b4.mono bT.size)
    clear b4 G2
    have I1:=xQ1 (show NInvN w2 l ys (k+1) u3 w4 from by obtain ⟨R,h1,h2,h3,h4,h6,h5⟩:=hN3;exact ⟨R,by omega,h2,h3,h4,h6,by rw [h5,hfo]⟩)
    clear hN3
    go_wp2
    go_roundw
    case rel=>exact ⟨k+1,by omega,by go_num,I1.out⟩
    case measure=>simp [intOf];omega
   ·skip
    have hC0:¬ sgn s.num=0:=fun h=>h0 ((sgn_num s).1 h)
    obtain ⟨C,hC⟩:∃ C,sgn s.num=C:=⟨_,rfl⟩
    rw [hC] at G2 hC0
    rw [if_neg h0] at hfo
    have hCb:(C == 0)=false:=by simp [hC0]
    clear hC
    replace G2:=xQ1 G2
    clear h0
    refine (G2.out _ p q g1 g2).mono ?_
    rintro e w4 ⟨rfl,b4⟩
    replace a0:=xQ0 b4 a0
    replace a1:=xQ0 b4 a1
    replace a2:=xQ0 b4 a2
    replace c0:=xQ0 b4 c0
    replace g1:=g1.later b4
    replace g2:=g2.later b4
    replace hN3:=hN3.later b4
    replace bT:=bT.trans (b4.mono bT.size)
    clear b4 G2
    obtain ⟨R,hRl,hO,hB,hR,hFm,hfR⟩:=hN3
    have frN:(RatV.of s.num s.den p q).frm w2.heap.size:=⟨fun hn ad e2=>Nat.le_trans hBk.size (f1 hn ad e2),fun hn ad e2=>Nat.le_trans hBk.size (f2 hn ad e2)⟩
    have hrow:=fun k hk=>(hO.lt k hk)
    have hrow0:∀ b,u3.ownBlock=some b→b < wr.heap.size:=fun b e=>by obtain ⟨R0,_,hO0,_⟩:=hN0.out;exact (hO0.lt b e).2
    have gN:Grw u3 w4 (x,RatV.of s.num s.den p q):=⟨⟨g1,Nat.le_refl _,Nat.le_trans hsz.1 (by omega),g2,Nat.le_refl _,Nat.le_trans hsz.2 (by omega)⟩,ofR_low s p q,fun b e=>⟨fun hn ad e2 h=>by have h1:=f1 hn ad e2;have h2:=hrow0 b e;omega,fun hn ad e2 h=>by have h1:=f2 hn ad e2;have h2:=hrow0 b e;omega⟩⟩
    have hs4:w3.heap.size < w4.heap.size:=World.block_lt_of_cell? w4 ⟨w3.heap.size,0,none⟩ a0
    have hso:∀ b,u3.ownBlock=some b→b < w3.heap.size:=fun b e=>by have:=hrow0 b e;omega
    clear g1 g2 f1 f2 hN0 bT
    go_wp2_with fail
    have bD:Below w4.heap.size w4 w4.drew:=(Below.refl _ _).drew
    have kc0:=xQ0 bD c0
    have ka0:=xQ0 bD a0
    have ka1:=xQ0 bD a1
    have ka2:=xQ0 bD a2
    refine wp_region_held_drew (S:=fun w'=>w'.cell? ⟨bb,off+k,none⟩=some (.int .i64 x)∧w'.cell? ⟨w3.heap.size,0,none⟩=some (.bool (ng s.num))∧w'.cell? ⟨w3.heap.size,1,none⟩=some (.slice p (ln (am s.num)) (ln (am s.num)))∧w'.cell? ⟨w3.heap.size,2,none⟩=some (.slice q (ln s.den) (ln s.den))) (by kernel_rfl) ⟨kc0,ka0,ka1,ka2⟩ (fun hHeld=>?_)
    clear kc0 ka0 ka1 ka2
    generalize w4.drew=w0 at bD hHeld ⊢
    clear c0 a0 a1 a2
    refine tk 0 (v:=?_) rfl (Or.inl ⟨by rfl,?_⟩) ?_
    rotate_left
    ·intro w9 hSw
     go_simp
     try with_reducible rfl
    simp only [pA]
    refine tk 1 (v:=?_) rfl (Or.inl ⟨by rfl,?_⟩) ?_
    rotate_left
    ·intro w9 hSw
     go_simp
     try with_reducible rfl
    simp only [pA]
    refine tk 2 (v:=?_) rfl (Or.inl ⟨by rfl,?_⟩) ?_
    rotate_left
    ·intro w9 hSw
     go_simp
     try with_reducible rfl
    simp only [pA]
    refine tk 3 (v:=?_) rfl (Or.inl ⟨by rfl,?_⟩) ?_
    rotate_left
    ·intro w9 hSw
     go_simp
     try with_reducible rfl
    simp only [pA]
    refine tk 4 (v:=?_) rfl (Or.inl ⟨by rfl,?_⟩) ?_
    rotate_left
    ·intro w9 hSw
     go_simp
     try with_reducible rfl
    simp only [pA]
    refine tk 5 (v:=?_) rfl (Or.inl ⟨by rfl,?_⟩) ?_
    rotate_left
    ·intro w9 hSw
     go_simp
     try with_reducible rfl
    simp only [pA]
    refine tk 6 (v:=?_) rfl (Or.inl ⟨by rfl,?_⟩) ?_
    rotate_left
    ·intro w9 hSw
     go_simp
     try with_reducible rfl
    simp only [pA]
    refine wpAnyH_ready (rs:=[7]) (by kernel_rfl) (by simp) ?_
    refine xX0 rfl (fun KK hKK=>?_)
    go_simp
    have hnew:=heap_alloc_new w0 (.cells #[.int .i64 x,.bool (ng s.num),.slice p (ln (am s.num)) (ln (am s.num)),.slice q (ln s.den) (ln s.den)] 57)
    have b3:=xQ2 (w:=w0) (.cells #[.int .i64 x,.bool (ng s.num),.slice p (ln (am s.num)) (ln (am s.num)),.slice q (ln s.den) (ln s.den)] 57)
    generalize w0.alloc (.cells #[.int .i64 x,.bool (ng s.num),.slice p (ln (am s.num)) (ln (am s.num)),.slice q (ln s.den) (ln s.den)] 57)=w8 at hnew b3 ⊢
    replace hHeld:=(⟨xQ0 b3 hHeld.1,xQ0 b3 hHeld.2.1,xQ0 b3 hHeld.2.2.1,xQ0 b3 hHeld.2.2.2⟩:_∧_∧_∧_)
    refine hKK.out _ _ hHeld ?_
    clear hHeld
    intro hHeld
    clear hKK KK
    try simp only [pA]
    have bT:=bD.trans (b3.mono bD.size)
    have hO3:=xQ6 hO bT
    have s3:=b3.size
    have s4:=bD.size
    have s5:=hB.size
    refine wpAnyH_ready (rs:=[8]) (by kernel_rfl) (by simp) ?_
    refine xX0 rfl (fun KK hKK=>?_)
    refine step_append_lies _ (by rfl) _ _ _ (by rfl) w2.heap.size 57 i0 _ 4 64 Tryz.underlying26 hi0 hz0 hz1 hz2 rfl (by omega) u3 R.length (xZ0 R) (by rfl) hO3
     ⟨w0.heap.size,0,none⟩ 1 1 (cells4 (x,RatV.of s.num s.den p q)) (by rfl) (by rfl) (World.news_of_block (cs:=#[.int .i64 x,.bool (ng s.num),.slice p (ln (am s.num)) (ln (am s.num)),.slice q (ln s.den) (ln s.den)]) (t:=57) (fr:=(0,0)) hnew) (cells4_one _)
     (by omega) (by simp only [maxLen];omega) (by omega) (by omega) w8.heap.size rfl ?_
    intro gb cap w9 hown4 hgrow hat hlt4
    have far:∀ {c o:Nat} {u:Value},(c < w2.heap.size∨c=w3.heap.size)→w8.cell? ⟨c,o,none⟩=some u→w9.cell? ⟨c,o,none⟩=some u:=fun hc hu=>hgrow.cell hu (fun e=>by have h1:=hrow _ e.symm;have h2:=hso _ e.symm;simp only at h1 h2;omega)
    refine hKK.out _ _ ⟨far (Or.inl hb) hHeld.1,far (Or.inr rfl) hHeld.2.1,far (Or.inr rfl) hHeld.2.2.1,far (Or.inr rfl) hHeld.2.2.2⟩ ?_
    clear hHeld
    intro hHeld
    clear hKK KK
    try simp only [pA]
    have hBT:=hB.trans (bT.mono hB.size)
    have I1:=xQ1 (show NInvN w2 l ys (k+1) (.slice (some ⟨gb,0,none⟩) (R.length+1) cap) w9 from ⟨R ++ [(x,RatV.of s.num s.den p q)],by rw [List.length_append];simp only [List.length_cons,List.length_nil];omega,own_push hown4,hBT.trans (xQ8 hBT.size (fun k hk=>(hrow k hk).1) hgrow),grw_push (fun q hq=>(hR q hq).later bT) (gN.later bT) (j:=R.length+1) (cap:=cap) hgrow hat,(fun q hq=>by rcases List.mem_append.1 hq with h | h;exact hFm q h;rw [List.mem_singleton.1 h];exact frN),by rw [xZ1,hfR,hfo];show _ ++ [(x,(RatV.of s.num s.den p q).val)]=_;rw [val_ofR]⟩)
    clear hown4 hgrow hat far gN hO3 hnew hR hO hfR
    refine tk 9 (v:=?_) rfl (Or.inl ⟨by rfl,?_⟩) ?_
    rotate_left
    ·intro w9 hSw
     go_simp
     try with_reducible rfl
    simp only [pA]
    refine wpAnyH_done (by kernel_rfl) ?_ _
    go_wp2
    go_roundw
    case rel=>exact ⟨k+1,by omega,by go_num,I1.out⟩
    case measure=>simp [intOf];omega
  ·obtain rfl:k=ys.length:=by omega
   have i1:¬ (ys.length:Int) < (ys.length:Int):=by omega
   obtain ⟨R,hRl,hO,hB,hR,hFm,hfR⟩:=hN
   obtain ⟨a3,c3,rfl,s3⟩:=Sl.of hO
   rw [List.take_length,HC.out,hTT.out] at hfR
   have I1:=xQ1 (show FFr w TT (.returned (.slice a3 R.length c3)) wr from ⟨⟨a3,c3,R⟩,rfl,hfR,⟨s3,fun p hp=>(hR p hp).ent⟩,⟨fun _ ad e=>Nat.le_trans hB2.size (own_new hO ad e).1,fun p hp=>(hFm p hp).mono hB2.size⟩,hB2.trans (hB.mono hB2.size)⟩)
   clear hO hR s3 hfR
   go_wp2
   go_ret
   exact I1.out
theorem rNormN_is (F:FV) (w:World) (h:F.sm w):Calls Tryz.prog 22 #[F.val] w (FFr w (nfm F.fo)) :=
 vlNormN_is F.a F.c F.L w h.ok.lies (fun p hp=>⟨h.ok.nums p hp,by have:=bul_mem hp;have:=h.b;omega,by have:=bul_mem hp;have:=h.b;omega⟩) h.ok.len h.len fun k x=>(co_sz x (fo (F.L.take k))).mono (by have:=wts_take F.L k;have:=sm_wts h;omega)
def leL (R:List RowV) (x:Int):Nat:=(R.filter fun r=>decide (r.1≤x)).length
theorem leL_add {last v:Int} (hlv:last < v):∀ {R:List RowV},(∀ r∈R,last < r.1→v≤r.1)→leL R v=leL R last+(R.filter fun r=>decide (r.1=v)).length
 | [],_=>rfl
 | r :: R,h=>by
  have ih:=leL_add hlv (R:=R) fun s hs=>h s (List.mem_cons_of_mem _ hs)
  have hr:=h r List.mem_cons_self
  unfold leL at *
  simp only [List.filter_cons]
  by_cases h1:r.1≤last
  ·have h2:r.1≤v:=by omega
   have h3:¬ r.1=v:=by omega
   simp only [h1,h2,h3,decide_true,decide_false,if_true,if_false,List.length_cons,Bool.false_eq_true]
   omega
  ·have h2:=hr (by omega)
   by_cases h3:r.1=v
   ·have h4:r.1≤v:=by omega
    simp only [h1,h4,h3,Int.le_refl,decide_true,decide_false,if_true,if_false,List.length_cons,Bool.false_eq_true] at *
    simp only [show ¬ v≤last by omega,decide_false,if_false,Bool.false_eq_true]
    omega
   ·have h4:¬ r.1≤v:=by omega
    simp only [h1,h4,h3,decide_true,decide_false,if_true,if_false,List.length_cons,Bool.false_eq_true]
    omega
theorem one_eq {v:Int}:∀ {R:List RowV},onceK R→∀ {X:FV},(v,X)∈R→(R.filter fun r=>decide (r.1=v)).length=1
 | [],_,X,h=>by simp at h
 | r :: R,hK,X,h=>by
  have h1:=List.pairwise_cons.1 hK
  simp only [List.filter_cons]
  by_cases e:r.1=v
  ·have h2:R.filter (fun r=>decide (r.1=v))=[]:=List.filter_eq_nil_iff.2 fun s hs=>by
    have:=h1.1 s hs
    simp
    omega
   simp [e,h2]
  ·rcases List.mem_cons.1 h with rfl | h
   ·exact absurd rfl e
   ·have:=one_eq h1.2 h
    simp [e,this]
theorem leL_more {R:List RowV} {x:Int} (h:leL R x < R.length):∃ r∈R,x < r.1:=by
 by_cases hc:∃ r∈R,x < r.1
 ·exact hc
 ·exfalso
  have:R.filter (fun r=>decide (r.1≤x))=R:=List.filter_eq_self.2 fun r hr=>by
   have:¬ x < r.1:=fun h=>hc ⟨r,hr,h⟩
   simp
   omega
  unfold leL at h
  rw [this] at h
  omega
theorem leL_all {R:List RowV} {x:Int} (h:R.length≤leL R x):∀ r∈R,r.1≤x:=by
 intro r hr
 unfold leL at h
 have h1:=(List.filter_sublist (p:=fun r:RowV=>decide (r.1≤x)) (l:=R)).eq_of_length_le h
 rw [←h1] at hr
 simpa using (List.mem_filter.1 hr).2
theorem onceK_tb {R:List RowV}:onceK (tb R)↔onceK R:=by
 unfold onceK tb
 rw [List.pairwise_map]
structure SoS (R S:List RowV) (last:Int):Prop where
 rise:rising S
 upto:∀ p∈S,p.1≤last
 says:∀ v,(lk S v).map FV.fo=if v≤last then (lk (tb R) v).map nfm else none
 len:S.length=leL R last
theorem SoS.start {R:List RowV} (h:∀ r∈R,0≤r.1):SoS R [] (-1):=by
 refine ⟨List.Pairwise.nil,fun p hp=>absurd hp (by simp),fun v=>?_,?_⟩
 ·split
  ·have:lk (tb R) v=none:=lk_none.2 fun r hr=>by
    obtain ⟨s,hs,rfl⟩:=List.mem_map.1 hr
    have:=h s hs
    simp only
    omega
   rw [this]
   rfl
  ·rfl
 ·unfold leL
  rw [List.filter_eq_nil_iff.2 fun r hr=>by have:=h r hr;simp;omega]
theorem SoS.step {R S:List RowV} {last:Int} (h:SoS R S last) (hK:onceK (tb R)) {v:Int} {X F:FV} (hm:(v,X)∈R) (hv:last < v) (hmin:∀ r∈R,last < r.1→v≤r.1) (he:F.fo=nfm X.fo):SoS R (S ++ [(v,F)]) v:=by
 refine ⟨List.pairwise_append.2 ⟨h.rise,by simp,fun a ha b hb=>by rw [List.mem_singleton.1 hb];have:=h.upto a ha;simp only;omega⟩,fun p hp=>?_,fun u=>?_,?_⟩
 ·rcases List.mem_append.1 hp with hp | hp
  ·have:=h.upto p hp;omega
  ·rw [List.mem_singleton.1 hp];exact Int.le_refl _
 ·rw [lk_append]
  have hs:=h.says u
  have hone:lk [(v,F)] u=if v=u then some F else none:=rfl
  by_cases h1:u≤last
  ·rw [if_pos h1] at hs
   rw [if_pos (by omega),hone,if_neg (by omega)]
   cases hl:lk S u <;> rw [hl] at hs <;> rw [←hs] <;> rfl
  ·rw [if_neg h1] at hs
   have hl:lk S u=none:=by cases hl:lk S u with | none=>rfl | some z=>rw [hl] at hs;cases hs
   rw [hl,hone]
   by_cases h2:v=u
   ·subst h2
    rw [if_pos rfl,if_pos (Int.le_refl _),lk_of_mem hK (List.mem_map.2 ⟨_,hm,rfl⟩)]
    show some F.fo=some (nfm X.fo)
    rw [he]
   ·rw [if_neg h2]
    by_cases h3:u≤v
    ·rw [if_pos h3]
     have:lk (tb R) u=none:=lk_none.2 fun r hr e=>by
      obtain ⟨s,hs2,rfl⟩:=List.mem_map.1 hr
      have:=hmin s hs2
      simp only at e
      omega
     rw [this]
     rfl
    ·rw [if_neg h3]
     rfl
 ·rw [List.length_append,leL_add hv hmin,one_eq (onceK_tb.1 hK) hm,h.len]
  simp
theorem SoS.done {R S:List RowV} {last:Int} (h:SoS R S last) (hl:R.length≤S.length):NrmT (tb R) (tb S):=by
 rw [h.len] at hl
 have ha:=leL_all hl
 refine ⟨by unfold rising tb;exact List.pairwise_map.2 h.rise,fun v=>?_⟩
 rw [tb_lk,h.says v]
 by_cases h1:v≤last
 ·rw [if_pos h1]
 ·rw [if_neg h1]
  have:lk (tb R) v=none:=lk_none.2 fun r hr e=>by
   obtain ⟨s,hs,rfl⟩:=List.mem_map.1 hr
   have:=ha s hs
   simp only at e
   omega
  rw [this]
  rfl
def InS (R:List RowV) (last:Int) (i:Nat) (at_:Int):Prop :=
 (at_ = -1∧∀ j r,j < i→R[j]?=some r→r.1≤last)∨∃ (m:Nat) (s:RowV),at_=(m:Int)∧R[m]?=some s∧last < s.1∧∀ j r,j < i→R[j]?=some r→last < r.1→s.1≤r.1
theorem InS.low {R:List RowV} {last at_:Int} {i:Nat} (h:InS R last i at_) {r:RowV} (hr:R[i]?=some r) (hv:r.1≤last):InS R last (i+1) at_:=by
 rcases h with ⟨h1,h2⟩ | ⟨m,s,h1,h2,h3,h4⟩
 ·refine Or.inl ⟨h1,fun j q hj hq=>?_⟩
  by_cases e:j=i
  ·subst e;rw [hr] at hq;cases hq;exact hv
  ·exact h2 j q (by omega) hq
 ·refine Or.inr ⟨m,s,h1,h2,h3,fun j q hj hq hl=>?_⟩
  by_cases e:j=i
  ·subst e;rw [hr] at hq;cases hq;omega
  ·exact h4 j q (by omega) hq hl
theorem InS.keep {R:List RowV} {last:Int} {i m:Nat} {s:RowV} (h:InS R last i (m:Int)) (hs:R[m]?=some s) {r:RowV} (hr:R[i]?=some r) (hv:s.1≤r.1):InS R last (i+1) (m:Int):=by
 rcases h with ⟨h1,h2⟩ | ⟨m',s',h1,h2,h3,h4⟩
 ·omega
 ·obtain rfl:m=m':=by omega
  rw [hs] at h2
  cases h2
  refine Or.inr ⟨m,s,rfl,hs,h3,fun j q hj hq hl=>?_⟩
  by_cases e:j=i
  ·subst e;rw [hr] at hq;cases hq;exact hv
  ·exact h4 j q (by omega) hq hl
theorem InS.first {R:List RowV} {last:Int} {i:Nat} (h:InS R last i (-1)) {r:RowV} (hr:R[i]?=some r) (hv:last < r.1):InS R last (i+1) (i:Int):=by
 rcases h with ⟨h1,h2⟩ | ⟨m',s',h1,h2,h3,h4⟩
 ·refine Or.inr ⟨i,r,rfl,hr,hv,fun j q hj hq hl=>?_⟩
  by_cases e:j=i
  ·subst e;rw [hr] at hq;cases hq;exact Int.le_refl _
  ·have:=h2 j q (by omega) hq;omega
 ·omega
theorem InS.less {R:List RowV} {last:Int} {i m:Nat} {s:RowV} (h:InS R last i (m:Int)) (hs:R[m]?=some s) {r:RowV} (hr:R[i]?=some r) (hl0:last < r.1) (hv:r.1 < s.1):InS R last (i+1) (i:Int):=by
 rcases h with ⟨h1,h2⟩ | ⟨m',s',h1,h2,h3,h4⟩
 ·omega
 ·obtain rfl:m=m':=by omega
  rw [hs] at h2
  cases h2
  refine Or.inr ⟨i,r,rfl,hr,hl0,fun j q hj hq hl=>?_⟩
  by_cases e:j=i
  ·subst e;rw [hr] at hq;cases hq;exact Int.le_refl _
  ·have:=h4 j q (by omega) hq hl;omega
theorem ToI.congr {w w2:World} {q:Nat} {V:Int} {S S':List RowV} {k:Nat} {vo:Value} {wr:World} (h:ToI w w2 q V S k vo wr) (e:S.take k=S'.take k):ToI w w2 q V S' k vo wr:=⟨h.bel,h.but,by rw [←e];exact h.own,h.c0,h.c1,h.row⟩
def SoA (w:World) (V:Int) (R:List RowV) (e:Ending) (w':World):Prop:=∃ v S,e=.returned v∧TbA w V S v w'∧NrmT (tb R) (tb S)∧S.length=R.length
def SoB (w:World) (V:Int) (R:List RowV) (e:Ending) (w':World):Prop:=∃ (ar:Option Addr) (cr:Nat) (S:List RowV) (base:Nat),e=.returned (.agg #[.int .i64 V,.slice ar S.length cr])∧TbA w V S (.agg #[.int .i64 V,.slice ar S.length cr]) w'∧NrmT (tb R) (tb S)∧S.length=R.length∧w.heap.size≤base∧base≤w'.heap.size ∧
 w'.ownsRow base 46 2 (.slice ar S.length cr) S.length (cellsR S)∧∀ r∈S,r.2.nk w'∧∀ b,(Value.slice ar S.length cr).ownBlock=some b→r.2.off b
theorem SoB.soA {w:World} {V:Int} {R:List RowV} {e:Ending} {w':World} (h:SoB w V R e w'):SoA w V R e w':=by
 obtain ⟨ar,cr,S,base,h1,h2,h3,h4,_⟩:=h
 exact ⟨_,S,h1,h2,h3,h4⟩
theorem own_set7 {w:World} {base:Nat} {e:TypeId} {size:Nat} {v:Value} {n:Nat} {xs:List Value} {c o:Nat} {u:Value} (h:w.ownsRow base e size v n xs) (hne:v.ownBlock≠some c):(w.setCell ⟨c,o,none⟩ u).ownsRow base e size v n xs:=by
 refine ⟨h.1,?_⟩
 rcases h.2 with h0 | ⟨g,cap,cur,hv,hg,hc,rest⟩
 ·exact Or.inl h0
 ·refine Or.inr ⟨g,cap,cur,hv,hg,?_,rest⟩
  rw [heap_setCell_other w ⟨c,o,none⟩ g u (fun e=>hne (by rw [hv,e];rfl))]
  exact hc
structure SoM (w w2:World) (q:Nat) (V:Int) (R:List RowV) (S:List RowV) (last:Int) (vo:Value) (wr:World):Prop where
 tol:ToI w w2 q V S S.length vo wr
 so:SoS R S last
 nk:∀ r∈S,r.2.nk wr∧r.2.frm w2.heap.size∧∀ b,vo.ownBlock=some b→r.2.off b
 wf:∀ r∈S,wfI r.1
theorem far1 {w:World} {q o b off:Nat} {u v:Value} (h:w.cell? ⟨b,off,none⟩=some v) (hne:b≠q):(w.setCell ⟨q,o,none⟩ u).cell? ⟨b,off,none⟩=some v:=(World.cell?_setCell_other _ _ _ _ (fun e=>hne (congrArg Addr.block e).symm)).trans h
theorem FV.nk.setq {w:World} {F:FV} {q o:Nat} {u:Value} (h:F.nk w) (hf:F.off q):F.nk (w.setCell ⟨q,o,none⟩ u) :=
 h.grown (row:=some q) ⟨rfl,rfl,rfl,by simp [World.setCell],fun i hi hne=>Below.heap_setCell _ _ _ _ (fun e=>hne (by rw [e]))⟩ fun g e=>by injection e with e;subst e;exact hf
theorem SoM.push {w w2:World} {q:Nat} {V:Int} {R S:List RowV} {last:Int} {vo:Value} {wr wB w9:World} (h:SoM w w2 q V R S last vo wr) (hq:w.heap.size≤q∧q < w2.heap.size) (hw:w.heap.size≤w2.heap.size) (hb:Below wr.heap.size wr wB)
  (hK:onceK (tb R)) {v:Int} {X F:FV} (hm:(v,X)∈R) (hv:last < v) (hmin:∀ r∈R,last < r.1→v≤r.1) (he:F.fo=nfm X.fo) (hF:F.nk wB) (hFf:F.frm wr.heap.size) (hwf:wfI v) {gb cap:Nat}
  (hown:w9.ownsRow w2.heap.size 46 2 (.slice (some ⟨gb,0,none⟩) (S.length+1) cap) (S.length+1) (cellsR S ++ cells2 (v,F))) (hg:wB.grownBy w9 vo.ownBlock) (hat:vo.ownBlock=some gb∨gb=wB.heap.size) :
  w9.cell? ⟨q,1,none⟩=some vo∧Row w9 q∧SoM w w2 q V R (S ++ [(v,F)]) v (.slice (some ⟨gb,0,none⟩) (S.length+1) cap) (w9.setCell ⟨q,1,none⟩ (.slice (some ⟨gb,0,none⟩) (S.length+1) cap)):=by
 have hl:(S ++ [(v,F)]).length=S.length+1:=by simp
 have e1:(S ++ [(v,F)]).take S.length=S:=by simp
 have hat2:(S ++ [(v,F)])[S.length]?=some (v,F):=by simp
 obtain ⟨p1,p2,p3⟩:=(h.tol.congr (S':=S ++ [(v,F)]) (by rw [e1,List.take_length])).push hq hw hb hat2 (by rw [e1];exact hown) hg
 have hlt:=fun j (hj:vo.ownBlock=some j)=>h.tol.own.lt j hj
 have hsz:=h.tol.but.size
 have hall:∀ G:FV,G.nk wB→G.frm w2.heap.size→(∀ b,vo.ownBlock=some b→G.off b)→G.nk (w9.setCell ⟨q,1,none⟩ (.slice (some ⟨gb,0,none⟩) (S.length+1) cap))∧G.frm w2.heap.size∧∀ b,(Value.slice (some ⟨gb,0,none⟩) (S.length+1) cap).ownBlock=some b→G.off b:=by
  intro G hG hGf hGo
  refine ⟨(hG.grown hg hGo).setq (hGf.off hq.2),hGf,fun b hb2=>?_⟩
  have:gb=b:=by simpa [Value.ownBlock] using hb2
  subst this
  rcases hat with h | h
  ·exact hGo _ h
  ·exact hG.ok.off (by omega)
 refine ⟨p1,p2,by rw [hl];exact p3,h.so.step hK hm hv hmin he,fun r hr=>?_,fun r hr=>?_⟩
 ·rcases List.mem_append.1 hr with hr | hr
  ·obtain ⟨a1,a2,a3⟩:=h.nk r hr
   exact hall _ (a1.later hb) a2 a3
  ·rw [List.mem_singleton.1 hr]
   exact hall F hF (hFf.mono hsz) fun b hb2=>hFf.off (hlt b hb2).2
 ·rcases List.mem_append.1 hr with hr | hr
  ·exact h.wf r hr
  ·rw [List.mem_singleton.1 hr];exact hwf
set_option maxHeartbeats 16000000 in
set_option maxRecDepth 100000 in
theorem rsortedO_is (V:Int) (a:Option Addr) (c:Nat) (R:List RowV) (w:World) (hT:TSm w a R) (hc:R.length≤c) (hmb:mayBe V (tb R)) :
  Calls Tryz.prog 25 #[.agg #[.int .i64 V,.slice a R.length c]] w (SoB w V R):=by
 obtain ⟨i0,hi0,hz0,hz1,hz2⟩:=info_parts info_Row
 obtain ⟨TQ,hTQ⟩:∃ TQ,SoB w V R=TQ:=⟨_,rfl⟩
 rw [hTQ]
 replace hTQ:=xQ1 hTQ
 have hlen:=hT.len
 have HK:=xQ1 hmb.once
 have H0:=xQ1 (show ∀ r∈R,0≤r.1 from fun r hr=>(hmb.basic (r.1,r.2.fo) (List.mem_map.2 ⟨r,hr,rfl⟩)).1)
 have GN:=xQ1 (fun r (hr:r∈R) w' (hb:Below w.heap.size w w')=>rNormN_is r.2 w' ((hT.form hr).later hb))
 have HAt:=xQ1 hT.tin.at_
 have HWf:=xQ1 hT.tin.wf
 clear hT hmb
 have b1:=xQ2 (w:=w) (.cells #[.int .i64 V,.slice a R.length c] 24)
 have b2:=xQ2 (w:=w.alloc (.cells #[.int .i64 V,.slice a R.length c] 24)) (.cells #[.int .i64 0,.slice none 0 0] 24)
 have b3:=xQ2 (w:=(w.alloc (.cells #[.int .i64 V,.slice a R.length c] 24)).alloc (.cells #[.int .i64 0,.slice none 0 0] 24)) (.cells #[.int .i64 V,.slice none 0 0] 24)
 have hsz:(((w.alloc (.cells #[.int .i64 V,.slice a R.length c] 24)).alloc (.cells #[.int .i64 0,.slice none 0 0] 24)).alloc (.cells #[.int .i64 V,.slice none 0 0] 24)).heap.size=w.heap.size+1+1+1:=by simp
 have m0:(((w.alloc (.cells #[.int .i64 V,.slice a R.length c] 24)).alloc (.cells #[.int .i64 0,.slice none 0 0] 24)).alloc (.cells #[.int .i64 V,.slice none 0 0] 24)).cell? ⟨w.heap.size,0,none⟩=some (.int .i64 V):=by go_simp
 have m1:(((w.alloc (.cells #[.int .i64 V,.slice a R.length c] 24)).alloc (.cells #[.int .i64 0,.slice none 0 0] 24)).alloc (.cells #[.int .i64 V,.slice none 0 0] 24)).cell? ⟨w.heap.size,1,none⟩=some (.slice a R.length c):=by go_simp
 have z0:(((w.alloc (.cells #[.int .i64 V,.slice a R.length c] 24)).alloc (.cells #[.int .i64 0,.slice none 0 0] 24)).alloc (.cells #[.int .i64 V,.slice none 0 0] 24)).cell? ⟨w.heap.size+1,0,none⟩=some (.int .i64 0):=by go_simp
 have z1:(((w.alloc (.cells #[.int .i64 V,.slice a R.length c] 24)).alloc (.cells #[.int .i64 0,.slice none 0 0] 24)).alloc (.cells #[.int .i64 V,.slice none 0 0] 24)).cell? ⟨w.heap.size+1,1,none⟩=some (.slice none 0 0):=by go_simp
 have c0:(((w.alloc (.cells #[.int .i64 V,.slice a R.length c] 24)).alloc (.cells #[.int .i64 0,.slice none 0 0] 24)).alloc (.cells #[.int .i64 V,.slice none 0 0] 24)).cell? ⟨w.heap.size+1+1,0,none⟩=some (.int .i64 V):=by go_simp
 have c1:(((w.alloc (.cells #[.int .i64 V,.slice a R.length c] 24)).alloc (.cells #[.int .i64 0,.slice none 0 0] 24)).alloc (.cells #[.int .i64 V,.slice none 0 0] 24)).cell? ⟨w.heap.size+1+1,1,none⟩=some (.slice none 0 0):=by go_simp
 have rz:Row (((w.alloc (.cells #[.int .i64 V,.slice a R.length c] 24)).alloc (.cells #[.int .i64 0,.slice none 0 0] 24)).alloc (.cells #[.int .i64 V,.slice none 0 0] 24)) (w.heap.size+1):=by have:=xQ3 b3 (xQ9 (w.alloc (.cells #[.int .i64 V,.slice a R.length c] 24)) #[.int .i64 0,.slice none 0 0] 24);simpa using this
 have rq:Row (((w.alloc (.cells #[.int .i64 V,.slice a R.length c] 24)).alloc (.cells #[.int .i64 0,.slice none 0 0] 24)).alloc (.cells #[.int .i64 V,.slice none 0 0] 24)) (w.heap.size+1+1):=by have:=xQ9 ((w.alloc (.cells #[.int .i64 V,.slice a R.length c] 24)).alloc (.cells #[.int .i64 0,.slice none 0 0] 24)) #[.int .i64 V,.slice none 0 0] 24;simpa using this
 have hBw:=b1.trans ((b2.trans (b3.mono b2.size)).mono b1.size)
 clear b1 b2 b3
 go_enter Tryz.func25,Tryz.ntmps25
 go_wp2_with fail
 obtain ⟨w2,hw2⟩:∃ w2,(((w.alloc (.cells #[.int .i64 V,.slice a R.length c] 24)).alloc (.cells #[.int .i64 0,.slice none 0 0] 24)).alloc (.cells #[.int .i64 V,.slice none 0 0] 24))=w2:=⟨_,rfl⟩
 rw [hw2] at m0 m1 z0 z1 c0 c1 rz rq hBw hsz ⊢
 clear hw2
 obtain ⟨q,hq⟩:∃ q,w.heap.size+1+1=q:=⟨_,rfl⟩
 rw [hq] at c0 c1 rq hsz
 try rw [hq]
 obtain ⟨rb,hrb⟩:∃ rb,w.heap.size+1=rb:=⟨_,rfl⟩
 rw [hrb] at z0 z1 rz hq
 try rw [hrb]
 have HQ:=xQ1 (show (w.heap.size≤q∧q < w2.heap.size)∧w.heap.size≤w2.heap.size∧w.heap.size≠q∧w.heap.size≤rb∧rb≠q∧rb < w2.heap.size by omega)
 clear hq hrb hsz
 have I0:SoM w w2 q V R [] (-1) (.slice none 0 0) w2:=⟨⟨hBw,But.refl _ _,World.ownsRow_nil _ _ _ _,c0,c1,rq⟩,SoS.start H0.out,fun r hr=>absurd hr (by simp),fun r hr=>absurd hr (by simp)⟩
 have HZ:=xQ1 (show w2.cell? ⟨rb,0,none⟩=some (.int .i64 0)∧w2.cell? ⟨rb,1,none⟩=some (.slice none 0 0)∧Row w2 rb from ⟨z0,z1,rz⟩)
 have HM0:=xQ1 m0
 have HM1:=xQ1 m1
 clear c0 c1 rq z0 z1 rz hBw H0 m0 m1
 go_loopg [4] R.length (fun n vl wr=>∃ (last:Int) (S:List RowV) (vo:Value),n=R.length - S.length∧vl=.int .i64 last∧SoM w w2 q V R S last vo wr)
 case atStart=>exact ⟨-1,[],_,by simp,rfl,I0⟩
 case round =>
  clear I0
  obtain ⟨last,S,vo,hn,rfl,hI⟩:=hrel
  have HN:=xQ1 hn
  clear hn
  have hown:=hI.tol.own
  have eS:S.take S.length=S:=List.take_length
  rw [eS] at hown
  clear eS
  obtain ⟨ar,cr,rfl,hcr,hcm,hTA⟩:=own_tab hown
  have c0:=hI.tol.c0
  have c1:=hI.tol.c1
  have m0:=hI.tol.but.cell HM0.out HQ.out.2.2.1
  have m1:=hI.tol.but.cell HM1.out HQ.out.2.2.1
  have hBr:=hI.tol.bel
  have hSl:S.length≤R.length:=by rw [hI.so.len];exact List.length_filter_le _ _
  by_cases hlt:S.length < R.length
  ·have j0:(S.length:Int) < (R.length:Int):=by omega
   have HMo:=xQ1 (leL_more (x:=last) (by rw [←hI.so.len];exact hlt))
   have HI:=xQ1 hI
   have HOwn:=xQ1 hown
   clear hI hTA hown
   go_wp2_with fail
   obtain ⟨wo,rfl⟩:∃ wo,wo=wr:=⟨_,rfl⟩
   go_loopw [5,6] (fun va vi wq=>∃ (i:Nat) (at_:Int),i≤R.length∧vi=.int .i64 i∧va=.int .i64 at_∧InS R last i at_∧Below wo.heap.size wo wq) (fun _ vi _=>R.length - (intOf vi).toNat)
   case atStart=>exact ⟨0,-1,Nat.zero_le _,rfl,rfl,Or.inl ⟨rfl,fun j r hj=>absurd hj (by omega)⟩,Below.refl _ _⟩
   case round =>
    skip
    obtain ⟨i,at_,hi,rfl,rfl,hS,hBq⟩:=hrel
    have hBr2:=hBr.trans (hBq.mono hBr.size)
    replace m0:=xQ0 hBq m0
    replace m1:=xQ0 hBq m1
    have HS:=xQ1 hS
    by_cases hil:i < R.length
    ·obtain ⟨r,hr⟩:∃ r,R[i]?=some r:=⟨R[i],List.getElem?_eq_getElem hil⟩
     obtain ⟨bb,off,rfl,hbb,hcell⟩:=HAt.out (by intro e;rw [e] at hil;simp at hil)
     have d0:=xQ0 hBr2 (hcell i r hr).1
     have i1:(0:Int)≤(i:Int):=by omega
     have i2:(i:Int) < (R.length:Int):=by omega
     by_cases hv:r.1≤last
     ·have HX:=xQ1 (hS.low hr hv)
      obtain ⟨x,X⟩:=r
      simp only at d0 hv
      have hv1:¬ last < x:=by omega
      have hv2:(last < x)=False:=eq_false hv1
      clear hS hr hcell HS GN
      go_wp2_with fail
      have bD:Below wr.heap.size wr wr.drew:=(Below.refl _ _).drew
      have km0:=xQ0 bD m0
      have km1:=xQ0 bD m1
      have kd0:=xQ0 bD d0
      replace hBq:=hBq.trans (bD.mono hBq.size)
      refine wp_region_held_drew (S:=fun w'=>w'.cell? ⟨w.heap.size,0,none⟩=some (.int .i64 V)∧w'.cell? ⟨w.heap.size,1,none⟩=some (.slice (some ⟨bb,off,none⟩) R.length c)∧w'.cell? ⟨bb,off+i*2,none⟩=some (.int .i64 x)) (by kernel_rfl) ⟨km0,km1,kd0⟩ (fun hHeld=>?_)
      clear km0 km1 kd0
      generalize wr.drew=w4 at bD hBq hHeld ⊢
      clear m0 m1 d0
      refine tk 0 (v:=?_) rfl (Or.inl ⟨by rfl,?_⟩) ?_
      rotate_left
      ·intro w9 hSw
       go_simp
       try with_reducible rfl
      simp only [pA]
      refine tk 1 (v:=?_) rfl (Or.inl ⟨by rfl,?_⟩) ?_
      rotate_left
      ·intro w9 hSw
       go_simp
       try with_reducible rfl
      simp only [pA]
      refine tk 2 (v:=?_) rfl (Or.inl ⟨by rfl,?_⟩) ?_
      rotate_left
      ·intro w9 hSw
       go_simp
       try with_reducible rfl
      simp only [pA]
      refine tk 3 (v:=?_) rfl (Or.inl ⟨by rfl,?_⟩) ?_
      rotate_left
      ·intro w9 hSw
       go_simp
       try with_reducible rfl
      simp only [pA]
      refine tk 4 (v:=?_) rfl (Or.inl ⟨by rfl,?_⟩) ?_
      rotate_left
      ·intro w9 hSw
       go_simp
       try with_reducible rfl
      simp only [pA]
      refine tk 5 (v:=?_) rfl (Or.inl ⟨by rfl,?_⟩) ?_
      rotate_left
      ·intro w9 hSw
       go_simp
       try with_reducible rfl
      simp only [pA]
      refine tk 6 (v:=?_) rfl (Or.inl ⟨by rfl,?_⟩) ?_
      rotate_left
      ·intro w9 hSw
       go_simp
       try with_reducible rfl
      simp only [pA]
      refine tk 7 (v:=?_) rfl (Or.inl ⟨by rfl,?_⟩) ?_
      rotate_left
      ·intro w9 hSw
       go_simp
       try with_reducible rfl
      simp only [pA]
      refine tk 8 (v:=?_) rfl (Or.inl ⟨by rfl,?_⟩) ?_
      rotate_left
      ·intro w9 hSw
       go_simp
       try with_reducible rfl
      simp only [pA]
      refine tk 9 (v:=undef) rfl (Or.inr ⟨by rfl,rfl⟩) ?_
      simp only [pA]
      refine tk 10 (v:=undef) rfl (Or.inr ⟨by rfl,rfl⟩) ?_
      simp only [pA]
      refine tk 11 (v:=undef) rfl (Or.inr ⟨by rfl,rfl⟩) ?_
      simp only [pA]
      refine tk 12 (v:=undef) rfl (Or.inr ⟨by rfl,rfl⟩) ?_
      simp only [pA]
      refine tk 13 (v:=undef) rfl (Or.inr ⟨by rfl,rfl⟩) ?_
      simp only [pA]
      refine tk 14 (v:=undef) rfl (Or.inr ⟨by rfl,rfl⟩) ?_
      simp only [pA]
      refine tk 15 (v:=undef) rfl (Or.inr ⟨by rfl,rfl⟩) ?_
      simp only [pA]
      refine tk 16 (v:=undef) rfl (Or.inr ⟨by rfl,rfl⟩) ?_
      simp only [pA]
      refine tk 17 (v:=undef) rfl (Or.inr ⟨by rfl,rfl⟩) ?_
      simp only [pA]
      refine tk 18 (v:=undef) rfl (Or.inr ⟨by rfl,rfl⟩) ?_
      simp only [pA]
      refine tk 19 (v:=undef) rfl (Or.inr ⟨by rfl,rfl⟩) ?_
      simp only [pA]
      refine tk 20 (v:=undef) rfl (Or.inr ⟨by rfl,rfl⟩) ?_
      simp only [pA]
      refine tk 21 (v:=undef) rfl (Or.inr ⟨by rfl,rfl⟩) ?_
      simp only [pA]
      refine tk 22 (v:=undef) rfl (Or.inr ⟨by rfl,rfl⟩) ?_
      simp only [pA]
      refine tk 23 (v:=undef) rfl (Or.inr ⟨by rfl,rfl⟩) ?_
      simp only [pA]
      refine tk 24 (v:=undef) rfl (Or.inr ⟨by rfl,rfl⟩) ?_
      simp only [pA]
      refine tk 25 (v:=undef) rfl (Or.inr ⟨by rfl,rfl⟩) ?_
      simp only [pA]
      refine tk 26 (v:=?_) rfl (Or.inl ⟨by rfl,?_⟩) ?_
      rotate_left
      ·intro w9 hSw
       go_simp
       try with_reducible rfl
      simp only [pA]
      refine wpAnyH_done (by kernel_rfl) ?_ _
      go_wp2
      go_roundw
      case rel=>exact ⟨i+1,_,by omega,by go_num,rfl,HX.out,hBq⟩
      case measure=>simp only [intOf];omega
     ·obtain ⟨x,X⟩:=r
      simp only at d0 hv
      have hv1:last < x:=by omega
      by_cases hneg:at_ < 0
      ·obtain rfl:at_ = -1:=by rcases hS with ⟨h1,_⟩ | ⟨m,s9,h1,_⟩ <;> omega
       have HX:=xQ1 (hS.first hr hv1)
       clear hS hr hcell HS GN hneg
       go_wp2_with fail
       have bD:Below wr.heap.size wr wr.drew:=(Below.refl _ _).drew
       have km0:=xQ0 bD m0
       have km1:=xQ0 bD m1
       have kd0:=xQ0 bD d0
       replace hBq:=hBq.trans (bD.mono hBq.size)
       refine wp_region_held_drew (S:=fun w'=>w'.cell? ⟨w.heap.size,0,none⟩=some (.int .i64 V)∧w'.cell? ⟨w.heap.size,1,none⟩=some (.slice (some ⟨bb,off,none⟩) R.length c)∧w'.cell? ⟨bb,off+i*2,none⟩=some (.int .i64 x)) (by kernel_rfl) ⟨km0,km1,kd0⟩ (fun hHeld=>?_)
       clear km0 km1 kd0
       generalize wr.drew=w4 at bD hBq hHeld ⊢
       clear m0 m1 d0
       refine tk 0 (v:=?_) rfl (Or.inl ⟨by rfl,?_⟩) ?_
       rotate_left
       ·intro w9 hSw
        go_simp
        try with_reducible rfl
       simp only [pA]
       refine tk 1 (v:=?_) rfl (Or.inl ⟨by rfl,?_⟩) ?_
       rotate_left
       ·intro w9 hSw
        go_simp
        try with_reducible rfl
       simp only [pA]
       refine tk 2 (v:=?_) rfl (Or.inl ⟨by rfl,?_⟩) ?_
       rotate_left
       ·intro w9 hSw
        go_simp
        try with_reducible rfl
       simp only [pA]
       refine tk 3 (v:=?_) rfl (Or.inl ⟨by rfl,?_⟩) ?_
       rotate_left
       ·intro w9 hSw
        go_simp
        try with_reducible rfl
       simp only [pA]
       refine tk 4 (v:=?_) rfl (Or.inl ⟨by rfl,?_⟩) ?_
       rotate_left
       ·intro w9 hSw
        go_simp
        try with_reducible rfl
       simp only [pA]
       refine tk 5 (v:=?_) rfl (Or.inl ⟨by rfl,?_⟩) ?_
       rotate_left
       ·intro w9 hSw
        go_simp
        try with_reducible rfl
       simp only [pA]
       refine tk 6 (v:=?_) rfl (Or.inl ⟨by rfl,?_⟩) ?_
       rotate_left
       ·intro w9 hSw
        go_simp
        try with_reducible rfl
       simp only [pA]
       refine tk 7 (v:=?_) rfl (Or.inl ⟨by rfl,?_⟩) ?_
       rotate_left
       ·intro w9 hSw
        go_simp
        try with_reducible rfl
       simp only [pA]
       refine tk 8 (v:=?_) rfl (Or.inl ⟨by rfl,?_⟩) ?_
       rotate_left
       ·intro w9 hSw
        go_simp
        try with_reducible rfl
       simp only [pA]
       refine tk 9 (v:=?_) rfl (Or.inl ⟨by rfl,?_⟩) ?_
       rotate_left
       ·intro w9 hSw
        go_simp
        try with_reducible rfl
       simp only [pA]
       refine tk 10 (v:=?_) rfl (Or.inl ⟨by rfl,?_⟩) ?_
       rotate_left
       ·intro w9 hSw
        go_simp
        try with_reducible rfl
       simp only [pA]
       refine tk 11 (v:=?_) rfl (Or.inl ⟨by rfl,?_⟩) ?_
       rotate_left
       ·intro w9 hSw
        go_simp
        try with_reducible rfl
       simp only [pA]
       refine tk 12 (v:=undef) rfl (Or.inr ⟨by rfl,rfl⟩) ?_
       simp only [pA]
       refine tk 13 (v:=undef) rfl (Or.inr ⟨by rfl,rfl⟩) ?_
       simp only [pA]
       refine tk 14 (v:=undef) rfl (Or.inr ⟨by rfl,rfl⟩) ?_
       simp only [pA]
       refine tk 15 (v:=undef) rfl (Or.inr ⟨by rfl,rfl⟩) ?_
       simp only [pA]
       refine tk 16 (v:=undef) rfl (Or.inr ⟨by rfl,rfl⟩) ?_
       simp only [pA]
       refine tk 17 (v:=undef) rfl (Or.inr ⟨by rfl,rfl⟩) ?_
       simp only [pA]
       refine tk 18 (v:=undef) rfl (Or.inr ⟨by rfl,rfl⟩) ?_
       simp only [pA]
       refine tk 19 (v:=undef) rfl (Or.inr ⟨by rfl,rfl⟩) ?_
       simp only [pA]
       refine tk 20 (v:=undef) rfl (Or.inr ⟨by rfl,rfl⟩) ?_
       simp only [pA]
       refine tk 21 (v:=undef) rfl (Or.inr ⟨by rfl,rfl⟩) ?_
       simp only [pA]
       refine tk 22 (v:=undef) rfl (Or.inr ⟨by rfl,rfl⟩) ?_
       simp only [pA]
       refine tk 23 (v:=undef) rfl (Or.inr ⟨by rfl,rfl⟩) ?_
       simp only [pA]
       refine tk 24 (v:=undef) rfl (Or.inr ⟨by rfl,rfl⟩) ?_
       simp only [pA]
       refine tk 25 (v:=?_) rfl (Or.inl ⟨by rfl,?_⟩) ?_
       rotate_left
       ·intro w9 hSw
        go_simp
        try with_reducible rfl
       simp only [pA]
       refine tk 26 (v:=?_) rfl (Or.inl ⟨by rfl,?_⟩) ?_
       rotate_left
       ·intro w9 hSw
        go_simp
        try with_reducible rfl
       simp only [pA]
       refine wpAnyH_done (by kernel_rfl) ?_ _
       go_wp2
       go_roundw
       case rel=>exact ⟨i+1,_,by omega,by go_num,rfl,HX.out,hBq⟩
       case measure=>simp only [intOf];omega
      ·obtain ⟨m,s9,rfl,hs9,hl9,_⟩:∃ (m:Nat) (s9:RowV),at_=(m:Int)∧R[m]?=some s9∧last < s9.1∧True:=by
        rcases hS with ⟨h1,_⟩ | ⟨m,s9,h1,h2,h3,_⟩
        ·omega
        ·exact ⟨m,s9,h1,h2,h3,trivial⟩
       have e0:=xQ0 hBr2 (hcell m s9 hs9).1
       have hml:m < R.length:=(List.getElem?_eq_some_iff.1 hs9).1
       have i3:(0:Int)≤(m:Int):=by omega
       have i4:(m:Int) < (R.length:Int):=by omega
       have i5:((m:Int) < 0)=False:=eq_false (by omega)
       obtain ⟨y,Y⟩:=s9
       simp only at e0 hl9
       by_cases hxy:x < y
       ·have HX:=xQ1 (hS.less hs9 hr hv1 hxy)
        clear hS hr hs9 hcell HS GN hneg
        go_wp2_with fail
        have bD:Below wr.heap.size wr wr.drew:=(Below.refl _ _).drew
        have km0:=xQ0 bD m0
        have km1:=xQ0 bD m1
        have kd0:=xQ0 bD d0
        have ke0:=xQ0 bD e0
        replace hBq:=hBq.trans (bD.mono hBq.size)
        refine wp_region_held_drew (S:=fun w'=>w'.cell? ⟨w.heap.size,0,none⟩=some (.int .i64 V)∧w'.cell? ⟨w.heap.size,1,none⟩=some (.slice (some ⟨bb,off,none⟩) R.length c)∧w'.cell? ⟨bb,off+i*2,none⟩=some (.int .i64 x)∧w'.cell? ⟨bb,off+m*2,none⟩=some (.int .i64 y)) (by kernel_rfl) ⟨km0,km1,kd0,ke0⟩ (fun hHeld=>?_)
        clear km0 km1 kd0 ke0
        generalize wr.drew=w4 at bD hBq hHeld ⊢
        clear m0 m1 d0 e0
        refine tk 0 (v:=?_) rfl (Or.inl ⟨by rfl,?_⟩) ?_
        rotate_left
        ·intro w9 hSw
         go_simp
         try with_reducible rfl
        simp only [pA]
        refine tk 1 (v:=?_) rfl (Or.inl ⟨by rfl,?_⟩) ?_
        rotate_left
        ·intro w9 hSw
         go_simp
         try with_reducible rfl
        simp only [pA]
        refine tk 2 (v:=?_) rfl (Or.inl ⟨by rfl,?_⟩) ?_
        rotate_left
        ·intro w9 hSw
         go_simp
         try with_reducible rfl
        simp only [pA]
        refine tk 3 (v:=?_) rfl (Or.inl ⟨by rfl,?_⟩) ?_
        rotate_left
        ·intro w9 hSw
         go_simp
         try with_reducible rfl
        simp only [pA]
        refine tk 4 (v:=?_) rfl (Or.inl ⟨by rfl,?_⟩) ?_
        rotate_left
        ·intro w9 hSw
         go_simp
         try with_reducible rfl
        simp only [pA]
        refine tk 5 (v:=?_) rfl (Or.inl ⟨by rfl,?_⟩) ?_
        rotate_left
        ·intro w9 hSw
         go_simp
         try with_reducible rfl
        simp only [pA]
        refine tk 6 (v:=?_) rfl (Or.inl ⟨by rfl,?_⟩) ?_
        rotate_left
        ·intro w9 hSw
         go_simp
         try with_reducible rfl
        simp only [pA]
        refine tk 7 (v:=?_) rfl (Or.inl ⟨by rfl,?_⟩) ?_
        rotate_left
        ·intro w9 hSw
         go_simp
         try with_reducible rfl
        simp only [pA]
        refine tk 8 (v:=?_) rfl (Or.inl ⟨by rfl,?_⟩) ?_
        rotate_left
        ·intro w9 hSw
         go_simp
         try with_reducible rfl
        simp only [pA]
        refine tk 9 (v:=?_) rfl (Or.inl ⟨by rfl,?_⟩) ?_
        rotate_left
        ·intro w9 hSw
         go_simp
         try with_reducible rfl
        simp only [pA]
        refine tk 10 (v:=?_) rfl (Or.inl ⟨by rfl,?_⟩) ?_
        rotate_left
        ·intro w9 hSw
         go_simp
         try with_reducible rfl
        simp only [pA]
        refine tk 11 (v:=?_) rfl (Or.inl ⟨by rfl,?_⟩) ?_
        rotate_left
        ·intro w9 hSw
         go_simp
         try with_reducible rfl
        simp only [pA]
        refine tk 12 (v:=?_) rfl (Or.inl ⟨by rfl,?_⟩) ?_
        rotate_left
        ·intro w9 hSw
         go_simp
         try with_reducible rfl
        simp only [pA]
        refine tk 13 (v:=?_) rfl (Or.inl ⟨by rfl,?_⟩) ?_
        rotate_left
        ·intro w9 hSw
         go_simp
         try with_reducible rfl
        simp only [pA]
        refine tk 14 (v:=?_) rfl (Or.inl ⟨by rfl,?_⟩) ?_
        rotate_left
        ·intro w9 hSw
         go_simp
         try with_reducible rfl
        simp only [pA]
        refine tk 15 (v:=?_) rfl (Or.inl ⟨by rfl,?_⟩) ?_
        rotate_left
        ·intro w9 hSw
         go_simp
         try with_reducible rfl
        simp only [pA]
        refine tk 16 (v:=?_) rfl (Or.inl ⟨by rfl,?_⟩) ?_
        rotate_left
        ·intro w9 hSw
         go_simp
         try with_reducible rfl
        simp only [pA]
        refine tk 17 (v:=?_) rfl (Or.inl ⟨by rfl,?_⟩) ?_
        rotate_left
        ·intro w9 hSw
         go_simp
         try with_reducible rfl
        simp only [pA]
        refine tk 18 (v:=?_) rfl (Or.inl ⟨by rfl,?_⟩) ?_
        rotate_left
        ·intro w9 hSw
         go_simp
         try with_reducible rfl
        simp only [pA]
        refine tk 19 (v:=?_) rfl (Or.inl ⟨by rfl,?_⟩) ?_
        rotate_left
        ·intro w9 hSw
         go_simp
         try with_reducible rfl
        simp only [pA]
        refine tk 20 (v:=?_) rfl (Or.inl ⟨by rfl,?_⟩) ?_
        rotate_left
        ·intro w9 hSw
         go_simp
         try with_reducible rfl
        simp only [pA]
        refine tk 21 (v:=?_) rfl (Or.inl ⟨by rfl,?_⟩) ?_
        rotate_left
        ·intro w9 hSw
         go_simp
         try with_reducible rfl
        simp only [pA]
        refine tk 22 (v:=?_) rfl (Or.inl ⟨by rfl,?_⟩) ?_
        rotate_left
        ·intro w9 hSw
         go_simp
         try with_reducible rfl
        simp only [pA]
        refine tk 23 (v:=?_) rfl (Or.inl ⟨by rfl,?_⟩) ?_
        rotate_left
        ·intro w9 hSw
         go_simp
         try with_reducible rfl
        simp only [pA]
        refine tk 24 (v:=?_) rfl (Or.inl ⟨by rfl,?_⟩) ?_
        rotate_left
        ·intro w9 hSw
         go_simp
         try with_reducible rfl
        simp only [pA]
        refine tk 25 (v:=?_) rfl (Or.inl ⟨by rfl,?_⟩) ?_
        rotate_left
        ·intro w9 hSw
         go_simp
         try with_reducible rfl
        simp only [pA]
        refine tk 26 (v:=?_) rfl (Or.inl ⟨by rfl,?_⟩) ?_
        rotate_left
        ·intro w9 hSw
         go_simp
         try with_reducible rfl
        simp only [pA]
        refine wpAnyH_done (by kernel_rfl) ?_ _
        go_wp2
        go_roundw
        case rel=>exact ⟨i+1,_,by omega,by go_num,rfl,HX.out,hBq⟩
        case measure=>simp only [intOf];omega
       ·have HX:=xQ1 (hS.keep hs9 hr (by simp only;omega))
        clear hS hr hs9 hcell HS GN hneg
        have hxy2:(x < y)=False:=eq_false hxy
        go_wp2_with fail
        have bD:Below wr.heap.size wr wr.drew:=(Below.refl _ _).drew
        have km0:=xQ0 bD m0
        have km1:=xQ0 bD m1
        have kd0:=xQ0 bD d0
        have ke0:=xQ0 bD e0
        replace hBq:=hBq.trans (bD.mono hBq.size)
        refine wp_region_held_drew (S:=fun w'=>w'.cell? ⟨w.heap.size,0,none⟩=some (.int .i64 V)∧w'.cell? ⟨w.heap.size,1,none⟩=some (.slice (some ⟨bb,off,none⟩) R.length c)∧w'.cell? ⟨bb,off+i*2,none⟩=some (.int .i64 x)∧w'.cell? ⟨bb,off+m*2,none⟩=some (.int .i64 y)) (by kernel_rfl) ⟨km0,km1,kd0,ke0⟩ (fun hHeld=>?_)
        clear km0 km1 kd0 ke0
        generalize wr.drew=w4 at bD hBq hHeld ⊢
        clear m0 m1 d0 e0
        refine tk 0 (v:=?_) rfl (Or.inl ⟨by rfl,?_⟩) ?_
        rotate_left
        ·intro w9 hSw
         go_simp
         try with_reducible rfl
        simp only [pA]
        refine tk 1 (v:=?_) rfl (Or.inl ⟨by rfl,?_⟩) ?_
        rotate_left
        ·intro w9 hSw
         go_simp
         try with_reducible rfl
        simp only [pA]
        refine tk 2 (v:=?_) rfl (Or.inl ⟨by rfl,?_⟩) ?_
        rotate_left
        ·intro w9 hSw
         go_simp
         try with_reducible rfl
        simp only [pA]
        refine tk 3 (v:=?_) rfl (Or.inl ⟨by rfl,?_⟩) ?_
        rotate_left
        ·intro w9 hSw
         go_simp
         try with_reducible rfl
        simp only [pA]
        refine tk 4 (v:=?_) rfl (Or.inl ⟨by rfl,?_⟩) ?_
        rotate_left
        ·intro w9 hSw
         go_simp
         try with_reducible rfl
        simp only [pA]
        refine tk 5 (v:=?_) rfl (Or.inl ⟨by rfl,?_⟩) ?_
        rotate_left
        ·intro w9 hSw
         go_simp
         try with_reducible rfl
        simp only [pA]
        refine tk 6 (v:=?_) rfl (Or.inl ⟨by rfl,?_⟩) ?_
        rotate_left
        ·intro w9 hSw
         go_simp
         try with_reducible rfl
        simp only [pA]
        refine tk 7 (v:=?_) rfl (Or.inl ⟨by rfl,?_⟩) ?_
        rotate_left
        ·intro w9 hSw
         go_simp
         try with_reducible rfl
        simp only [pA]
        refine tk 8 (v:=?_) rfl (Or.inl ⟨by rfl,?_⟩) ?_
        rotate_left
        ·intro w9 hSw
         go_simp
         try with_reducible rfl
        simp only [pA]
        refine tk 9 (v:=?_) rfl (Or.inl ⟨by rfl,?_⟩) ?_
        rotate_left
        ·intro w9 hSw
         go_simp
         try with_reducible rfl
        simp only [pA]
        refine tk 10 (v:=?_) rfl (Or.inl ⟨by rfl,?_⟩) ?_
        rotate_left
        ·intro w9 hSw
         go_simp
         try with_reducible rfl
        simp only [pA]
        refine tk 11 (v:=?_) rfl (Or.inl ⟨by rfl,?_⟩) ?_
        rotate_left
        ·intro w9 hSw
         go_simp
         try with_reducible rfl
        simp only [pA]
        refine tk 12 (v:=?_) rfl (Or.inl ⟨by rfl,?_⟩) ?_
        rotate_left
        ·intro w9 hSw
         go_simp
         try with_reducible rfl
        simp only [pA]
        refine tk 13 (v:=?_) rfl (Or.inl ⟨by rfl,?_⟩) ?_
        rotate_left
        ·intro w9 hSw
         go_simp
         try with_reducible rfl
        simp only [pA]
        refine tk 14 (v:=?_) rfl (Or.inl ⟨by rfl,?_⟩) ?_
        rotate_left
        ·intro w9 hSw
         go_simp
         try with_reducible rfl
        simp only [pA]
        refine tk 15 (v:=?_) rfl (Or.inl ⟨by rfl,?_⟩) ?_
        rotate_left
        ·intro w9 hSw
         go_simp
         try with_reducible rfl
        simp only [pA]
        refine tk 16 (v:=?_) rfl (Or.inl ⟨by rfl,?_⟩) ?_
        rotate_left
        ·intro w9 hSw
         go_simp
         try with_reducible rfl
        simp only [pA]
        refine tk 17 (v:=?_) rfl (Or.inl ⟨by rfl,?_⟩) ?_
        rotate_left
        ·intro w9 hSw
         go_simp
         try with_reducible rfl
        simp only [pA]
        refine tk 18 (v:=?_) rfl (Or.inl ⟨by rfl,?_⟩) ?_
        rotate_left
        ·intro w9 hSw
         go_simp
         try with_reducible rfl
        simp only [pA]
        refine tk 19 (v:=?_) rfl (Or.inl ⟨by rfl,?_⟩) ?_
        rotate_left
        ·intro w9 hSw
         go_simp
         try with_reducible rfl
        simp only [pA]
        refine tk 20 (v:=?_) rfl (Or.inl ⟨by rfl,?_⟩) ?_
        rotate_left
        ·intro w9 hSw
         go_simp
         try with_reducible rfl
        simp only [pA]
        refine tk 21 (v:=?_) rfl (Or.inl ⟨by rfl,?_⟩) ?_
        rotate_left
        ·intro w9 hSw
         go_simp
         try with_reducible rfl
        simp only [pA]
        refine tk 22 (v:=?_) rfl (Or.inl ⟨by rfl,?_⟩) ?_
        rotate_left
        ·intro w9 hSw
         go_simp
         try with_reducible rfl
        simp only [pA]
        refine tk 23 (v:=?_) rfl (Or.inl ⟨by rfl,?_⟩) ?_
        rotate_left
        ·intro w9 hSw
         go_simp
         try with_reducible rfl
        simp only [pA]
        refine tk 24 (v:=?_) rfl (Or.inl ⟨by rfl,?_⟩) ?_
        rotate_left
        ·intro w9 hSw
         go_simp
         try with_reducible rfl
        simp only [pA]
        refine tk 25 (v:=?_) rfl (Or.inl ⟨by rfl,?_⟩) ?_
        rotate_left
        ·intro w9 hSw
         go_simp
         try with_reducible rfl
        simp only [pA]
        refine tk 26 (v:=?_) rfl (Or.inl ⟨by rfl,?_⟩) ?_
        rotate_left
        ·intro w9 hSw
         go_simp
         try with_reducible rfl
        simp only [pA]
        refine wpAnyH_done (by kernel_rfl) ?_ _
        go_wp2
        go_roundw
        case rel=>exact ⟨i+1,_,by omega,by go_num,rfl,HX.out,hBq⟩
        case measure=>simp only [intOf];omega
    ·obtain rfl:i=R.length:=by omega
     have i9:¬ (R.length:Int) < (R.length:Int):=by omega
     obtain ⟨m,s9,rfl,hs9,hl9,hmin⟩:∃ (m:Nat) (s9:RowV),at_=(m:Int)∧R[m]?=some s9∧last < s9.1∧∀ r∈R,last < r.1→s9.1≤r.1:=by
       rcases hS with ⟨h1,h2⟩ | ⟨m,s9,h1,h2,h3,h4⟩
       ·obtain ⟨r,hr,hr2⟩:=HMo.out
        obtain ⟨k,hk,rfl⟩:=List.mem_iff_getElem.1 hr
        have:=h2 k _ hk (List.getElem?_eq_getElem hk)
        omega
       ·refine ⟨m,s9,h1,h2,h3,fun r hr hr2=>?_⟩
        obtain ⟨k,hk,rfl⟩:=List.mem_iff_getElem.1 hr
        exact h4 k _ hk (List.getElem?_eq_getElem hk) hr2
     have hml:m < R.length:=(List.getElem?_eq_some_iff.1 hs9).1
     have hsm:=List.mem_of_getElem? hs9
     obtain ⟨bb,off,rfl,hbb,hcell⟩:=HAt.out (by intro e;rw [e] at hml;simp at hml)
     obtain ⟨d0,d1⟩:=hcell m s9 hs9
     replace d0:=xQ0 hBr2 d0
     replace d1:=xQ0 hBr2 d1
     have G1:=xQ1 (GN.out s9 hsm)
     have hwx:=HWf.out s9 hsm
     have HOw:=HOwn
     have PU:=xQ1 (fun wB w9 (hb:Below wo.heap.size wo wB) F he hF hFf gb cap hown hg hat=>HI.out.push (wB:=wB) (w9:=w9) (gb:=gb) (cap:=cap) (X:=s9.2) (F:=F) HQ.out.1 HQ.out.2.1 hb HK.out (v:=s9.1) hsm hl9 hmin he hF hFf hwx hown hg hat)
     have hsb:=HI.out.tol.but.size
     have hlt9:=fun j hj=>(HOwn.out.lt j hj)
     have hbq:bb≠q∧w.heap.size≠q:=by have:=HQ.out;omega
     obtain ⟨x,X⟩:=s9
     obtain ⟨Xa,Xc,XL⟩:=X
     unfold FV.val at d1 G1
     simp only at d0 d1 G1 PU hwx
     have i1:(0:Int)≤(m:Int):=by omega
     have i2:(m:Int) < (R.length:Int):=by omega
     clear hcell hs9 hmin hS HS GN HAt hsm hl9
     go_wp2_with fail
     have bT:=hBq
     have bD:Below wr.heap.size wr wr.drew:=(Below.refl _ _).drew
     have km0:=xQ0 bD m0
     have km1:=xQ0 bD m1
     have kd0:=xQ0 bD d0
     have kd1:=xQ0 bD d1
     replace bT:=bT.trans (bD.mono bT.size)
     refine wp_region_held_drew (S:=fun w'=>w'.cell? ⟨w.heap.size,0,none⟩=some (.int .i64 V)∧w'.cell? ⟨w.heap.size,1,none⟩=some (.slice (some ⟨bb,off,none⟩) R.length c)∧w'.cell? ⟨bb,off+m*2,none⟩=some (.int .i64 x)∧w'.cell? ⟨bb,off+m*2+1,none⟩=some (.slice Xa XL.length Xc)) (by kernel_rfl) ⟨km0,km1,kd0,kd1⟩ (fun hHeld=>?_)
     clear km0 km1 kd0 kd1
     generalize wr.drew=w4 at bD bT hHeld ⊢
     clear bD m0 m1 d0 d1
     refine tk 0 (v:=?_) rfl (Or.inl ⟨by rfl,?_⟩) ?_
     rotate_left
     ·intro w9 hSw
      go_simp
      try with_reducible rfl
     simp only [pA]
     refine tk 2 (v:=?_) rfl (Or.inl ⟨by rfl,?_⟩) ?_
     rotate_left
     ·intro w9 hSw
      go_simp
      try with_reducible rfl
     simp only [pA]
     refine tk 3 (v:=?_) rfl (Or.inl ⟨by rfl,?_⟩) ?_
     rotate_left
     ·intro w9 hSw
      go_simp
      try with_reducible rfl
     simp only [pA]
     refine tk 4 (v:=?_) rfl (Or.inl ⟨by rfl,?_⟩) ?_
     rotate_left
     ·intro w9 hSw
      go_simp
      try with_reducible rfl
     simp only [pA]
     refine tk 5 (v:=?_) rfl (Or.inl ⟨by rfl,?_⟩) ?_
     rotate_left
     ·intro w9 hSw
      go_simp
      try with_reducible rfl
     simp only [pA]
     refine tk 6 (v:=?_) rfl (Or.inl ⟨by rfl,?_⟩) ?_
     rotate_left
     ·intro w9 hSw
      go_simp
      try with_reducible rfl
     simp only [pA]
     refine tk 7 (v:=?_) rfl (Or.inl ⟨by rfl,?_⟩) ?_
     rotate_left
     ·intro w9 hSw
      go_simp
      try with_reducible rfl
     simp only [pA]
     refine tk 8 (v:=?_) rfl (Or.inl ⟨by rfl,?_⟩) ?_
     rotate_left
     ·intro w9 hSw
      go_simp
      try with_reducible rfl
     simp only [pA]
     refine wpAnyH_ready (rs:=[1,9]) (by kernel_rfl) (by simp) ?_
     refine consT rfl (fun KK hKK=>?_) ?_
     ·skip
      have cq:=xQ0 bT c1
      go_simp
      clear cq
      refine hKK.out _ _ hHeld ?_
      clear hHeld
      intro hHeld
      clear hKK KK
      try simp only [pA]
      refine wpAnyH_ready (rs:=[9]) (by kernel_rfl) (by simp) ?_
      refine xX0 rfl (fun KK hKK=>?_)
      have hs5:=bT.size
      go_simp
      refine (G1.out _ (hBr.trans (bT.mono hBr.size))).mono ?_
      rintro e w5 ⟨⟨Fa,Fc,FL⟩,rfl,hfo,hFk,hFf,bN⟩
      have bC:=bN
      replace bT:=bT.trans (bC.mono bT.size)
      replace hHeld:=(⟨xQ0 bC hHeld.1,xQ0 bC hHeld.2.1,xQ0 bC hHeld.2.2.1,xQ0 bC hHeld.2.2.2⟩:_∧_∧_∧_)
      clear bC
      go_wp2_with fail
      replace hFf:=hFf.mono hs5
      clear bN hs5
      unfold FV.val
      simp only
      refine hKK.out _ _ hHeld ?_
      clear hHeld
      intro hHeld
      clear hKK KK
      try simp only [pA]
      refine tk 10 (v:=?_) rfl (Or.inl ⟨by rfl,?_⟩) ?_
      rotate_left
      ·intro w9 hSw
       go_simp
       try with_reducible rfl
      simp only [pA]
      refine wpAnyH_ready (rs:=[11]) (by kernel_rfl) (by simp) ?_
      refine xX0 rfl (fun KK hKK=>?_)
      go_simp
      have hnew:=heap_alloc_new w5 (.cells #[.int .i64 x,.slice Fa FL.length Fc] 46)
      have b3:=xQ2 (w:=w5) (.cells #[.int .i64 x,.slice Fa FL.length Fc] 46)
      generalize w5.alloc (.cells #[.int .i64 x,.slice Fa FL.length Fc] 46)=w6 at hnew b3 ⊢
      replace bT:=bT.trans (b3.mono bT.size)
      replace hFk:=hFk.later b3
      replace hHeld:=(⟨xQ0 b3 hHeld.1,xQ0 b3 hHeld.2.1,xQ0 b3 hHeld.2.2.1,xQ0 b3 hHeld.2.2.2⟩:_∧_∧_∧_)
      clear b3
      refine hKK.out _ _ hHeld ?_
      clear hHeld
      intro hHeld
      clear hKK KK
      try simp only [pA]
      refine wpAnyH_ready (rs:=[12]) (by kernel_rfl) (by simp) ?_
      refine xX0 rfl (fun KK hKK=>?_)
      have hO3:=xQ6 HOw.out bT
      have s3:=bT.size
      refine step_append_lies _ (by rfl) _ _ _ (by rfl) w2.heap.size 46 i0 _ 2 32 Tryz.underlying22 hi0 hz0 hz1 hz2 rfl (by omega) (.slice ar S.length cr) S.length (cellsR S) (by rfl) hO3 ⟨w5.heap.size,0,none⟩ 1 1 [.int .i64 x,.slice Fa FL.length Fc] (by rfl) (by rfl) (World.news_of_block (cs:=#[.int .i64 x,.slice Fa FL.length Fc]) (t:=46) (fr:=(0,0)) hnew) (by simp [Value.oneCell']) (by omega) (by simp only [maxLen];omega) (by omega) (by omega) w6.heap.size rfl ?_
      intro gb cap w9 hown4 hgrow hat hlt4
      obtain ⟨p1,p2,p3⟩:=PU.out w6 w9 bT ⟨Fa,Fc,FL⟩ hfo hFk hFf gb cap hown4 hgrow hat
      replace p3:=xQ1 p3
      have far:∀ {b o:Nat} {u:Value},b < w2.heap.size→w6.cell? ⟨b,o,none⟩=some u→w9.cell? ⟨b,o,none⟩=some u:=fun hb hu=>hgrow.cell hu (fun e=>by have:=(hlt9 _ e.symm).1;simp only at this;omega)
      have hh:=HQ.out
      refine hKK.out _ _ ⟨far (by omega) hHeld.1,far (by omega) hHeld.2.1,far (by omega) hHeld.2.2.1,far (by omega) hHeld.2.2.2⟩ ?_
      clear hHeld
      intro hHeld
      clear hKK KK
      try simp only [pA]
      clear hh far hown4 hgrow hat hlt4 hO3 hnew
      refine tk 13 (v:=?_) rfl (Or.inl ⟨by rfl,?_⟩) ?_
      rotate_left
      ·intro w9 hSw
       go_simp
       try with_reducible rfl
      simp only [pA]
      refine wpAnyH_ready (rs:=[14]) (by kernel_rfl) (by simp) ?_
      refine xX0 rfl (fun KK hKK=>?_)
      have fz:=fun o=>p2.frozen o
      clear p2
      have hH2:=(⟨far1 (q:=q) (o:=1) (u:=.slice (some ⟨gb,0,none⟩) (S.length+1) cap) hHeld.1 hbq.2,far1 (q:=q) (o:=1) (u:=.slice (some ⟨gb,0,none⟩) (S.length+1) cap) hHeld.2.1 hbq.2,far1 (q:=q) (o:=1) (u:=.slice (some ⟨gb,0,none⟩) (S.length+1) cap) hHeld.2.2.1 hbq.1,far1 (q:=q) (o:=1) (u:=.slice (some ⟨gb,0,none⟩) (S.length+1) cap) hHeld.2.2.2 hbq.1⟩:_∧_∧_∧_)
      go_simp
      refine hKK.out _ _ hH2 ?_
      clear hHeld
      intro hHeld
      clear hKK KK
      try simp only [pA]
      clear hH2 hHeld fz p1
      refine wpAnyH_done (by kernel_rfl) ?_ _
      go_wp2
      go_roundg (R.length - (S.length+1))
      case measure=>have:=HN.out;omega
      case rel=>exact ⟨_,_,_,by simp,rfl,p3.out⟩
     refine consT rfl (fun KK hKK=>?_) ?_
     ·skip
      have hs5:=bT.size
      go_simp
      refine (G1.out _ (hBr.trans (bT.mono hBr.size))).mono ?_
      rintro e w5 ⟨⟨Fa,Fc,FL⟩,rfl,hfo,hFk,hFf,bN⟩
      have bC:=bN
      replace bT:=bT.trans (bC.mono bT.size)
      replace hHeld:=(⟨xQ0 bC hHeld.1,xQ0 bC hHeld.2.1,xQ0 bC hHeld.2.2.1,xQ0 bC hHeld.2.2.2⟩:_∧_∧_∧_)
      clear bC
      go_wp2_with fail
      replace hFf:=hFf.mono hs5
      clear bN hs5
      unfold FV.val
      simp only
      refine hKK.out _ _ hHeld ?_
      clear hHeld
      intro hHeld
      clear hKK KK
      try simp only [pA]
      refine tk 10 (v:=?_) rfl (Or.inl ⟨by rfl,?_⟩) ?_
      rotate_left
      ·intro w9 hSw
       go_simp
       try with_reducible rfl
      simp only [pA]
      refine wpAnyH_ready (rs:=[1,11]) (by kernel_rfl) (by simp) ?_
      refine consT rfl (fun KK hKK=>?_) ?_
      ·skip
       have cq:=xQ0 bT c1
       go_simp
       clear cq
       refine hKK.out _ _ hHeld ?_
       clear hHeld
       intro hHeld
       clear hKK KK
       try simp only [pA]
       refine wpAnyH_ready (rs:=[11]) (by kernel_rfl) (by simp) ?_
       refine xX0 rfl (fun KK hKK=>?_)
       go_simp
       have hnew:=heap_alloc_new w5 (.cells #[.int .i64 x,.slice Fa FL.length Fc] 46)
       have b3:=xQ2 (w:=w5) (.cells #[.int .i64 x,.slice Fa FL.length Fc] 46)
       generalize w5.alloc (.cells #[.int .i64 x,.slice Fa FL.length Fc] 46)=w6 at hnew b3 ⊢
       replace bT:=bT.trans (b3.mono bT.size)
       replace hFk:=hFk.later b3
       replace hHeld:=(⟨xQ0 b3 hHeld.1,xQ0 b3 hHeld.2.1,xQ0 b3 hHeld.2.2.1,xQ0 b3 hHeld.2.2.2⟩:_∧_∧_∧_)
       clear b3
       refine hKK.out _ _ hHeld ?_
       clear hHeld
       intro hHeld
       clear hKK KK
       try simp only [pA]
       refine wpAnyH_ready (rs:=[12]) (by kernel_rfl) (by simp) ?_
       refine xX0 rfl (fun KK hKK=>?_)
       have hO3:=xQ6 HOw.out bT
       have s3:=bT.size
       refine step_append_lies _ (by rfl) _ _ _ (by rfl) w2.heap.size 46 i0 _ 2 32 Tryz.underlying22 hi0 hz0 hz1 hz2 rfl (by omega) (.slice ar S.length cr) S.length (cellsR S) (by rfl) hO3 ⟨w5.heap.size,0,none⟩ 1 1 [.int .i64 x,.slice Fa FL.length Fc] (by rfl) (by rfl) (World.news_of_block (cs:=#[.int .i64 x,.slice Fa FL.length Fc]) (t:=46) (fr:=(0,0)) hnew) (by simp [Value.oneCell']) (by omega) (by simp only [maxLen];omega) (by omega) (by omega) w6.heap.size rfl ?_
       intro gb cap w9 hown4 hgrow hat hlt4
       obtain ⟨p1,p2,p3⟩:=PU.out w6 w9 bT ⟨Fa,Fc,FL⟩ hfo hFk hFf gb cap hown4 hgrow hat
       replace p3:=xQ1 p3
       have far:∀ {b o:Nat} {u:Value},b < w2.heap.size→w6.cell? ⟨b,o,none⟩=some u→w9.cell? ⟨b,o,none⟩=some u:=fun hb hu=>hgrow.cell hu (fun e=>by have:=(hlt9 _ e.symm).1;simp only at this;omega)
       have hh:=HQ.out
       refine hKK.out _ _ ⟨far (by omega) hHeld.1,far (by omega) hHeld.2.1,far (by omega) hHeld.2.2.1,far (by omega) hHeld.2.2.2⟩ ?_
       clear hHeld
       intro hHeld
       clear hKK KK
       try simp only [pA]
       clear hh far hown4 hgrow hat hlt4 hO3 hnew
       refine tk 13 (v:=?_) rfl (Or.inl ⟨by rfl,?_⟩) ?_
       rotate_left
       ·intro w9 hSw
        go_simp
        try with_reducible rfl
       simp only [pA]
       refine wpAnyH_ready (rs:=[14]) (by kernel_rfl) (by simp) ?_
       refine xX0 rfl (fun KK hKK=>?_)
       have fz:=fun o=>p2.frozen o
       clear p2
       have hH2:=(⟨far1 (q:=q) (o:=1) (u:=.slice (some ⟨gb,0,none⟩) (S.length+1) cap) hHeld.1 hbq.2,far1 (q:=q) (o:=1) (u:=.slice (some ⟨gb,0,none⟩) (S.length+1) cap) hHeld.2.1 hbq.2,far1 (q:=q) (o:=1) (u:=.slice (some ⟨gb,0,none⟩) (S.length+1) cap) hHeld.2.2.1 hbq.1,far1 (q:=q) (o:=1) (u:=.slice (some ⟨gb,0,none⟩) (S.length+1) cap) hHeld.2.2.2 hbq.1⟩:_∧_∧_∧_)
       go_simp
       refine hKK.out _ _ hH2 ?_
       clear hHeld
       intro hHeld
       clear hKK KK
       try simp only [pA]
       clear hH2 hHeld fz p1
       refine wpAnyH_done (by kernel_rfl) ?_ _
       go_wp2
       go_roundg (R.length - (S.length+1))
       case measure=>have:=HN.out;omega
       case rel=>exact ⟨_,_,_,by simp,rfl,p3.out⟩
      refine consT rfl (fun KK hKK=>?_) ?_
      ·skip
       go_simp
       have hnew:=heap_alloc_new w5 (.cells #[.int .i64 x,.slice Fa FL.length Fc] 46)
       have b3:=xQ2 (w:=w5) (.cells #[.int .i64 x,.slice Fa FL.length Fc] 46)
       generalize w5.alloc (.cells #[.int .i64 x,.slice Fa FL.length Fc] 46)=w6 at hnew b3 ⊢
       replace bT:=bT.trans (b3.mono bT.size)
       replace hFk:=hFk.later b3
       replace hHeld:=(⟨xQ0 b3 hHeld.1,xQ0 b3 hHeld.2.1,xQ0 b3 hHeld.2.2.1,xQ0 b3 hHeld.2.2.2⟩:_∧_∧_∧_)
       clear b3
       refine hKK.out _ _ hHeld ?_
       clear hHeld
       intro hHeld
       clear hKK KK
       try simp only [pA]
       refine wpAnyH_ready (rs:=[1]) (by kernel_rfl) (by simp) ?_
       refine xX0 rfl (fun KK hKK=>?_)
       have cq:=xQ0 bT c1
       go_simp
       clear cq
       refine hKK.out _ _ hHeld ?_
       clear hHeld
       intro hHeld
       clear hKK KK
       try simp only [pA]
       refine wpAnyH_ready (rs:=[12]) (by kernel_rfl) (by simp) ?_
       refine xX0 rfl (fun KK hKK=>?_)
       have hO3:=xQ6 HOw.out bT
       have s3:=bT.size
       refine step_append_lies _ (by rfl) _ _ _ (by rfl) w2.heap.size 46 i0 _ 2 32 Tryz.underlying22 hi0 hz0 hz1 hz2 rfl (by omega) (.slice ar S.length cr) S.length (cellsR S) (by rfl) hO3 ⟨w5.heap.size,0,none⟩ 1 1 [.int .i64 x,.slice Fa FL.length Fc] (by rfl) (by rfl) (World.news_of_block (cs:=#[.int .i64 x,.slice Fa FL.length Fc]) (t:=46) (fr:=(0,0)) hnew) (by simp [Value.oneCell']) (by omega) (by simp only [maxLen];omega) (by omega) (by omega) w6.heap.size rfl ?_
       intro gb cap w9 hown4 hgrow hat hlt4
       obtain ⟨p1,p2,p3⟩:=PU.out w6 w9 bT ⟨Fa,Fc,FL⟩ hfo hFk hFf gb cap hown4 hgrow hat
       replace p3:=xQ1 p3
       have far:∀ {b o:Nat} {u:Value},b < w2.heap.size→w6.cell? ⟨b,o,none⟩=some u→w9.cell? ⟨b,o,none⟩=some u:=fun hb hu=>hgrow.cell hu (fun e=>by have:=(hlt9 _ e.symm).1;simp only at this;omega)
       have hh:=HQ.out
       refine hKK.out _ _ ⟨far (by omega) hHeld.1,far (by omega) hHeld.2.1,far (by omega) hHeld.2.2.1,far (by omega) hHeld.2.2.2⟩ ?_
       clear hHeld
       intro hHeld
       clear hKK KK
       try simp only [pA]
       clear hh far hown4 hgrow hat hlt4 hO3 hnew
       refine tk 13 (v:=?_) rfl (Or.inl ⟨by rfl,?_⟩) ?_
       rotate_left
       ·intro w9 hSw
        go_simp
        try with_reducible rfl
       simp only [pA]
       refine wpAnyH_ready (rs:=[14]) (by kernel_rfl) (by simp) ?_
       refine xX0 rfl (fun KK hKK=>?_)
       have fz:=fun o=>p2.frozen o
       clear p2
       have hH2:=(⟨far1 (q:=q) (o:=1) (u:=.slice (some ⟨gb,0,none⟩) (S.length+1) cap) hHeld.1 hbq.2,far1 (q:=q) (o:=1) (u:=.slice (some ⟨gb,0,none⟩) (S.length+1) cap) hHeld.2.1 hbq.2,far1 (q:=q) (o:=1) (u:=.slice (some ⟨gb,0,none⟩) (S.length+1) cap) hHeld.2.2.1 hbq.1,far1 (q:=q) (o:=1) (u:=.slice (some ⟨gb,0,none⟩) (S.length+1) cap) hHeld.2.2.2 hbq.1⟩:_∧_∧_∧_)
       go_simp
       refine hKK.out _ _ hH2 ?_
       clear hHeld
       intro hHeld
       clear hKK KK
       try simp only [pA]
       clear hH2 hHeld fz p1
       refine wpAnyH_done (by kernel_rfl) ?_ _
       go_wp2
       go_roundg (R.length - (S.length+1))
       case measure=>have:=HN.out;omega
       case rel=>exact ⟨_,_,_,by simp,rfl,p3.out⟩
      exact AllReadyH.nil
     exact AllReadyH.nil
  ·have j0:¬ (S.length:Int) < (R.length:Int):=by omega
   have HD:=xQ1 (hI.so.done (by omega))
   have HNk:=xQ1 (fun r hr=>(hI.nk r hr).1)
   have HNf:=xQ1 (fun r hr=>(hI.nk r hr).2.1)
   have HRW:=xQ1 (fun ad (e:ar=some ad)=>show w2.heap.size≤ad.block from by rw [e] at hown;exact (hown.lt ad.block rfl).1)
   have z0:=hI.tol.but.cell HZ.out.1 HQ.out.2.2.2.2.1
   have z1:=hI.tol.but.cell HZ.out.2.1 HQ.out.2.2.2.2.1
   have zR:Row wr rb:=by obtain ⟨cur,t,hc⟩:=HZ.out.2.2;exact ⟨cur,t,(hI.tol.but.block _ (Array.getElem?_eq_some_iff.1 hc).1 HQ.out.2.2.2.2.1).trans hc⟩
   have fz:=fun o=>zR.frozen o
   have HX:=xQ1 (show SoB w V R (.returned (Value.agg #[.int .i64 V,.slice ar S.length cr])) ((wr.setCell ⟨rb,0,none⟩ (.int .i64 V)).setCell ⟨rb,1,none⟩ (.slice ar S.length cr)) from by
     have hq5:=HQ.out
     have hB:Below w.heap.size w ((wr.setCell ⟨rb,0,none⟩ (.int .i64 V)).setCell ⟨rb,1,none⟩ (.slice ar S.length cr)):=(hI.tol.bel.setCell hq5.2.2.2.1 _).setCell hq5.2.2.2.1 _
     have hne:∀ ad,ar=some ad→S≠[]→ad.block≠rb:=fun ad e _=>by have h1:=HRW.out ad e;omega
     have hnk:∀ r∈S,r.2.nk ((wr.setCell ⟨rb,0,none⟩ (.int .i64 V)).setCell ⟨rb,1,none⟩ (.slice ar S.length cr)):=fun r hr=>by
      have h7:=(HNf.out r hr).off hq5.2.2.2.2.2
      exact ((HNk.out r hr).setq h7).setq h7
     have hlO:S.length=R.length:=by omega
     have hno:(Value.slice ar S.length cr).ownBlock≠some rb:=fun e=>by have h1:=(hown.lt rb e).1;omega
     refine ⟨ar,cr,S,w2.heap.size,rfl,⟨⟨ar,cr,rfl,⟨(hTA.far hne).far hne,hnk,fun r hr=>hI.wf r hr⟩,hcr,fun ad e _=>by have h1:=HRW.out ad e;omega⟩,hB,hI.so.rise⟩,HD.out,hlO,by omega,by simpa [World.setCell] using hI.tol.but.size,?_,fun r hr=>⟨hnk r hr,(hI.nk r hr).2.2⟩⟩
     exact own_set7 (own_set7 hown hno) hno)
   rw [hTQ.out] at HX
   clear hI hown hTA zR HRW HD HNk HNf
   go_wp2
   first | exact HX.out | (refine bodyPost_ret (v:=.agg #[.int .i64 V,.slice ar S.length cr]) (by rw [xQ5 rfl];go_simp) rfl ?_;exact HX.out)
theorem rsorted_is (V:Int) (a:Option Addr) (c:Nat) (R:List RowV) (w:World) (hT:TSm w a R) (hc:R.length≤c) (h:mayBe V (tb R)):Calls Tryz.prog 25 #[.agg #[.int .i64 V,.slice a R.length c]] w (SoA w V R):=(rsortedO_is V a c R w hT hc h).mono fun e w2 h2=>h2.soA
def Bk2 (w:World) (c:Nat) (z:Int) (a:Option Addr) (n m:Nat):Prop:=∃ t,w.heap[c]?=some (.cells #[.int .i64 z,.slice a n m] t (0,0))
theorem Bk2.later {w w':World} {c:Nat} {z:Int} {a:Option Addr} {n m:Nat} (h:Bk2 w c z a n m) (hb:Below w.heap.size w w'):Bk2 w' c z a n m:=by
 obtain ⟨t,ht⟩:=h
 exact ⟨t,(hb.block c (Array.getElem?_eq_some_iff.1 ht).1).trans ht⟩
theorem Bk2.lt {w:World} {c:Nat} {z:Int} {a:Option Addr} {n m:Nat} (h:Bk2 w c z a n m):c < w.heap.size:=by
 obtain ⟨t,ht⟩:=h
 exact (Array.getElem?_eq_some_iff.1 ht).1
theorem Bk2.row {w:World} {c:Nat} {z:Int} {a:Option Addr} {n m:Nat} (h:Bk2 w c z a n m):Row w c:=by
 obtain ⟨t,ht⟩:=h
 exact ⟨_,t,ht⟩
theorem Bk2.cell0 {w:World} {c:Nat} {z:Int} {a:Option Addr} {n m:Nat} (h:Bk2 w c z a n m):w.cell? ⟨c,0,none⟩=some (.int .i64 z):=by
 obtain ⟨t,ht⟩:=h
 simp [World.cell?,ht]
theorem Bk2.cell1 {w:World} {c:Nat} {z:Int} {a:Option Addr} {n m:Nat} (h:Bk2 w c z a n m):w.cell? ⟨c,1,none⟩=some (.slice a n m):=by
 obtain ⟨t,ht⟩:=h
 simp [World.cell?,ht]
theorem Bk2.new (w:World) (z:Int) (a:Option Addr) (n m:Nat) (t:TypeId):Bk2 (w.alloc (.cells #[.int .i64 z,.slice a n m] t)) w.heap.size z a n m:=⟨t,World.alloc_heap_new w _⟩
theorem Bk2.cells {w:World} {c:Nat} {z:Int} {a:Option Addr} {n m:Nat} (h:Bk2 w c z a n m) {o:Nat} {u:Value} (hu:w.cell? ⟨c,o,none⟩=some u):(o=0∧u=.int .i64 z)∨(o=1∧u=.slice a n m):=by
 match o with
 | 0=>rw [h.cell0] at hu;exact Or.inl ⟨rfl,(Option.some.inj hu).symm⟩
 | 1=>rw [h.cell1] at hu;exact Or.inr ⟨rfl,(Option.some.inj hu).symm⟩
 | o+2 =>
  obtain ⟨t,ht⟩:=h
  simp [World.cell?,ht] at hu
theorem seg_off {w:World} {c:Nat} {z:Int} {a:Option Addr} {n m:Nat} (h:Bk2 w c z a n m) {p:Option Addr} {X k:Nat} (hs:Seg w p X k):0 < k→∀ ad,p=some ad→ad.block≠c:=fun hk ad e hc=>by
 obtain ⟨b,off,e2,hl,hcell⟩:=hs.2 hk
 rw [e] at e2
 obtain rfl:=Option.some.inj e2
 simp only at hc
 subst hc
 have:=hcell 0 hk
 rcases h.cells this with ⟨_,h2⟩ | ⟨_,h2⟩ <;> cases h2
theorem FV.ok.apart {w:World} {c:Nat} {z:Int} {a:Option Addr} {n m:Nat} {F:FV} (hF:F.ok w) (h:Bk2 w c z a n m):F.off c:=by
 refine ⟨fun hn ad e hc=>?_,fun p hp=>⟨seg_off h (hF.nums p hp).1,seg_off h (hF.nums p hp).2.2.2.1⟩⟩
 obtain ⟨b,off,e2,hl,hcell⟩:=hF.lies hn
 rw [e] at e2
 obtain rfl:=Option.some.inj e2
 simp only at hc
 subst hc
 have hL:F.L[0]?=some (F.L.head hn):=by rw [←List.head?_eq_getElem?,List.head?_eq_some_head hn]
 obtain ⟨d0,d1,_⟩:=hcell 0 _ hL
 rcases h.cells d1 with ⟨_,h2⟩ | ⟨_,h2⟩ <;> cases h2
theorem TNk.set {w:World} {a:Option Addr} {R:List RowV} {c o:Nat} {u:Value} {z:Int} {b:Option Addr} {n m:Nat} (h:TNk w a R) (hB:Bk2 w c z b n m) (hf:∀ ad,a=some ad→R≠[]→ad.block≠c):TNk (w.setCell ⟨c,o,none⟩ u) a R :=
 ⟨h.at_.far hf,fun r hr=>(h.forms r hr).setq ((h.forms r hr).ok.apart hB),h.wf⟩
theorem Bk2.set {w:World} {c:Nat} {z y:Int} {a b:Option Addr} {n m k l:Nat} (h:Bk2 w c z a n m):Bk2 (w.setCell ⟨c,0,none⟩ (.int .i64 y)) c y a n m:=by
 obtain ⟨t,ht⟩:=h
 refine ⟨t,?_⟩
 simp [World.setCell,Array.getElem?_modify,ht]
abbrev noTb:Value:=.agg #[.int .i64 0,.slice none 0 0]
theorem TbA.store {w w1 w':World} {V:Int} {S:List RowV} {a:Option Addr} {c:Nat} {rb:Nat} {z:Int} {b:Option Addr} {n m:Nat} (hn:TNk w' a S) (hl:S.length≤c) (hf:∀ ad,a=some ad→S≠[]→w1.heap.size≤ad.block) (hw:w.heap.size≤w1.heap.size) (hB:Below w.heap.size w w') (hr:rising S) (hk:Bk2 w' rb z b n m) (h1:rb < w1.heap.size) (h2:w.heap.size≤rb) :
  TbA w V S (.agg #[.int .i64 V,.slice a S.length c]) ((w'.setCell ⟨rb,0,none⟩ (.int .i64 V)).setCell ⟨rb,1,none⟩ (.slice a S.length c)):=by
 have hne:∀ ad,a=some ad→S≠[]→ad.block≠rb:=fun ad e h=>by have:=hf ad e h;omega
 exact ⟨⟨a,c,rfl,(hn.set hk hne).set (hk.set (b:=b) (k:=n) (l:=m)) hne,hl,fun ad e h=>Nat.le_trans hw (hf ad e h)⟩,(hB.setCell h2 _).setCell h2 _,hr⟩
end Go.Proofs.YtgfmaejhdbmkoaaGreat
