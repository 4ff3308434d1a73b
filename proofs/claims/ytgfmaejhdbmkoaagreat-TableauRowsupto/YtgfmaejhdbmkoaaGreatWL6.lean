import Derived.Test.YtgfmaejhdbmkoaaGreatWL5
import Derived.Test.YtgfmaejhdbmkoaaGreatNumR
set_option linter.unusedSimpArgs false
namespace Go.Proofs.YtgfmaejhdbmkoaaGreat
open Go.RowKit
set_option linter.unusedVariables false
def prods (v:Nat→Int) (f g:Nat→RatV) (m:Nat):Nat→List (Int × Nat)
 | 0=>[]
 | k+1=>prods v f g m k ++ (if 0≤v k∧v k < (m:Int) then [(rn (f k).s (f k).X (f k).Y*rn (g (v k).toNat).s (g (v k).toNat).X (g (v k).toNat).Y,rd (f k).Y*rd (g (v k).toNat).Y)] else [])
def prl (v:Nat→Int) (f g:Nat→RatV) (m:Nat):Nat→List Rat
 | 0=>[]
 | k+1=>prl v f g m k ++ (if 0≤v k∧v k < (m:Int) then [(f k).val*(g (v k).toNat).val] else [])
def lv (q:Nat→RatV) (n:Nat):List Rat:=(List.range n).map fun i=>(q i).val
theorem lv_succ (q:Nat→RatV) (n:Nat):lv q (n+1)=lv q n ++ [(q n).val]:=by
 unfold lv
 rw [List.range_succ,List.map_append]
 rfl
theorem lv_congr {q q':Nat→RatV} (n:Nat) (h:∀ i,i < n→q i=q' i):lv q n=lv q' n:=by
 unfold lv
 exact List.map_congr_left fun i hi=>by rw [h i (List.mem_range.1 hi)]
theorem low_prod {p q r:RatV} (hr:0 < r.Y) (hL:Low (rn p.s p.X p.Y*rn q.s q.X q.Y) ((rd p.Y:Nat)*(rd q.Y:Nat)) (sg r.s r.X) r.Y):r.val=p.val*q.val:=by
 obtain ⟨e1,e2⟩:=(low_mul p q).uniq hL rfl
 unfold RatV.val
 rw [rn_of (by omega),rd_of (by omega),←e1,←e2,Rat.num_divInt_den]
 rfl
def PrInv (w:World) (v:Nat→Int) (f g:Nat→RatV) (m N:Nat) (k:Nat) (vo:Value) (wr:World):Prop :=
 ∃ (j:Nat) (q:Nat→RatV),j≤k∧wr.ownsRow w.heap.size 55 3 vo j (cellsV q j)∧Below w.heap.size w wr∧(Eqv (lq q j) (prods v f g m k)∧lv q j=prl v f g m k) ∧
  ∀ i,i < j→(q i).ok wr∧(q i).low∧(q i).n+(q i).m+1≤N∧∀ b,vo.ownBlock=some b→(q i).off b
theorem PrInv.later {w:World} {v:Nat→Int} {f g:Nat→RatV} {m N k:Nat} {vo:Value} {wr w':World} (h:PrInv w v f g m N k vo wr) (hb:Below wr.heap.size wr w'):PrInv w v f g m N k vo w':=by
 obtain ⟨j,q,hj,hO,hB,hE,hq⟩:=h
 exact ⟨j,q,hj,xQ6 hO hb,hB.trans (hb.mono hB.size),hE,fun i hi=>⟨(hq i hi).1.later hb,(hq i hi).2⟩⟩
theorem PrInv.skip {w:World} {v:Nat→Int} {f g:Nat→RatV} {m N k:Nat} {vo:Value} {wr:World} (h:PrInv w v f g m N k vo wr) (hp:¬ (0≤v k∧v k < (m:Int))):PrInv w v f g m N (k+1) vo wr:=by
 obtain ⟨j,q,hj,hO,hB,hE,hq⟩:=h
 refine ⟨j,q,by omega,hO,hB,?_,hq⟩
 simp only [prods,prl]
 rw [if_neg hp,if_neg hp,List.append_nil,List.append_nil]
 exact hE
theorem lq_congr {q q':Nat→RatV}:∀ (n:Nat),(∀ i,i < n→q i=q' i)→lq q n=lq q' n
 | 0,_=>rfl
 | n+1,h=>by rw [lq_succ,lq_succ,lq_congr n fun i hi=>h i (by omega),h n (by omega)]
theorem PrInv.push {w:World} {v:Nat→Int} {f g:Nat→RatV} {m N k:Nat} {vo:Value} {wB w1:World} {j:Nat} {q:Nat→RatV} (hj:j≤k) (hB:Below w.heap.size w wB) (hE:Eqv (lq q j) (prods v f g m k)∧lv q j=prl v f g m k)
  (hq:∀ i,i < j→(q i).ok wB∧(q i).low∧(q i).n+(q i).m+1≤N∧∀ b,vo.ownBlock=some b→(q i).off b) (hrow:∀ b,vo.ownBlock=some b→w.heap.size≤b) (hp:0≤v k∧v k < (m:Int))
  (r:RatV) (hr:r.ok wB) (hrl:r.low) (hrn:r.n+r.m+1≤N) (hro:∀ b,vo.ownBlock=some b→r.off b)
  (hL:Low (rn (f k).s (f k).X (f k).Y*rn (g (v k).toNat).s (g (v k).toNat).X (g (v k).toNat).Y) ((rd (f k).Y:Nat)*(rd (g (v k).toNat).Y:Nat)) (sg r.s r.X) r.Y) {gb cap:Nat}
  (hown:w1.ownsRow w.heap.size 55 3 (.slice (some ⟨gb,0,none⟩) (j+1) cap) (j+1) (cellsV q j ++ [.bool r.s,.slice r.a r.n r.c,.slice r.b r.m r.e])) (hg:wB.grownBy w1 vo.ownBlock) (hat:vo.ownBlock=some gb∨gb=wB.heap.size) :
  PrInv w v f g m N (k+1) (.slice (some ⟨gb,0,none⟩) (j+1) cap) w1:=by
 obtain ⟨q',hq'⟩:∃ q':Nat→RatV,q'=fun i=>if i < j then q i else r:=⟨_,rfl⟩
 have e1:∀ i,i < j→q' i=q i:=fun i hi=>by rw [hq'];exact if_pos hi
 have e2:q' j=r:=by rw [hq'];exact if_neg (by omega)
 refine ⟨j+1,q',by omega,?_,hB.trans (xQ8 hB.size hrow hg),?_,fun i hi=>?_⟩
 ·simp only [cellsV]
  rw [cellsV_congr j e1,e2]
  exact hown
 ·have hY:=hrl.pos
  refine ⟨?_,?_⟩
  ·rw [lq_succ,lq_congr j e1,e2]
   simp only [prods]
   rw [if_pos hp]
   refine hE.1.append ?_
   rw [rn_of (by omega),rd_of (by omega)]
   exact Eqv.one (by rw [Int.natCast_mul];exact hL)
  ·rw [lv_succ,lv_congr j e1,e2]
   simp only [prl]
   rw [if_pos hp,hE.2,low_prod hY hL]
 ·have hoff:∀ x:RatV,x.ok wB→(∀ b,vo.ownBlock=some b→x.off b)→∀ b,(Value.slice (some ⟨gb,0,none⟩) (j+1) cap).ownBlock=some b→x.off b:=by
   intro x hx ho b hb
   have:gb=b:=by simpa [Value.ownBlock] using hb
   subst this
   rcases hat with h | h
   ·exact ho _ h
   ·exact hx.off (by omega)
  rcases Nat.lt_or_ge i j with h1 | h1
  ·rw [e1 i h1]
   obtain ⟨a1,a2,a3,a4⟩:=hq i h1
   exact ⟨a1.grown hg a4,a2,a3,hoff _ a1 a4⟩
  ·obtain rfl:i=j:=by omega
   rw [e2]
   exact ⟨hr.grown hg hro,hrl,hrn,hoff _ hr hro⟩
theorem info_Rat:(Tryz.prog.info? 55).map (fun i=>(i.zero,i.size,i.bytes))=some (some (.agg #[.bool false,.slice none 0 0,.slice none 0 0]),3,56):=by kernel_rfl
end Go.Proofs.YtgfmaejhdbmkoaaGreat
