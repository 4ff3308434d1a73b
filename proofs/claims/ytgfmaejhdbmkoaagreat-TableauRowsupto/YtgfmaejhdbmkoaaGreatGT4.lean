import Derived.Test.YtgfmaejhdbmkoaaGreatGT2
import Derived.Deep.LoopGhost
set_option linter.unusedSimpArgs false
namespace Go.Proofs.YtgfmaejhdbmkoaaGreat
open Go.RowKit
set_option linter.unusedVariables false
def wfo (f:Fo):Prop:=∀ p∈f,wfI p.1
theorem nfm_var {l:Fo} {p:Int × Rat} (hp:p∈nfm l):∃ q∈l,q.1=p.1:=by
 have h1:=(nfm_nrm l).co_mem hp
 have h2:=(nfm_nrm l).2 p hp
 rw [nfm_co] at h1
 by_cases h:∃ q∈l,q.1=p.1
 ·exact h
 ·exfalso
  rw [co_zero fun q hq e=>h ⟨q,hq,e⟩] at h1
  exact h2 h1.symm
theorem wfo.nfm {l:Fo} (h:wfo l):wfo (nfm l):=fun p hp=>by
 obtain ⟨q,hq,e⟩:=nfm_var hp
 rw [←e]
 exact h q hq
def mapf (g:Int→Option FV):Int→Option Value:=fun v=>(g v).map FV.val
structure RF (w:World) (g:Int→Option FV) (T:Tb):Prop where
 nk:∀ v F,g v=some F→F.nk w
 says:∀ v,(g v).map FV.fo=(lk T v).map nfm
theorem RF.kc {w w':World} {g:Int→Option FV} {T:Tb} (h:RF w g T) (hb:Kc w w'):RF w' g T:=⟨fun v F hv=>(h.nk v F hv).kc hb,h.says⟩
theorem RF.later {w w':World} {g:Int→Option FV} {T:Tb} (h:RF w g T) (hb:Below w.heap.size w w'):RF w' g T:=h.kc (Kc.of hb)
theorem RF.hit {w:World} {g:Int→Option FV} {T:Tb} (h:RF w g T) {v:Int} {F:FV} (hv:g v=some F):∃ f,lk T v=some f∧F.fo=nfm f:=by
 have h1:=h.says v
 rw [hv] at h1
 cases hf:lk T v with
 | none=>rw [hf] at h1;cases h1
 | some f=>rw [hf] at h1;exact ⟨f,rfl,Option.some.inj h1⟩
theorem RF.miss {w:World} {g:Int→Option FV} {T:Tb} (h:RF w g T) {v:Int}:g v=none↔lk T v=none:=by
 have h1:=h.says v
 cases hg:g v <;> cases hf:lk T v <;> rw [hg,hf] at h1 <;> simp at h1 ⊢
def okFm (V:Int) (g:Int→Option FV) (L:List Mo):Bool:=L.all fun p=>(g p.1).isNone && (decide (0≤p.1) && decide (p.1 < V))
theorem okFm_iff {V:Int} {g:Int→Option FV} {L:List Mo}:okFm V g L=true↔∀ p∈fo L,(0≤p.1∧p.1 < V)∧g p.1=none:=by
 unfold okFm fo
 rw [List.all_eq_true]
 constructor
 ·intro h p hp
  obtain ⟨q,hq,rfl⟩:=List.mem_map.1 hp
  have:=h q hq
  simp at this
  exact ⟨this.2,this.1⟩
 ·intro h p hp
  have:=h (p.1,p.2.val) (List.mem_map.2 ⟨p,hp,rfl⟩)
  simp
  exact ⟨this.2,this.1⟩
theorem okFm_false {V:Int} {g:Int→Option FV} {L:List Mo} {k:Nat} {p:Mo} (hk:L[k]?=some p) (h:¬ (g p.1=none∧0≤p.1∧p.1 < V)):okFm V g L=false:=by
 cases hc:okFm V g L with
 | false=>rfl
 | true =>
  have:=okFm_iff.1 hc (p.1,p.2.val) (List.mem_map.2 ⟨p,List.mem_of_getElem? hk,rfl⟩)
  exact absurd ⟨this.2,this.1⟩ h
theorem okFm_true {V:Int} {g:Int→Option FV} {L:List Mo} (h:∀ k p,k < L.length→L[k]?=some p→g p.1=none∧0≤p.1∧p.1 < V):okFm V g L=true:=okFm_iff.2 fun p hp=>by
 obtain ⟨q,hq,rfl⟩:=List.mem_map.1 hp
 obtain ⟨k,hk,rfl⟩:=List.mem_iff_getElem.1 hq
 have:=h k _ hk (List.getElem?_eq_getElem hk)
 exact ⟨this.2,this.1⟩
theorem mayBe_iff {w:World} {V:Int} {T:Tb} {g:Int→Option FV} (lo:0≤V) (hi:V≤65536) (once:onceK T) (basic:∀ r∈T,0≤r.1∧r.1 < V) (hG:RF w g T):mayBe V T↔∀ v F,g v=some F→okFm V g F.L=true:=by
 constructor
 ·intro h v F hF
  obtain ⟨f,hf,e⟩:=hG.hit hF
  refine okFm_iff.2 fun p hp=>?_
  have hp2:p∈nfm f:=by rw [←e];exact hp
  have:=h.vars (v,f) (lk_mem hf) p hp2
  exact ⟨this.1,hG.miss.2 this.2⟩
 ·intro h
  refine ⟨lo,hi,once,basic,fun r hr p hp=>?_⟩
  have hl:=lk_of_mem (v:=r.1) (f:=r.2) once hr
  have h1:=hG.says r.1
  rw [hl] at h1
  cases hg:g r.1 with
  | none=>rw [hg] at h1;cases h1
  | some F =>
   rw [hg] at h1
   have e:F.fo=nfm r.2:=Option.some.inj h1
   have:=okFm_iff.1 (h _ _ hg) p (by show p∈F.fo;rw [e];exact hp)
   exact ⟨this.1,hG.miss.1 this.2⟩
def gput (g:Int→Option FV) (v:Int) (F:FV):Int→Option FV:=fun u=>if u=v then some F else g u
theorem mapf_put (g:Int→Option FV) (v:Int) (F:FV):fput (mapf g) v F.val=mapf (gput g v F):=by
 funext u
 unfold fput mapf gput
 split <;> rfl
theorem RF.put {w w':World} {g:Int→Option FV} {T:Tb} {v:Int} {F:FV} {f:Fo} (h:RF w g T) (hn:g v=none) (hb:Kc w w') (hF:F.nk w') (he:F.fo=nfm f):RF w' (gput g v F) (T ++ [(v,f)]):=by
 refine ⟨fun u G hu=>?_,fun u=>?_⟩
 ·unfold gput at hu
  split at hu
  ·cases hu;exact hF
  ·exact (h.nk u G hu).kc hb
 ·rw [lk_append]
  unfold gput
  by_cases e:u=v
  ·subst e
   rw [if_pos rfl,h.miss.1 hn]
   simp [lk,he]
  ·rw [if_neg e,h.says u]
   have:lk [(v,f)] u=none:=by simp [lk];exact fun e2=>e e2.symm
   rw [this]
   cases lk T u <;> rfl
theorem mapf_none {g:Int→Option FV} {v:Int} (h:g v=none):mapf g v=none:=by unfold mapf;rw [h];rfl
theorem mapf_some {g:Int→Option FV} {v:Int} {F:FV} (h:g v=some F):mapf g v=some F.val:=by unfold mapf;rw [h];rfl
theorem zeroF (w:World):(zeroValue 26).run Tryz.prog w=.ok (.slice none 0 0) w:=by kernel_rfl
abbrev MapT (w:World) (b n:Nat) (g:Int→Option FV):Prop:=MapI Tryz.prog 3 w b n (mapf g)
theorem xZ9:Tryz.prog.underlying 3=some (.int .i64):=Tryz.underlying3
theorem xZ7:Tryz.prog.underlying 40=some (.map 3 26):=Tryz.underlying40
set_option maxHeartbeats 8000000 in
set_option maxRecDepth 100000 in
theorem mayHave_is (X:FV) (V:Int) (b n:Nat) (g:Int→Option FV) (w:World) (hX:X.ok w) (hm:X.L.length≤4194304) (hM:MapT w b n g) (hw:wfo X.fo) :
  Calls Tryz.prog 34 #[.map (some b),X.val,.int .i64 V] w fun e w'=>e=.returned (.bool (okFm V g X.L))∧Below w.heap.size w w':=by
 obtain ⟨a,c,L⟩:=X
 obtain ⟨hF,hok,hc⟩:=hX
 simp only at hF hok hc hm
 unfold FV.val
 simp only
 have HW:=xQ1 hw
 clear hok hw
 have HI:=xQ1 (fun x w'=>isVar_is x V w')
 go_enter Tryz.func34,Tryz.ntmps34
 go_wp2_with fail
 go_loopw [13] (fun vi wr=>∃ k:Nat,k≤L.length∧vi=.int .i64 k∧(∀ j p,j < k→L[j]?=some p→g p.1=none∧0≤p.1∧p.1 < V)∧Below w.heap.size w wr) (fun vi _=>L.length - (intOf vi).toNat)
 case atStart=>exact ⟨0,Nat.zero_le _,rfl,fun j p hj=>absurd hj (by omega),Below.refl _ _⟩
 case round =>
  obtain ⟨k,hk,rfl,hN,hB⟩:=hrel
  have HN:=xQ1 hN
  clear hN
  by_cases hlt:k < L.length
  ·obtain ⟨p,hp⟩:∃ p,L[k]?=some p:=⟨L[k],List.getElem?_eq_getElem hlt⟩
   obtain ⟨bb,off,rfl,hbb,hcell⟩:=hF (by intro e;rw [e] at hlt;simp at hlt)
   obtain ⟨d0,d1,d2,d3⟩:=hcell k p hp
   replace d0:=xQ0 hB d0
   replace d1:=xQ0 hB d1
   replace d2:=xQ0 hB d2
   replace d3:=xQ0 hB d3
   have hv:wfI p.1:=HW.out (p.1,p.2.val) (List.mem_map.2 ⟨p,List.mem_of_getElem? hp,rfl⟩)
   have HF:=xQ1 (fun h=>okFm_false (V:=V) (g:=g) hp h)
   have HT:=xQ1 (fun (h:g p.1=none∧0≤p.1∧p.1 < V)=>show ∀ j q,j < k+1→L[j]?=some q→g q.1=none∧0≤q.1∧q.1 < V from fun j q hj hq=>by
     by_cases e:j=k
     ·subst e;rw [hp] at hq;cases hq;exact h
     ·exact HN.out j q (by omega) hq)
   have hM2:=hM.later hB
   obtain ⟨x,q⟩:=p
   simp only at d0 d1 d2 d3 hv HF HT
   have j0:(0:Int)≤(k:Int):=by omega
   have j1:(k:Int) < (L.length:Int):=by omega
   have bA:=xQ2 (w:=wr) (.cells #[.int .i64 x,.bool q.s,.slice q.a q.n q.c,.slice q.b q.m q.e] 57)
   have m0:(wr.alloc (.cells #[.int .i64 x,.bool q.s,.slice q.a q.n q.c,.slice q.b q.m q.e] 57)).cell? ⟨wr.heap.size,0,none⟩=some (.int .i64 x):=by go_simp
   obtain ⟨wA,hwA⟩:∃ wA,wr.alloc (.cells #[.int .i64 x,.bool q.s,.slice q.a q.n q.c,.slice q.b q.m q.e] 57)=wA:=⟨_,rfl⟩
   rw [hwA] at bA m0
   have hM3:=hM2.later bA
   have hB3:=hB.trans (bA.mono hB.size)
   clear hcell hF hp hM2
   cases hg:g x with
   | none =>
    have hr:=mapf_none hg
    have HG:=xQ1 hg
    clear hg
    have HD:=xQ1 (HI.out x wA)
    cases hd:(decide (0≤x) && decide (x < V)) with
    | false =>
     have HD2:=HD.out
     rw [hd] at HD2
     replace HD2:=xQ1 HD2
     have HZ:=xQ1 (HF.out (fun h=>by simp [h.2.1,h.2.2] at hd))
     clear hd HF HT HD
     go_wp2_with (at_lookup;(try rw [hwA]);refine xZ3 _ rfl _ _ 40 true rfl xZ9 xZ7 (zeroF _) b n (mapf g) rfl hM3 x rfl hv none hr ?_)
     go_wp2_with fail
     refine HD2.out.mono ?_
     rintro e w2 ⟨rfl,rfl⟩
     clear hM3 hr
     go_wp2
     go_ret
     exact ⟨(by rw [HZ.out];try rfl),hB3⟩
    | true =>
     have HD2:=HD.out
     rw [hd] at HD2
     replace HD2:=xQ1 HD2
     have HZ:=xQ1 (HT.out ⟨HG.out,by simp at hd;exact hd⟩)
     clear hd HF HT HD
     go_wp2_with (at_lookup;(try rw [hwA]);refine xZ3 _ rfl _ _ 40 true rfl xZ9 xZ7 (zeroF _) b n (mapf g) rfl hM3 x rfl hv none hr ?_)
     go_wp2_with fail
     refine HD2.out.mono ?_
     rintro e w2 ⟨rfl,rfl⟩
     clear hM3 hr
     go_wp2
     go_roundw
     case rel=>exact ⟨k+1,by omega,by go_num,HZ.out,hB3⟩
     case measure=>simp only [intOf];omega
   | some G =>
    have hr:=mapf_some hg
    have HZ:=xQ1 (HF.out (fun h=>by rw [hg] at h;cases h.1))
    clear hg HF HT HI
    go_wp2_with (at_lookup;(try rw [hwA]);refine xZ3 _ rfl _ _ 40 true rfl xZ9 xZ7 (zeroF _) b n (mapf g) rfl hM3 x rfl hv (some G.val) hr ?_)
    clear hM3 hr
    go_wp2
    go_ret
    exact ⟨(by rw [HZ.out];try rfl),hB3⟩
  ·obtain rfl:k=L.length:=by omega
   have i1:¬ (L.length:Int) < (L.length:Int):=by omega
   have HZ:=xQ1 (show okFm V g L=true from okFm_true fun j p hj hp=>HN.out j p hj hp)
   clear HN HI HW hM
   go_wp2
   go_ret
   exact ⟨(by rw [HZ.out];try rfl),hB⟩
end Go.Proofs.YtgfmaejhdbmkoaaGreat
