import Derived.Test.YtlklfkkbdcglbaaGreatGTJ
set_option linter.unusedSimpArgs false
namespace Go.Proofs.YtlklfkkbdcglbaaGreat
open Go.RowKit
set_option linter.unusedVariables false
theorem info_u32M:(Tryz.prog.info? 123).map (fun i=>(i.zero,i.size,i.bytes))=some (some (.int .u32 0),1,4):=by kernel_rfl
def limbsM (X n:Nat):List Value:=(List.range n).map fun i=>.int .u32 (dg X i:Nat)
theorem limbsM_succ (X n:Nat):limbsM X (n+1)=limbsM X n ++ [.int .u32 (dg X n:Nat)]:=by
 unfold limbsM
 rw [List.range_succ,List.map_append]
 rfl
theorem limbsM_at {X n i:Nat} (h:i < n):(limbsM X n)[i]?=some (.int .u32 (dg X i:Nat)):=by
 unfold limbsM
 rw [List.getElem?_map,List.getElem?_range h]
 rfl
theorem own_copy {w w':World} {v:Value} {X n:Nat} (hX:X < BB ^ n) (h:w'.ownsRow w.heap.size 123 1 v n (limbsM X n)) (hB:Below w.heap.size w w'):∃ p c,v=.slice p n c∧n≤c∧New w w' p X n:=by
 rcases h.2 with ⟨rfl,rfl⟩ | ⟨g,cap,cur,rfl,hb,hg,hc,hm,_,_⟩
 ·exact ⟨none,0,rfl,Nat.le_refl _,⟨hX,fun h=>absurd h (by omega)⟩,hB,fun h=>absurd h (by omega)⟩
 ·have hgl:=(Array.getElem?_eq_some_iff.1 hg).1
  refine ⟨_,cap,rfl,hc,⟨hX,fun hn=>⟨g,0,rfl,hgl,fun i hi=>?_⟩⟩,hB,fun _=>⟨g,0,rfl,hb,cur,_,hg⟩⟩
  have h:=h.cellAt i (by omega)
  rw [limbsM_at hi] at h
  rw [Nat.zero_add]
  exact h
set_option maxHeartbeats 2000000 in
set_option maxRecDepth 100000 in
theorem memNat_is (a:Option Addr) (n c X:Nat) (w:World) (hn:n≤35184372087808) (hS:Seg w a X n) :
  Calls Tryz.prog 81 #[.slice a n c] w fun e w'=>∃ p c',e=.returned (.slice p n c')∧n≤c'∧New w w' p X n:=by
 obtain ⟨i0,hi0,hz0,hz1,hz2⟩:=info_parts info_u32M
 go_enter Tryz.func81,Tryz.ntmps81
 go_wp2_with fail
 go_loopw [3,4] (fun vo vi wr=>∃ k:Nat,k≤n∧vi=.int .i64 k∧wr.ownsRow w.heap.size 123 1 vo k (limbsM X k)∧Below w.heap.size w wr) (fun _ vi _=>n - (intOf vi).toNat)
 case atStart=>exact ⟨0,Nat.zero_le _,rfl,World.ownsRow_nil _ _ _ _,Below.refl _ _⟩
 case round =>
  obtain ⟨k,hk,rfl,hO,hB⟩:=hrel
  by_cases hlt:k < n
  ·have hSr:=hS.later hB
   obtain ⟨bb,off,rfl,hb,hcell⟩:=hSr.2 (by omega)
   have c0:=hcell k hlt
   have i1:(0:Int)≤(k:Int):=by omega
   have i2:(k:Int) < (n:Int):=by omega
   obtain ⟨x,hx⟩:∃ x:Int,((dg X k:Nat):Int)=x:=⟨_,rfl⟩
   rw [hx] at c0
   obtain ⟨zs,hzs⟩:∃ zs,limbsM X k=zs:=⟨_,rfl⟩
   rw [hzs] at hO
   obtain ⟨wB,hwB⟩:∃ wB,wr.alloc (.cells #[.int .u32 x] 123)=wB:=⟨_,rfl⟩
   have hnew:=heap_alloc_new wr (.cells #[.int .u32 x] 123)
   have b3:=below_alloc (w:=wr) (.cells #[.int .u32 x] 123)
   rw [hwB] at hnew b3
   have hO3:=own_below hO b3
   have s3:=b3.size
   have s4:=hB.size
   have hbB:w.heap.size≤wB.heap.size:=by omega
   have hbl:(k+1)*4≤140737488355328:=by omega
   have hrow:=fun k hk=>(hO.lt k hk)
   clear hcell
   go_wp2_with (at_builtin;(try rw [hwB]);refine wpList_append_lies _ (by rfl) _ _ _ (by rfl) w.heap.size 123 i0 _ 1 4 A_under_nat hi0 hz0 hz1 hz2 rfl (by omega) u3 k zs (by rfl) hO3 ⟨wr.heap.size,0,none⟩ 1 1 [.int .u32 x] (by rfl) (by rfl) (World.news_of_block (cs:=#[.int .u32 x]) (t:=123) (fr:=(0,0)) hnew) (by simp [Value.oneCell']) (by omega) (by simp only [maxLen];omega) hbl hbB wB.heap.size rfl ?_)
   intro gb cap w9 hown4 hgrow hat hlt4
   have hB3:=hB.trans (b3.mono hB.size)
   have b9:=below_grown hB3.size (fun k hk=>(hrow k hk).1) hgrow
   have I1:w9.ownsRow w.heap.size 123 1 (.slice (some ⟨gb,0,none⟩) (k+1) cap) (k+1) (limbsM X (k+1))∧Below w.heap.size w w9:=⟨by rw [limbsM_succ,hzs,hx];exact hown4,hB3.trans b9⟩
   replace I1:=hide' I1
   clear hown4 hgrow hat hnew b3 hO3 hB3 b9 hrow s3 hbB hbl hO hB hzs hx
   go_wp2
   go_roundw
   case rel=>exact ⟨k+1,by omega,by go_num,I1.out⟩
   case measure=>simp [intOf];omega
  ·obtain rfl:k=n:=by omega
   have i1:¬ (k:Int) < (k:Int):=by omega
   obtain ⟨p,c1,rfl,hc1,hC⟩:=own_copy hS.1 hO hB
   go_wp2
   go_ret
   exact ⟨p,c1,rfl,hc1,hC⟩
set_option maxHeartbeats 1000000 in
theorem memInt_is (s:Bool) (ao:Option Addr) (n cap X:Nat) (w:World) (hm:n≤35184372087808) (hS:Seg w ao X n) :
  Calls Tryz.prog 80 #[.agg #[.bool s,.slice ao n cap]] w fun e w'=>∃ ao' c',e=.returned (.agg #[.bool s,.slice ao' n c'])∧n≤c'∧New w w' ao' X n:=by
 go_enter Tryz.func80,Tryz.ntmps80
 go_wp2_with fail
 obtain ⟨W,hW⟩:∃ W,((w.alloc (.cells #[.bool s,.slice ao n cap] 72)).alloc (.cells #[.bool false,.slice none 0 0] 72))=W:=⟨_,rfl⟩
 have q00:W.cell? ⟨w.heap.size,0,none⟩=some (.bool s):=by subst hW;go_simp
 have q01:W.cell? ⟨w.heap.size,1,none⟩=some (.slice ao n cap):=by subst hW;go_simp
 have r00:W.cell? ⟨w.heap.size+1,0,none⟩=some (.bool false):=by subst hW;go_simp
 have r01:W.cell? ⟨w.heap.size+1,1,none⟩=some (.slice none 0 0):=by subst hW;go_simp
 have hB:Below w.heap.size w W:=by subst hW;exact (((Below.refl _ _).alloc (by (try simp only [World.size_alloc]);omega) _).alloc (by (try simp only [World.size_alloc]);omega) _)
 have hR0:Row W (w.heap.size+1):=by
  have:=row_new ((w.alloc (.cells #[.bool s,.slice ao n cap] 72))) #[.bool false,.slice none 0 0] 72
  try simp only [World.size_alloc] at this
  subst hW;exact this
 have hz:W.heap.size=w.heap.size+1+1:=by subst hW;simp only [World.size_alloc]
 rw [hW]
 clear hW
 have hBW:Below W.heap.size W W:=Below.refl _ _
 replace hBW:=hBW.drew
 first
  | go_region_held3 (fun w'=>w'.cell? ⟨w.heap.size,0,none⟩=some (.bool s)∧w'.cell? ⟨w.heap.size,1,none⟩=some (.slice ao n cap)∧Below w.heap.size w w')
    (first | exact ⟨q00,q01,hB.trans (hBW.mono hB.size)⟩ | exact kp2 b1 (by assumption) | exact kp2 (below_alloc _) (by assumption) | exact kp2 (below_alloc _) ⟨q00,q01,hB.trans (hBW.mono hB.size)⟩ | exact kpT2_2 (by assumption) (by omega) (by omega) (by omega))
    (first
     | (go_at_call 81;(fail_if_success clear b1);refine (memNat_is ao n cap X _ hm (sb hS hB hBW)).mono ?_;rintro e w1 ⟨a1,c1,rfl,g1,hn1⟩;have b1:=hn1.below;replace hn1:=hn1.back hBW;replace hBW:=hBW.trans (b1.mono hBW.size);replace q00:=below_cell b1 q00;replace q01:=below_cell b1 q01;replace r00:=below_cell b1 r00;replace r01:=below_cell b1 r01;replace hR0:=below_row b1 hR0;have fz:=fun o=>hR0.frozen o))
  | fail
 have fz0:=fun o=>hR0.frozen o
 go_wp2
 all_goals refine bodyPost_ret (v:=.agg #[.bool s,.slice a1 n c1]) (by rw [results_cell rfl];go_simp) rfl ?_
 all_goals exact ⟨a1,c1,rfl,g1,hn1.mid hB ((((Mid.refl _ _ _).set _ _ (by omega) (by omega) _).set _ _ (by omega) (by omega) _))⟩
set_option maxHeartbeats 2000000 in
theorem memRat_is (s0:Bool) (a0:Option Addr) (n0 c0 X0:Nat) (b0:Option Addr) (m0 d0 Y0:Nat) (w:World) (hc0:n0≤c0) (hm0:n0≤35184372087808) (hS0:Seg w a0 X0 n0) (hd0:m0≤d0) (hk0:m0≤35184372087808) (hT0:Seg w b0 Y0 m0) :
  Calls Tryz.prog 53 #[Value.agg #[Value.bool s0,Value.slice a0 n0 c0,Value.slice b0 m0 d0]] w fun e w'=>∃ p c q d,e=.returned (.agg #[.bool s0,.slice p n0 c,.slice q m0 d])∧n0≤c∧m0≤d∧New w w' p X0 n0∧New w w' q Y0 m0:=by
 go_enter Tryz.func53,Tryz.ntmps53
 go_wp2_with fail
 obtain ⟨W,hW⟩:∃ W,((w.alloc (.cells #[.bool s0,.slice a0 n0 c0,.slice b0 m0 d0] 74)).alloc (.cells #[.bool false,.slice none 0 0,.slice none 0 0] 74))=W:=⟨_,rfl⟩
 have q00:W.cell? ⟨w.heap.size,0,none⟩=some (.bool s0):=by subst hW;go_simp
 have q01:W.cell? ⟨w.heap.size,1,none⟩=some (.slice a0 n0 c0):=by subst hW;go_simp
 have q02:W.cell? ⟨w.heap.size,2,none⟩=some (.slice b0 m0 d0):=by subst hW;go_simp
 have r00:W.cell? ⟨w.heap.size+1,0,none⟩=some (.bool false):=by subst hW;go_simp
 have r01:W.cell? ⟨w.heap.size+1,1,none⟩=some (.slice none 0 0):=by subst hW;go_simp
 have r02:W.cell? ⟨w.heap.size+1,2,none⟩=some (.slice none 0 0):=by subst hW;go_simp
 have hB:Below w.heap.size w W:=by subst hW;exact (((Below.refl _ _).alloc (by (try simp only [World.size_alloc]);omega) _).alloc (by (try simp only [World.size_alloc]);omega) _)
 have hR0:Row W (w.heap.size+1):=by
  have:=row_new ((w.alloc (.cells #[.bool s0,.slice a0 n0 c0,.slice b0 m0 d0] 74))) #[.bool false,.slice none 0 0,.slice none 0 0] 74
  try simp only [World.size_alloc] at this
  subst hW;exact this
 have hz:W.heap.size=w.heap.size+1+1:=by subst hW;simp only [World.size_alloc]
 rw [hW]
 clear hW
 have hBW:Below W.heap.size W W:=Below.refl _ _
 replace hBW:=hBW.drew
 first
  | go_region_held3 (fun w'=>w'.cell? ⟨w.heap.size,0,none⟩=some (.bool s0)∧w'.cell? ⟨w.heap.size,1,none⟩=some (.slice a0 n0 c0)∧w'.cell? ⟨w.heap.size,2,none⟩=some (.slice b0 m0 d0)∧Below w.heap.size w w')
    (first | exact ⟨q00,q01,q02,hB.trans (hBW.mono hB.size)⟩ | exact kp3 b41 (by assumption) | exact kp3 b42 (by assumption) | exact kp3 (below_alloc _) (by assumption) | exact kp3 (below_alloc _) ⟨q00,q01,q02,hB.trans (hBW.mono hB.size)⟩ | exact kpT3_3 (by assumption) (by omega) (by omega) (by omega) (by omega))
    (first
     | (go_at_call 80;(fail_if_success clear b41);refine (memInt_is s0 a0 n0 c0 X0 _ hm0 (sb hS0 hB hBW)).mono ?_;rintro e w41 ⟨a41,c41,rfl,g41,hn41⟩;have b41:=hn41.below;replace hn41:=hn41.back hBW;replace hBW:=hBW.trans (b41.mono hBW.size);replace q00:=below_cell b41 q00;replace q01:=below_cell b41 q01;replace q02:=below_cell b41 q02;replace r00:=below_cell b41 r00;replace r01:=below_cell b41 r01;replace r02:=below_cell b41 r02;replace hR0:=below_row b41 hR0)
     | (go_at_call 81;(fail_if_success clear b42);refine (memNat_is b0 m0 d0 Y0 _ hk0 (sb hT0 hB hBW)).mono ?_;rintro e w42 ⟨a42,c42,rfl,g42,hn42⟩;have b42:=hn42.below;replace hn42:=hn42.back hBW;replace hBW:=hBW.trans (b42.mono hBW.size);replace q00:=below_cell b42 q00;replace q01:=below_cell b42 q01;replace q02:=below_cell b42 q02;replace r00:=below_cell b42 r00;replace r01:=below_cell b42 r01;replace r02:=below_cell b42 r02;replace hR0:=below_row b42 hR0;replace hn41:=hn41.later b42;have fz:=fun o=>hR0.frozen o))
  | fail
 have fz0:=fun o=>hR0.frozen o
 go_wp2
 all_goals refine bodyPost_ret (v:=.agg #[.bool s0,.slice a41 n0 c41,.slice a42 m0 c42]) (by rw [results_cell rfl];go_simp) rfl ?_
 all_goals exact ⟨a41,c41,a42,c42,rfl,g41,g42,hn41.mid hB (((((Mid.refl _ _ _).set _ _ (by omega) (by omega) _).set _ _ (by omega) (by omega) _).set _ _ (by omega) (by omega) _)),hn42.mid hB (((((Mid.refl _ _ _).set _ _ (by omega) (by omega) _).set _ _ (by omega) (by omega) _).set _ _ (by omega) (by omega) _))⟩
def sigM (p:Mo):Int × Rat × Nat × Nat:=(p.1,p.2.val,p.2.n,p.2.m)
theorem sig_fo {L M:List Mo} (h:L.map sigM=M.map sigM):fo L=fo M:=by
 have h1:=congrArg (List.map fun s:Int × Rat × Nat × Nat=>(s.1,s.2.1)) h
 simp only [List.map_map] at h1
 exact h1
theorem sig_bul:∀ {L M:List Mo},L.map sigM=M.map sigM→bul L=bul M
 | [],[],_=>rfl
 | [],q :: M,h=>by simp at h
 | p :: L,[],h=>by simp at h
 | p :: L,q :: M,h=>by
  simp only [List.map_cons,List.cons.injEq] at h
  have h1:=sig_bul h.2
  have h2:=h.1
  simp only [sigM,Prod.mk.injEq] at h2
  simp only [bul,h1,h2.2.2.1,h2.2.2.2]
def CpF (w:World) (L:List Mo) (k:Nat) (vo:Value) (wr:World):Prop :=
 ∃ R:List Mo,R.length=k∧wr.ownsRow w.heap.size 76 4 vo R.length (cellsF R)∧Below w.heap.size w wr∧(∀ p∈R,p.2.ok wr∧p.2.frm w.heap.size∧∀ b,vo.ownBlock=some b→p.2.off b)∧R.map sigM=(L.take k).map sigM
theorem CpF.nil (w:World) (L:List Mo):CpF w L 0 (.slice none 0 0) w:=⟨[],rfl,World.ownsRow_nil _ _ _ _,Below.refl _ _,fun p hp=>absurd hp (by simp),rfl⟩
theorem CpF.push {w:World} {L:List Mo} {k:Nat} {vo:Value} {wB w1:World} {R:List Mo} (hk:R.length=k) (hB:Below w.heap.size w wB)
  (hR:∀ p∈R,p.2.ok wB∧p.2.frm w.heap.size∧∀ b,vo.ownBlock=some b→p.2.off b) (hs:R.map sigM=(L.take k).map sigM) (hrow:∀ b,vo.ownBlock=some b→w.heap.size≤b)
  {p:Mo} (hp:L[k]?=some p) (r:RatV) (hr:r.ok wB) (hf:r.frm w.heap.size) (hro:∀ b,vo.ownBlock=some b→r.off b) (hrn:r.n=p.2.n∧r.m=p.2.m∧r.val=p.2.val) {gb cap:Nat}
  (hown:w1.ownsRow w.heap.size 76 4 (.slice (some ⟨gb,0,none⟩) (R.length+1) cap) (R.length+1) (cellsF R ++ cells4 (p.1,r))) (hg:wB.grownBy w1 vo.ownBlock) (hat:vo.ownBlock=some gb∨gb=wB.heap.size) :
  CpF w L (k+1) (.slice (some ⟨gb,0,none⟩) (R.length+1) cap) w1:=by
 have hoff:∀ x:RatV,x.ok wB→(∀ b,vo.ownBlock=some b→x.off b)→∀ b,(Value.slice (some ⟨gb,0,none⟩) (R.length+1) cap).ownBlock=some b→x.off b:=by
  intro x hx ho b hb
  have:gb=b:=by simpa [Value.ownBlock] using hb
  subst this
  rcases hat with h | h
  ·exact ho _ h
  ·exact hx.off (by omega)
 refine ⟨R ++ [(p.1,r)],by simp [hk],own_push hown,hB.trans (below_grown hB.size hrow hg),fun q hq=>?_,?_⟩
 ·rcases List.mem_append.1 hq with hq | hq
  ·obtain ⟨h1,h2,h3⟩:=hR q hq
   exact ⟨h1.grown hg h3,h2,hoff _ h1 h3⟩
  ·obtain rfl:=List.mem_singleton.1 hq
   exact ⟨hr.grown hg hro,hf,hoff _ hr hro⟩
 ·rw [take_snoc hp,List.map_append,List.map_append,hs]
  simp only [List.map_cons,List.map_nil,sigM,hrn.1,hrn.2.1,hrn.2.2]
theorem CpF.done {w:World} {L:List Mo} {vo:Value} {wr:World} (h:CpF w L L.length vo wr):∃ F:FV,vo=F.val∧F.ok wr∧F.frm w.heap.size∧F.L.map sigM=L.map sigM∧(F.a=none→F.c=0)∧Below w.heap.size w wr:=by
 obtain ⟨R,hk,hO,hB,hR,hs⟩:=h
 rw [List.take_length] at hs
 obtain ⟨a,c,e,hS⟩:=Sl.of hO
 refine ⟨⟨a,c,R⟩,e,⟨hS.lies,fun p hp=>(hR p hp).1,hS.len⟩,⟨fun hn ad ea=>?_,fun p hp=>(hR p hp).2.1⟩,hs,hS.nn,hB⟩
 have ea:a=some ad:=ea
 subst ea
 have e2:vo.ownBlock=some ad.block:=by rw [e];rfl
 exact (hO.lt _ e2).1
def FCp (w:World) (F:FV) (e:Ending) (w':World):Prop :=
 ∃ G:FV,e=.returned G.val∧G.ok w'∧G.frm w.heap.size∧G.L.map sigM=F.L.map sigM∧(G.a=none→G.c=0)∧Below w.heap.size w w'
set_option maxHeartbeats 8000000 in
set_option maxRecDepth 100000 in
theorem memForm_is (X:FV) (w:World) (hX:X.ok w) (hm:X.L.length≤1048576) :
  Calls Tryz.prog 21 #[X.val] w (FCp w X):=by
 obtain ⟨a,c,L⟩:=X
 obtain ⟨hF,hok,hc⟩:=hX
 simp only at hF hok hc hm
 unfold FV.val
 simp only
 obtain ⟨i0,hi0,hz0,hz1,hz2⟩:=info_parts info_Mono
 obtain ⟨TT,hTT⟩:∃ TT,FCp w ⟨a,c,L⟩=TT:=⟨_,rfl⟩
 rw [hTT]
 replace hTT:=hide' hTT
 go_enter Tryz.func21,Tryz.ntmps21
 go_wp2_with fail
 go_loopw [3,4] (fun vo vi wr=>∃ k:Nat,k≤L.length∧vi=.int .i64 k∧CpF w L k vo wr) (fun _ vi _=>L.length - (intOf vi).toNat)
 case atStart=>exact ⟨0,Nat.zero_le _,rfl,CpF.nil _ _⟩
 case round =>
  obtain ⟨k,hk,rfl,hI⟩:=hrel
  by_cases hlt:k < L.length
  ·obtain ⟨p,hp⟩:∃ p,L[k]?=some p:=⟨L[k],List.getElem?_eq_getElem hlt⟩
   obtain ⟨bb,off,rfl,hbb,hcell⟩:=hF (by intro e;rw [e] at hlt;simp at hlt)
   obtain ⟨R,hRk,hO,hB,hR,hs⟩:=hI
   obtain ⟨d0,d1,d2,d3⟩:=hcell k p hp
   have h1:=hok p (List.mem_of_getElem? hp)
   replace d0:=below_cell hB d0
   replace d1:=below_cell hB d1
   replace d2:=below_cell hB d2
   replace d3:=below_cell hB d3
   have GR:=hide' (fun w' (hb:Below w.heap.size w w')=>memRat_is p.2.s p.2.a p.2.n p.2.c p.2.X p.2.b p.2.m p.2.e p.2.Y w' h1.2.1 (by have:=h1.2.2.1;omega) (h1.later hb).1 h1.2.2.2.2.1 (by have:=h1.2.2.2.2.2;omega) (h1.later hb).2.2.2.1)
   have PU:=hide' (fun (w2 w9:World) (hb:Below wr.heap.size wr w2) r=>@CpF.push w L k u3 w2 w9 R hRk (hB.trans (hb.mono hB.size)) (fun q hq=>⟨(hR q hq).1.later hb,(hR q hq).2⟩) hs (fun b hb=>(hO.lt b hb).1) p hp r)
   have HR:=hide' hRk
   have HP:=hide' (show p.2.n≤35184372087808∧p.2.m≤35184372087808 from ⟨h1.2.2.1,h1.2.2.2.2.2⟩)
   have hrow:=fun k hk=>(hO.lt k hk)
   have j0:(0:Int)≤(k:Int):=by omega
   have j1:(k:Int) < (L.length:Int):=by omega
   obtain ⟨x,q⟩:=p
   simp only at d0 d1 d2 d3 GR PU HP
   clear hcell hF hok h1 hp hR hs hRk
   go_wp2_with fail
   have bT:Below wr.heap.size wr wr:=Below.refl _ _
   have bD:Below wr.heap.size wr wr.drew:=(Below.refl _ _).drew
   have kd0:=below_cell bD d0
   have kd1:=below_cell bD d1
   have kd2:=below_cell bD d2
   have kd3:=below_cell bD d3
   replace bT:=bT.trans (bD.mono bT.size)
   refine wp_region_held_drew (S:=fun w'=>w'.cell? ⟨bb,off+k*4,none⟩=some (.int .i64 x)∧w'.cell? ⟨bb,off+k*4+1,none⟩=some (.bool q.s)∧w'.cell? ⟨bb,off+k*4+1+1,none⟩=some (.slice q.a q.n q.c)∧w'.cell? ⟨bb,off+k*4+1+2,none⟩=some (.slice q.b q.m q.e)) (by kernel_rfl) ⟨kd0,kd1,kd2,kd3⟩ (fun hHeld=>?_)
   clear kd0 kd1 kd2 kd3
   generalize wr.drew=w1 at bD bT hHeld ⊢
   clear bD d0 d1 d2 d3
   refine tk 0 (v:=?_) rfl (Or.inl ⟨by rfl,?_⟩) ?_
   rotate_left
   ·intro w9 hSw
    go_simp
    first | done | with_reducible rfl
   simp only [pP,pN,pS,pZ,pC]
   refine tk 1 (v:=?_) rfl (Or.inl ⟨by rfl,?_⟩) ?_
   rotate_left
   ·intro w9 hSw
    go_simp
    first | done | with_reducible rfl
   simp only [pP,pN,pS,pZ,pC]
   refine tk 2 (v:=?_) rfl (Or.inl ⟨by rfl,?_⟩) ?_
   rotate_left
   ·intro w9 hSw
    go_simp
    first | done | with_reducible rfl
   simp only [pP,pN,pS,pZ,pC]
   refine tk 3 (v:=?_) rfl (Or.inl ⟨by rfl,?_⟩) ?_
   rotate_left
   ·intro w9 hSw
    go_simp
    first | done | with_reducible rfl
   simp only [pP,pN,pS,pZ,pC]
   refine tk 4 (v:=?_) rfl (Or.inl ⟨by rfl,?_⟩) ?_
   rotate_left
   ·intro w9 hSw
    go_simp
    first | done | with_reducible rfl
   simp only [pP,pN,pS,pZ,pC]
   refine tk 5 (v:=?_) rfl (Or.inl ⟨by rfl,?_⟩) ?_
   rotate_left
   ·intro w9 hSw
    go_simp
    first | done | with_reducible rfl
   simp only [pP,pN,pS,pZ,pC]
   refine tk 6 (v:=?_) rfl (Or.inl ⟨by rfl,?_⟩) ?_
   rotate_left
   ·intro w9 hSw
    go_simp
    first | done | with_reducible rfl
   simp only [pP,pN,pS,pZ,pC]
   refine tk 7 (v:=?_) rfl (Or.inl ⟨by rfl,?_⟩) ?_
   rotate_left
   ·intro w9 hSw
    go_simp
    first | done | with_reducible rfl
   simp only [pP,pN,pS,pZ,pC]
   refine tk 8 (v:=?_) rfl (Or.inl ⟨by rfl,?_⟩) ?_
   rotate_left
   ·intro w9 hSw
    go_simp
    first | done | with_reducible rfl
   simp only [pP,pN,pS,pZ,pC]
   refine tk 9 (v:=?_) rfl (Or.inl ⟨by rfl,?_⟩) ?_
   rotate_left
   ·intro w9 hSw
    go_simp
    first | done | with_reducible rfl
   simp only [pP,pN,pS,pZ,pC]
   refine tk 10 (v:=?_) rfl (Or.inl ⟨by rfl,?_⟩) ?_
   rotate_left
   ·intro w9 hSw
    go_simp
    first | done | with_reducible rfl
   simp only [pP,pN,pS,pZ,pC]
   have sw1:=bT.size
   refine wpAnyH_ready (rs:=[11]) (by kernel_rfl) (by simp) ?_
   refine cons' rfl (fun KK hKK=>?_)
   go_simp
   refine (GR.out _ (hB.trans (bT.mono hB.size))).mono ?_
   rintro e w2 ⟨p1,c1,q1,c2,rfl,u1,u2,n1,n2⟩
   have bC:=n1.below
   replace bT:=bT.trans (bC.mono bT.size)
   replace hHeld:=(⟨below_cell bC hHeld.1,below_cell bC hHeld.2.1,below_cell bC hHeld.2.2.1,below_cell bC hHeld.2.2.2⟩:_∧_∧_∧_)
   clear bC
   go_wp2_with fail
   have g1:=n1.seg
   have g2:=n2.seg
   have f1:=n1.fr
   have f2:=n2.fr
   clear n1 n2
   refine hKK.out _ _ hHeld ?_
   clear hHeld
   intro hHeld
   clear hKK KK
   try simp only [pP,pN,pS,pZ,pC]
   refine tk 12 (v:=?_) rfl (Or.inl ⟨by rfl,?_⟩) ?_
   rotate_left
   ·intro w9 hSw
    go_simp
    first | done | with_reducible rfl
   simp only [pP,pN,pS,pZ,pC]
   refine wpAnyH_ready (rs:=[13]) (by kernel_rfl) (by simp) ?_
   refine cons' rfl (fun KK hKK=>?_)
   go_simp
   have hnew:=heap_alloc_new w2 (.cells #[.int .i64 x,.bool q.s,.slice p1 q.n c1,.slice q1 q.m c2] 76)
   have b3:=below_alloc (w:=w2) (.cells #[.int .i64 x,.bool q.s,.slice p1 q.n c1,.slice q1 q.m c2] 76)
   generalize w2.alloc (.cells #[.int .i64 x,.bool q.s,.slice p1 q.n c1,.slice q1 q.m c2] 76)=w3 at hnew b3 ⊢
   replace bT:=bT.trans (b3.mono bT.size)
   replace g1:=g1.later b3
   replace g2:=g2.later b3
   replace hHeld:=(⟨below_cell b3 hHeld.1,below_cell b3 hHeld.2.1,below_cell b3 hHeld.2.2.1,below_cell b3 hHeld.2.2.2⟩:_∧_∧_∧_)
   refine hKK.out _ _ hHeld ?_
   clear hHeld
   intro hHeld
   clear hKK KK
   try simp only [pP,pN,pS,pZ,pC]
   have hO3:=own_below hO bT
   have s3:=bT.size
   have sB:=hB.size
   have hRl:R.length≤1048576:=by have:=HR.out;omega
   refine wpAnyH_ready (rs:=[14]) (by kernel_rfl) (by simp) ?_
   refine cons' rfl (fun KK hKK=>?_)
   refine step_append_lies _ (by rfl) _ _ _ (by rfl) w.heap.size 76 i0 _ 4 64 Tryz.underlying35 hi0 hz0 hz1 hz2 rfl (by omega) u3 R.length (cellsF R) (by rfl) hO3 ⟨w2.heap.size,0,none⟩ 1 1 [.int .i64 x,.bool q.s,.slice p1 q.n c1,.slice q1 q.m c2] (by rfl) (by rfl) (World.news_of_block (cs:=#[.int .i64 x,.bool q.s,.slice p1 q.n c1,.slice q1 q.m c2]) (t:=76) (fr:=(0,0)) hnew) (by simp [Value.oneCell']) (by omega) (by simp only [maxLen];omega) (by omega) (by omega) w3.heap.size rfl ?_
   intro gb cap w4 hown4 hgrow hat hlt4
   have far:∀ {c o:Nat} {u:Value},c < w.heap.size→w3.cell? ⟨c,o,none⟩=some u→w4.cell? ⟨c,o,none⟩=some u:=fun hc hu=>hgrow.cell hu (fun e=>by have:=hrow _ e.symm;simp only at this;omega)
   have I1:=hide' (PU.out w3 w4 bT ⟨q.s,p1,q.n,c1,q.X,q1,q.m,c2,q.Y⟩ ⟨g1,u1,Nat.le_trans HP.out.1 (by omega),g2,u2,Nat.le_trans HP.out.2 (by omega)⟩ ⟨fun hn ad e=>Nat.le_trans (by omega) (f1 hn ad e),fun hn ad e=>Nat.le_trans (by omega) (f2 hn ad e)⟩ (fun b hb=>⟨fun hn ad e=>by have h1:=f1 hn ad e;have h2:=(hrow b hb).2;omega,fun hn ad e=>by have h1:=f2 hn ad e;have h2:=(hrow b hb).2;omega⟩) ⟨rfl,rfl,rfl⟩ hown4 hgrow hat)
   refine hKK.out _ _ ⟨far hbb hHeld.1,far hbb hHeld.2.1,far hbb hHeld.2.2.1,far hbb hHeld.2.2.2⟩ ?_
   clear hHeld far hO3 hnew b3 g1 g2 f1 f2 hgrow hown4 hat hlt4 PU
   intro hHeld
   clear hKK KK
   try simp only [pP,pN,pS,pZ,pC]
   refine tk 15 (v:=?_) rfl (Or.inl ⟨by rfl,?_⟩) ?_
   rotate_left
   ·intro w9 hSw
    go_simp
    first | done | with_reducible rfl
   simp only [pP,pN,pS,pZ,pC]
   refine wpAnyH_done (by kernel_rfl) ?_ _
   go_wp2
   go_roundw
   case rel=>exact ⟨k+1,by omega,by go_num,I1.out⟩
   case measure=>simp [intOf];omega
  ·obtain rfl:k=L.length:=by omega
   have i1:¬ (L.length:Int) < (L.length:Int):=by omega
   obtain ⟨G,rfl,hG,hfr,hsg,hnn,hB⟩:=hI.done
   have HG:=hide' (show FCp w ⟨a,c,L⟩ (.returned G.val) wr from ⟨G,rfl,hG,hfr,hsg,hnn,hB⟩)
   rw [hTT.out] at HG
   clear hI hG hfr hsg hnn hB hF hok
   go_wp2
   first | exact HG.out | (go_ret;exact HG.out)
def sgR (r:RowV):Int × List (Int × Rat × Nat × Nat):=(r.1,r.2.L.map sigM)
theorem sgR_tb {S R:List RowV} (h:S.map sgR=R.map sgR):tb S=tb R:=by
 have h1:=congrArg (List.map fun s:Int × List (Int × Rat × Nat × Nat)=>(s.1,s.2.map fun t=>(t.1,t.2.1))) h
 simp only [List.map_map] at h1
 have e:∀ r:RowV,((fun s:Int × List (Int × Rat × Nat × Nat)=>(s.1,s.2.map fun t=>(t.1,t.2.1))) ∘ sgR) r=(r.1,r.2.fo):=fun r=>by
  show (r.1,(r.2.L.map sigM).map fun t=>(t.1,t.2.1))=_
  rw [List.map_map]
  rfl
 rw [show ((fun s:Int × List (Int × Rat × Nat × Nat)=>(s.1,s.2.map fun t=>(t.1,t.2.1))) ∘ sgR)=fun r:RowV=>(r.1,r.2.fo) from funext e] at h1
 exact h1
theorem sgR_bul:∀ {S R:List RowV},S.map sgR=R.map sgR→bulT S=bulT R
 | [],[],_=>rfl
 | [],q :: M,h=>by simp at h
 | p :: L,[],h=>by simp at h
 | p :: L,q :: M,h=>by
  simp only [List.map_cons,List.cons.injEq] at h
  have h1:=sgR_bul h.2
  have h2:=h.1
  simp only [sgR,Prod.mk.injEq] at h2
  simp only [bulT,h1,sig_bul h2.2]
theorem sgR_length {S R:List RowV} (h:S.map sgR=R.map sgR):S.length=R.length:=by simpa using congrArg List.length h
theorem sgR_mem {S R:List RowV} (h:S.map sgR=R.map sgR) {s:RowV} (hs:s∈S):∃ r∈R,s.1=r.1∧s.2.fo=r.2.fo:=by
 have h1:sgR s∈R.map sgR:=by rw [←h];exact List.mem_map.2 ⟨s,hs,rfl⟩
 obtain ⟨r,hr,e⟩:=List.mem_map.1 h1
 simp only [sgR,Prod.mk.injEq] at e
 exact ⟨r,hr,e.1.symm,sig_fo e.2.symm⟩
def TwA (w:World) (V:Int) (R:List RowV) (e:Ending) (w':World):Prop :=
 ∃ (S:List RowV) (a:Option Addr) (c:Nat),e=.returned (.agg #[.int .i64 V,.slice a S.length c])∧Below w.heap.size w w'∧TIn w' a S∧S.length≤c∧S.map sgR=R.map sgR
theorem FV.ok.setq {w:World} {F:FV} {q o:Nat} {u:Value} (h:F.ok w) (hf:F.off q):F.ok (w.setCell ⟨q,o,none⟩ u) :=
 h.grown (row:=some q) ⟨rfl,rfl,rfl,by simp [World.setCell],fun i hi hne=>Below.heap_setCell _ _ _ _ (fun e=>hne (by rw [e]))⟩ fun g e=>by injection e with e;subst e;exact hf
structure TwM (w w2:World) (q:Nat) (V:Int) (R:List RowV) (k:Nat) (S:List RowV) (vo:Value) (wr:World):Prop where
 tol:ToI w w2 q V S S.length vo wr
 nk:∀ r∈S,r.2.ok wr∧r.2.frm w2.heap.size∧∀ b,vo.ownBlock=some b→r.2.off b
 sg:S.map sgR=(R.take k).map sgR
theorem TwM.push {w w2:World} {q:Nat} {V:Int} {R S:List RowV} {k:Nat} {vo:Value} {wr wB w9:World} (h:TwM w w2 q V R k S vo wr) (hq:w.heap.size≤q∧q < w2.heap.size) (hw:w.heap.size≤w2.heap.size) (hb:Below wr.heap.size wr wB)
  {v:Int} {X F:FV} (hm:R[k]?=some (v,X)) (he:F.L.map sigM=X.L.map sigM) (hF:F.ok wB) (hFf:F.frm wr.heap.size) {gb cap:Nat}
  (hown:w9.ownsRow w2.heap.size 65 2 (.slice (some ⟨gb,0,none⟩) (S.length+1) cap) (S.length+1) (cellsR S ++ cells2 (v,F))) (hg:wB.grownBy w9 vo.ownBlock) (hat:vo.ownBlock=some gb∨gb=wB.heap.size) :
  w9.cell? ⟨q,1,none⟩=some vo∧Row w9 q∧TwM w w2 q V R (k+1) (S ++ [(v,F)]) (.slice (some ⟨gb,0,none⟩) (S.length+1) cap) (w9.setCell ⟨q,1,none⟩ (.slice (some ⟨gb,0,none⟩) (S.length+1) cap)):=by
 have hl:(S ++ [(v,F)]).length=S.length+1:=by simp
 have e1:(S ++ [(v,F)]).take S.length=S:=by simp
 have hat2:(S ++ [(v,F)])[S.length]?=some (v,F):=by simp
 obtain ⟨p1,p2,p3⟩:=(h.tol.congr (S':=S ++ [(v,F)]) (by rw [e1,List.take_length])).push hq hw hb hat2 (by rw [e1];exact hown) hg
 have hlt:=fun j (hj:vo.ownBlock=some j)=>h.tol.own.lt j hj
 have hsz:=h.tol.but.size
 have hall:∀ G:FV,G.ok wB→G.frm w2.heap.size→(∀ b,vo.ownBlock=some b→G.off b)→G.ok (w9.setCell ⟨q,1,none⟩ (.slice (some ⟨gb,0,none⟩) (S.length+1) cap))∧G.frm w2.heap.size∧∀ b,(Value.slice (some ⟨gb,0,none⟩) (S.length+1) cap).ownBlock=some b→G.off b:=by
  intro G hG hGf hGo
  refine ⟨(hG.grown hg hGo).setq (hGf.off hq.2),hGf,fun b hb2=>?_⟩
  have:gb=b:=by simpa [Value.ownBlock] using hb2
  subst this
  rcases hat with h | h
  ·exact hGo _ h
  ·exact hG.off (by omega)
 refine ⟨p1,p2,by rw [hl];exact p3,fun r hr=>?_,?_⟩
 ·rcases List.mem_append.1 hr with hr | hr
  ·obtain ⟨a1,a2,a3⟩:=h.nk r hr
   exact hall _ (a1.later hb) a2 a3
  ·rw [List.mem_singleton.1 hr]
   exact hall F hF (hFf.mono hsz) fun b hb2=>hFf.off (hlt b hb2).2
 ·rw [take_snoc hm,List.map_append,List.map_append,h.sg]
  simp only [List.map_cons,List.map_nil,sgR,he]
set_option maxHeartbeats 16000000 in
set_option maxRecDepth 100000 in
theorem twin_is (V:Int) (a:Option Addr) (c:Nat) (R:List RowV) (w:World) (hT:TIn w a R) (hc:R.length≤c) (hbu:bulT R≤2097152) :
  Calls Tryz.prog 13 #[.agg #[.int .i64 V,.slice a R.length c]] w (TwA w V R):=by
 obtain ⟨i0,hi0,hz0,hz1,hz2⟩:=info_parts info_Row
 obtain ⟨TQ,hTQ⟩:∃ TQ,TwA w V R=TQ:=⟨_,rfl⟩
 rw [hTQ]
 replace hTQ:=hide' hTQ
 have hlen:R.length≤1048576:=by have:=bulT_len R;omega
 have GN:=hide' (fun r (hr:r∈R) w' (hb:Below w.heap.size w w')=>memForm_is r.2 w' ((hT.forms r hr).later hb) (by have:=bulT_mem hr;have:=bul_len r.2.L;omega))
 have HAt:=hide' hT.at_
 have HWf:=hide' hT.wf
 clear hT
 have b1:=below_alloc (w:=w) (.cells #[.int .i64 V,.slice a R.length c] 24)
 have b2:=below_alloc (w:=w.alloc (.cells #[.int .i64 V,.slice a R.length c] 24)) (.cells #[.int .i64 0,.slice none 0 0] 24)
 have b3:=below_alloc (w:=(w.alloc (.cells #[.int .i64 V,.slice a R.length c] 24)).alloc (.cells #[.int .i64 0,.slice none 0 0] 24)) (.cells #[.int .i64 V,.slice none 0 0] 24)
 have hsz:(((w.alloc (.cells #[.int .i64 V,.slice a R.length c] 24)).alloc (.cells #[.int .i64 0,.slice none 0 0] 24)).alloc (.cells #[.int .i64 V,.slice none 0 0] 24)).heap.size=w.heap.size+1+1+1:=by simp
 have m0:(((w.alloc (.cells #[.int .i64 V,.slice a R.length c] 24)).alloc (.cells #[.int .i64 0,.slice none 0 0] 24)).alloc (.cells #[.int .i64 V,.slice none 0 0] 24)).cell? ⟨w.heap.size,0,none⟩=some (.int .i64 V):=by go_simp
 have m1:(((w.alloc (.cells #[.int .i64 V,.slice a R.length c] 24)).alloc (.cells #[.int .i64 0,.slice none 0 0] 24)).alloc (.cells #[.int .i64 V,.slice none 0 0] 24)).cell? ⟨w.heap.size,1,none⟩=some (.slice a R.length c):=by go_simp
 have z0:(((w.alloc (.cells #[.int .i64 V,.slice a R.length c] 24)).alloc (.cells #[.int .i64 0,.slice none 0 0] 24)).alloc (.cells #[.int .i64 V,.slice none 0 0] 24)).cell? ⟨w.heap.size+1,0,none⟩=some (.int .i64 0):=by go_simp
 have z1:(((w.alloc (.cells #[.int .i64 V,.slice a R.length c] 24)).alloc (.cells #[.int .i64 0,.slice none 0 0] 24)).alloc (.cells #[.int .i64 V,.slice none 0 0] 24)).cell? ⟨w.heap.size+1,1,none⟩=some (.slice none 0 0):=by go_simp
 have c0:(((w.alloc (.cells #[.int .i64 V,.slice a R.length c] 24)).alloc (.cells #[.int .i64 0,.slice none 0 0] 24)).alloc (.cells #[.int .i64 V,.slice none 0 0] 24)).cell? ⟨w.heap.size+1+1,0,none⟩=some (.int .i64 V):=by go_simp
 have c1:(((w.alloc (.cells #[.int .i64 V,.slice a R.length c] 24)).alloc (.cells #[.int .i64 0,.slice none 0 0] 24)).alloc (.cells #[.int .i64 V,.slice none 0 0] 24)).cell? ⟨w.heap.size+1+1,1,none⟩=some (.slice none 0 0):=by go_simp
 have rz:Row (((w.alloc (.cells #[.int .i64 V,.slice a R.length c] 24)).alloc (.cells #[.int .i64 0,.slice none 0 0] 24)).alloc (.cells #[.int .i64 V,.slice none 0 0] 24)) (w.heap.size+1):=by have:=below_row b3 (row_new (w.alloc (.cells #[.int .i64 V,.slice a R.length c] 24)) #[.int .i64 0,.slice none 0 0] 24);simpa using this
 have rq:Row (((w.alloc (.cells #[.int .i64 V,.slice a R.length c] 24)).alloc (.cells #[.int .i64 0,.slice none 0 0] 24)).alloc (.cells #[.int .i64 V,.slice none 0 0] 24)) (w.heap.size+1+1):=by have:=row_new ((w.alloc (.cells #[.int .i64 V,.slice a R.length c] 24)).alloc (.cells #[.int .i64 0,.slice none 0 0] 24)) #[.int .i64 V,.slice none 0 0] 24;simpa using this
 have hBw:=b1.trans ((b2.trans (b3.mono b2.size)).mono b1.size)
 clear b1 b2 b3
 go_enter Tryz.func13,Tryz.ntmps13
 go_wp2_with fail
 obtain ⟨w2,hw2⟩:∃ w2,(((w.alloc (.cells #[.int .i64 V,.slice a R.length c] 24)).alloc (.cells #[.int .i64 0,.slice none 0 0] 24)).alloc (.cells #[.int .i64 V,.slice none 0 0] 24))=w2:=⟨_,rfl⟩
 rw [hw2] at m0 m1 z0 z1 c0 c1 rz rq hBw hsz ⊢
 clear hw2
 obtain ⟨q,hq⟩:∃ q,w.heap.size+1+1=q:=⟨_,rfl⟩
 rw [hq] at c0 c1 rq hsz
 try rw [hq]
 obtain ⟨rb,hrb⟩:∃ rb,w.heap.size+1=rb:=⟨_,rfl⟩
 rw [hrb] at z0 z1 rz hq
 try rw [hrb]
 have HQ:=hide' (show (w.heap.size≤q∧q < w2.heap.size)∧w.heap.size≤w2.heap.size∧w.heap.size≠q∧w.heap.size≤rb∧rb≠q∧rb < w2.heap.size by omega)
 clear hq hrb hsz
 have I0:TwM w w2 q V R 0 [] (.slice none 0 0) w2:=⟨⟨hBw,But.refl _ _,World.ownsRow_nil _ _ _ _,c0,c1,rq⟩,fun r hr=>absurd hr (by simp),rfl⟩
 have HZ:=hide' (show w2.cell? ⟨rb,0,none⟩=some (.int .i64 0)∧w2.cell? ⟨rb,1,none⟩=some (.slice none 0 0)∧Row w2 rb from ⟨z0,z1,rz⟩)
 have HM0:=hide' m0
 have HM1:=hide' m1
 clear c0 c1 rq z0 z1 rz hBw m0 m1
 go_loopw [4] (fun vi wr=>∃ (k:Nat) (S:List RowV) (vo:Value),k≤R.length∧vi=.int .i64 k∧TwM w w2 q V R k S vo wr) (fun vi _=>R.length - (intOf vi).toNat)
 case atStart=>exact ⟨0,[],_,Nat.zero_le _,rfl,I0⟩
 case round =>
  clear I0
  obtain ⟨k,S,vo,hk,rfl,hI⟩:=hrel
  have hown:=hI.tol.own
  have eS:S.take S.length=S:=List.take_length
  rw [eS] at hown
  clear eS
  obtain ⟨ar,cr,rfl,hcr,hcm,hTA⟩:=own_tab hown
  have c0:=hI.tol.c0
  have c1:=hI.tol.c1
  have m0:=hI.tol.but.cell HM0.out HQ.out.2.2.1
  have m1:=hI.tol.but.cell HM1.out HQ.out.2.2.1
  have hBr:=hI.tol.bel
  have hSk:S.length≤1048576:=by have:=congrArg List.length hI.sg;simp only [List.length_map,List.length_take] at this;omega
  by_cases hlt:k < R.length
  ·obtain ⟨s9,hs9⟩:∃ r,R[k]?=some r:=⟨R[k],List.getElem?_eq_getElem hlt⟩
   have hsm:=List.mem_of_getElem? hs9
   obtain ⟨bb,off,rfl,hbb,hcell⟩:=HAt.out (by intro e;rw [e] at hlt;simp at hlt)
   obtain ⟨d0,d1⟩:=hcell k s9 hs9
   replace d0:=below_cell hBr d0
   replace d1:=below_cell hBr d1
   have G1:=hide' (GN.out s9 hsm)
   have HOw:=hide' hown
   have HI:=hide' hI
   have PU:=hide' (fun wB w9 (hb:Below wr.heap.size wr wB) F he hF hFf gb cap hown hg hat=>HI.out.push (wB:=wB) (w9:=w9) (gb:=gb) (cap:=cap) (v:=s9.1) (X:=s9.2) (F:=F) HQ.out.1 HQ.out.2.1 hb hs9 he hF hFf hown hg hat)
   have hlt9:=fun j hj=>(HOw.out.lt j hj)
   have hbq:bb≠q∧w.heap.size≠q:=by have:=HQ.out;omega
   obtain ⟨x,X⟩:=s9
   obtain ⟨Xa,Xc,XL⟩:=X
   unfold FV.val at d1
   simp only at d0 d1 G1 PU
   try unfold FV.val at G1
   have i1:(0:Int)≤(k:Int):=by omega
   have i2:(k:Int) < (R.length:Int):=by omega
   clear hcell hs9 GN HAt hsm hI hTA hown
   go_wp2_with fail
   have bT:Below wr.heap.size wr wr:=Below.refl _ _
   have bD:Below wr.heap.size wr wr.drew:=(Below.refl _ _).drew
   have km0:=below_cell bD m0
   have km1:=below_cell bD m1
   have kd0:=below_cell bD d0
   have kd1:=below_cell bD d1
   replace bT:=bT.trans (bD.mono bT.size)
   refine wp_region_held_drew (S:=fun w'=>w'.cell? ⟨w.heap.size,0,none⟩=some (.int .i64 V)∧w'.cell? ⟨w.heap.size,1,none⟩=some (.slice (some ⟨bb,off,none⟩) R.length c)∧w'.cell? ⟨bb,off+k*2,none⟩=some (.int .i64 x)∧w'.cell? ⟨bb,off+k*2+1,none⟩=some (.slice Xa XL.length Xc)) (by kernel_rfl) ⟨km0,km1,kd0,kd1⟩ (fun hHeld=>?_)
   clear km0 km1 kd0 kd1
   generalize wr.drew=w4 at bD bT hHeld ⊢
   clear bD m0 m1 d0 d1
   refine tk 0 (v:=?_) rfl (Or.inl ⟨by rfl,?_⟩) ?_
   rotate_left
   ·intro w9 hSw
    go_simp
    first | done | with_reducible rfl
   simp only [pP,pN,pS,pZ,pC]
   refine tk 2 (v:=?_) rfl (Or.inl ⟨by rfl,?_⟩) ?_
   rotate_left
   ·intro w9 hSw
    go_simp
    first | done | with_reducible rfl
   simp only [pP,pN,pS,pZ,pC]
   refine tk 3 (v:=?_) rfl (Or.inl ⟨by rfl,?_⟩) ?_
   rotate_left
   ·intro w9 hSw
    go_simp
    first | done | with_reducible rfl
   simp only [pP,pN,pS,pZ,pC]
   refine tk 4 (v:=?_) rfl (Or.inl ⟨by rfl,?_⟩) ?_
   rotate_left
   ·intro w9 hSw
    go_simp
    first | done | with_reducible rfl
   simp only [pP,pN,pS,pZ,pC]
   refine tk 5 (v:=?_) rfl (Or.inl ⟨by rfl,?_⟩) ?_
   rotate_left
   ·intro w9 hSw
    go_simp
    first | done | with_reducible rfl
   simp only [pP,pN,pS,pZ,pC]
   refine tk 6 (v:=?_) rfl (Or.inl ⟨by rfl,?_⟩) ?_
   rotate_left
   ·intro w9 hSw
    go_simp
    first | done | with_reducible rfl
   simp only [pP,pN,pS,pZ,pC]
   refine tk 7 (v:=?_) rfl (Or.inl ⟨by rfl,?_⟩) ?_
   rotate_left
   ·intro w9 hSw
    go_simp
    first | done | with_reducible rfl
   simp only [pP,pN,pS,pZ,pC]
   refine tk 8 (v:=?_) rfl (Or.inl ⟨by rfl,?_⟩) ?_
   rotate_left
   ·intro w9 hSw
    go_simp
    first | done | with_reducible rfl
   simp only [pP,pN,pS,pZ,pC]
   refine tk 9 (v:=?_) rfl (Or.inl ⟨by rfl,?_⟩) ?_
   rotate_left
   ·intro w9 hSw
    go_simp
    first | done | with_reducible rfl
   simp only [pP,pN,pS,pZ,pC]
   refine tk 10 (v:=?_) rfl (Or.inl ⟨by rfl,?_⟩) ?_
   rotate_left
   ·intro w9 hSw
    go_simp
    first | done | with_reducible rfl
   simp only [pP,pN,pS,pZ,pC]
   refine tk 11 (v:=?_) rfl (Or.inl ⟨by rfl,?_⟩) ?_
   rotate_left
   ·intro w9 hSw
    go_simp
    first | done | with_reducible rfl
   simp only [pP,pN,pS,pZ,pC]
   refine tk 12 (v:=?_) rfl (Or.inl ⟨by rfl,?_⟩) ?_
   rotate_left
   ·intro w9 hSw
    go_simp
    first | done | with_reducible rfl
   simp only [pP,pN,pS,pZ,pC]
   refine tk 13 (v:=?_) rfl (Or.inl ⟨by rfl,?_⟩) ?_
   rotate_left
   ·intro w9 hSw
    go_simp
    first | done | with_reducible rfl
   simp only [pP,pN,pS,pZ,pC]
   refine wpAnyH_ready (rs:=[1,14]) (by kernel_rfl) (by simp) ?_
   refine consT rfl (fun KK hKK=>?_) ?_
   ·skip
    have cq:=below_cell bT c1
    go_simp
    clear cq
    refine hKK.out _ _ hHeld ?_
    clear hHeld
    intro hHeld
    clear hKK KK
    try simp only [pP,pN,pS,pZ,pC]
    refine wpAnyH_ready (rs:=[14]) (by kernel_rfl) (by simp) ?_
    refine cons' rfl (fun KK hKK=>?_)
    have hs5:=bT.size
    go_simp
    refine (G1.out _ (hBr.trans (bT.mono hBr.size))).mono ?_
    rintro e w5 ⟨⟨Fa,Fc,FL⟩,rfl,hFk,hFf,hfo,hnn,bN⟩
    have bC:=bN
    replace bT:=bT.trans (bC.mono bT.size)
    replace hHeld:=(⟨below_cell bC hHeld.1,below_cell bC hHeld.2.1,below_cell bC hHeld.2.2.1,below_cell bC hHeld.2.2.2⟩:_∧_∧_∧_)
    clear bC
    go_wp2_with fail
    replace hFf:=hFf.mono hs5
    clear bN hs5 hnn
    unfold FV.val
    simp only
    refine hKK.out _ _ hHeld ?_
    clear hHeld
    intro hHeld
    clear hKK KK
    try simp only [pP,pN,pS,pZ,pC]
    refine tk 15 (v:=?_) rfl (Or.inl ⟨by rfl,?_⟩) ?_
    rotate_left
    ·intro w9 hSw
     go_simp
     first | done | with_reducible rfl
    simp only [pP,pN,pS,pZ,pC]
    refine wpAnyH_ready (rs:=[16]) (by kernel_rfl) (by simp) ?_
    refine cons' rfl (fun KK hKK=>?_)
    go_simp
    have hnew:=heap_alloc_new w5 (.cells #[.int .i64 x,.slice Fa FL.length Fc] 65)
    have b3:=below_alloc (w:=w5) (.cells #[.int .i64 x,.slice Fa FL.length Fc] 65)
    generalize w5.alloc (.cells #[.int .i64 x,.slice Fa FL.length Fc] 65)=w6 at hnew b3 ⊢
    replace bT:=bT.trans (b3.mono bT.size)
    replace hFk:=hFk.later b3
    replace hHeld:=(⟨below_cell b3 hHeld.1,below_cell b3 hHeld.2.1,below_cell b3 hHeld.2.2.1,below_cell b3 hHeld.2.2.2⟩:_∧_∧_∧_)
    clear b3
    refine hKK.out _ _ hHeld ?_
    clear hHeld
    intro hHeld
    clear hKK KK
    try simp only [pP,pN,pS,pZ,pC]
    refine wpAnyH_ready (rs:=[17]) (by kernel_rfl) (by simp) ?_
    refine cons' rfl (fun KK hKK=>?_)
    have hO3:=own_below HOw.out bT
    have s3:=bT.size
    have s4:=HI.out.tol.but.size
    refine step_append_lies _ (by rfl) _ _ _ (by rfl) w2.heap.size 65 i0 _ 2 32 Tryz.underlying22 hi0 hz0 hz1 hz2 rfl (by omega) (.slice ar S.length cr) S.length (cellsR S) (by rfl) hO3 ⟨w5.heap.size,0,none⟩ 1 1 [.int .i64 x,.slice Fa FL.length Fc] (by rfl) (by rfl) (World.news_of_block (cs:=#[.int .i64 x,.slice Fa FL.length Fc]) (t:=65) (fr:=(0,0)) hnew) (by simp [Value.oneCell']) (by omega) (by simp only [maxLen];omega) (by omega) (by omega) w6.heap.size rfl ?_
    intro gb cap w9 hown4 hgrow hat hlt4
    obtain ⟨p1,p2,p3⟩:=PU.out w6 w9 bT ⟨Fa,Fc,FL⟩ hfo hFk hFf gb cap hown4 hgrow hat
    replace p3:=hide' p3
    have far:∀ {b o:Nat} {u:Value},b < w2.heap.size→w6.cell? ⟨b,o,none⟩=some u→w9.cell? ⟨b,o,none⟩=some u:=fun hb hu=>hgrow.cell hu (fun e=>by have:=(hlt9 _ e.symm).1;simp only at this;omega)
    have hh:=HQ.out
    refine hKK.out _ _ ⟨far (by omega) hHeld.1,far (by omega) hHeld.2.1,far (by omega) hHeld.2.2.1,far (by omega) hHeld.2.2.2⟩ ?_
    clear hHeld
    intro hHeld
    clear hKK KK
    try simp only [pP,pN,pS,pZ,pC]
    clear hh far hown4 hgrow hat hlt4 hO3 hnew
    refine tk 18 (v:=?_) rfl (Or.inl ⟨by rfl,?_⟩) ?_
    rotate_left
    ·intro w9 hSw
     go_simp
     first | done | with_reducible rfl
    simp only [pP,pN,pS,pZ,pC]
    refine wpAnyH_ready (rs:=[19]) (by kernel_rfl) (by simp) ?_
    refine cons' rfl (fun KK hKK=>?_)
    have fz:=fun o=>p2.frozen o
    clear p2
    have hH2:=(⟨far1 (q:=q) (o:=1) (u:=.slice (some ⟨gb,0,none⟩) (S.length+1) cap) hHeld.1 hbq.2,far1 (q:=q) (o:=1) (u:=.slice (some ⟨gb,0,none⟩) (S.length+1) cap) hHeld.2.1 hbq.2,far1 (q:=q) (o:=1) (u:=.slice (some ⟨gb,0,none⟩) (S.length+1) cap) hHeld.2.2.1 hbq.1,far1 (q:=q) (o:=1) (u:=.slice (some ⟨gb,0,none⟩) (S.length+1) cap) hHeld.2.2.2 hbq.1⟩:_∧_∧_∧_)
    go_simp
    refine hKK.out _ _ hH2 ?_
    clear hHeld
    intro hHeld
    clear hKK KK
    try simp only [pP,pN,pS,pZ,pC]
    clear hH2 hHeld fz p1
    refine wpAnyH_done (by kernel_rfl) ?_ _
    go_wp2
    go_roundw
    case rel=>exact ⟨k+1,_,_,by omega,by go_num,p3.out⟩
    case measure=>simp only [intOf];omega
   refine consT rfl (fun KK hKK=>?_) ?_
   ·skip
    have hs5:=bT.size
    go_simp
    refine (G1.out _ (hBr.trans (bT.mono hBr.size))).mono ?_
    rintro e w5 ⟨⟨Fa,Fc,FL⟩,rfl,hFk,hFf,hfo,hnn,bN⟩
    have bC:=bN
    replace bT:=bT.trans (bC.mono bT.size)
    replace hHeld:=(⟨below_cell bC hHeld.1,below_cell bC hHeld.2.1,below_cell bC hHeld.2.2.1,below_cell bC hHeld.2.2.2⟩:_∧_∧_∧_)
    clear bC
    go_wp2_with fail
    replace hFf:=hFf.mono hs5
    clear bN hs5 hnn
    unfold FV.val
    simp only
    refine hKK.out _ _ hHeld ?_
    clear hHeld
    intro hHeld
    clear hKK KK
    try simp only [pP,pN,pS,pZ,pC]
    refine tk 15 (v:=?_) rfl (Or.inl ⟨by rfl,?_⟩) ?_
    rotate_left
    ·intro w9 hSw
     go_simp
     first | done | with_reducible rfl
    simp only [pP,pN,pS,pZ,pC]
    refine wpAnyH_ready (rs:=[1,16]) (by kernel_rfl) (by simp) ?_
    refine consT rfl (fun KK hKK=>?_) ?_
    ·skip
     have cq:=below_cell bT c1
     go_simp
     clear cq
     refine hKK.out _ _ hHeld ?_
     clear hHeld
     intro hHeld
     clear hKK KK
     try simp only [pP,pN,pS,pZ,pC]
     refine wpAnyH_ready (rs:=[16]) (by kernel_rfl) (by simp) ?_
     refine cons' rfl (fun KK hKK=>?_)
     go_simp
     have hnew:=heap_alloc_new w5 (.cells #[.int .i64 x,.slice Fa FL.length Fc] 65)
     have b3:=below_alloc (w:=w5) (.cells #[.int .i64 x,.slice Fa FL.length Fc] 65)
     generalize w5.alloc (.cells #[.int .i64 x,.slice Fa FL.length Fc] 65)=w6 at hnew b3 ⊢
     replace bT:=bT.trans (b3.mono bT.size)
     replace hFk:=hFk.later b3
     replace hHeld:=(⟨below_cell b3 hHeld.1,below_cell b3 hHeld.2.1,below_cell b3 hHeld.2.2.1,below_cell b3 hHeld.2.2.2⟩:_∧_∧_∧_)
     clear b3
     refine hKK.out _ _ hHeld ?_
     clear hHeld
     intro hHeld
     clear hKK KK
     try simp only [pP,pN,pS,pZ,pC]
     refine wpAnyH_ready (rs:=[17]) (by kernel_rfl) (by simp) ?_
     refine cons' rfl (fun KK hKK=>?_)
     have hO3:=own_below HOw.out bT
     have s3:=bT.size
     have s4:=HI.out.tol.but.size
     refine step_append_lies _ (by rfl) _ _ _ (by rfl) w2.heap.size 65 i0 _ 2 32 Tryz.underlying22 hi0 hz0 hz1 hz2 rfl (by omega) (.slice ar S.length cr) S.length (cellsR S) (by rfl) hO3 ⟨w5.heap.size,0,none⟩ 1 1 [.int .i64 x,.slice Fa FL.length Fc] (by rfl) (by rfl) (World.news_of_block (cs:=#[.int .i64 x,.slice Fa FL.length Fc]) (t:=65) (fr:=(0,0)) hnew) (by simp [Value.oneCell']) (by omega) (by simp only [maxLen];omega) (by omega) (by omega) w6.heap.size rfl ?_
     intro gb cap w9 hown4 hgrow hat hlt4
     obtain ⟨p1,p2,p3⟩:=PU.out w6 w9 bT ⟨Fa,Fc,FL⟩ hfo hFk hFf gb cap hown4 hgrow hat
     replace p3:=hide' p3
     have far:∀ {b o:Nat} {u:Value},b < w2.heap.size→w6.cell? ⟨b,o,none⟩=some u→w9.cell? ⟨b,o,none⟩=some u:=fun hb hu=>hgrow.cell hu (fun e=>by have:=(hlt9 _ e.symm).1;simp only at this;omega)
     have hh:=HQ.out
     refine hKK.out _ _ ⟨far (by omega) hHeld.1,far (by omega) hHeld.2.1,far (by omega) hHeld.2.2.1,far (by omega) hHeld.2.2.2⟩ ?_
     clear hHeld
     intro hHeld
     clear hKK KK
     try simp only [pP,pN,pS,pZ,pC]
     clear hh far hown4 hgrow hat hlt4 hO3 hnew
     refine tk 18 (v:=?_) rfl (Or.inl ⟨by rfl,?_⟩) ?_
     rotate_left
     ·intro w9 hSw
      go_simp
      first | done | with_reducible rfl
     simp only [pP,pN,pS,pZ,pC]
     refine wpAnyH_ready (rs:=[19]) (by kernel_rfl) (by simp) ?_
     refine cons' rfl (fun KK hKK=>?_)
     have fz:=fun o=>p2.frozen o
     clear p2
     have hH2:=(⟨far1 (q:=q) (o:=1) (u:=.slice (some ⟨gb,0,none⟩) (S.length+1) cap) hHeld.1 hbq.2,far1 (q:=q) (o:=1) (u:=.slice (some ⟨gb,0,none⟩) (S.length+1) cap) hHeld.2.1 hbq.2,far1 (q:=q) (o:=1) (u:=.slice (some ⟨gb,0,none⟩) (S.length+1) cap) hHeld.2.2.1 hbq.1,far1 (q:=q) (o:=1) (u:=.slice (some ⟨gb,0,none⟩) (S.length+1) cap) hHeld.2.2.2 hbq.1⟩:_∧_∧_∧_)
     go_simp
     refine hKK.out _ _ hH2 ?_
     clear hHeld
     intro hHeld
     clear hKK KK
     try simp only [pP,pN,pS,pZ,pC]
     clear hH2 hHeld fz p1
     refine wpAnyH_done (by kernel_rfl) ?_ _
     go_wp2
     go_roundw
     case rel=>exact ⟨k+1,_,_,by omega,by go_num,p3.out⟩
     case measure=>simp only [intOf];omega
    refine consT rfl (fun KK hKK=>?_) ?_
    ·skip
     go_simp
     have hnew:=heap_alloc_new w5 (.cells #[.int .i64 x,.slice Fa FL.length Fc] 65)
     have b3:=below_alloc (w:=w5) (.cells #[.int .i64 x,.slice Fa FL.length Fc] 65)
     generalize w5.alloc (.cells #[.int .i64 x,.slice Fa FL.length Fc] 65)=w6 at hnew b3 ⊢
     replace bT:=bT.trans (b3.mono bT.size)
     replace hFk:=hFk.later b3
     replace hHeld:=(⟨below_cell b3 hHeld.1,below_cell b3 hHeld.2.1,below_cell b3 hHeld.2.2.1,below_cell b3 hHeld.2.2.2⟩:_∧_∧_∧_)
     clear b3
     refine hKK.out _ _ hHeld ?_
     clear hHeld
     intro hHeld
     clear hKK KK
     try simp only [pP,pN,pS,pZ,pC]
     refine wpAnyH_ready (rs:=[1]) (by kernel_rfl) (by simp) ?_
     refine cons' rfl (fun KK hKK=>?_)
     have cq:=below_cell bT c1
     go_simp
     clear cq
     refine hKK.out _ _ hHeld ?_
     clear hHeld
     intro hHeld
     clear hKK KK
     try simp only [pP,pN,pS,pZ,pC]
     refine wpAnyH_ready (rs:=[17]) (by kernel_rfl) (by simp) ?_
     refine cons' rfl (fun KK hKK=>?_)
     have hO3:=own_below HOw.out bT
     have s3:=bT.size
     have s4:=HI.out.tol.but.size
     refine step_append_lies _ (by rfl) _ _ _ (by rfl) w2.heap.size 65 i0 _ 2 32 Tryz.underlying22 hi0 hz0 hz1 hz2 rfl (by omega) (.slice ar S.length cr) S.length (cellsR S) (by rfl) hO3 ⟨w5.heap.size,0,none⟩ 1 1 [.int .i64 x,.slice Fa FL.length Fc] (by rfl) (by rfl) (World.news_of_block (cs:=#[.int .i64 x,.slice Fa FL.length Fc]) (t:=65) (fr:=(0,0)) hnew) (by simp [Value.oneCell']) (by omega) (by simp only [maxLen];omega) (by omega) (by omega) w6.heap.size rfl ?_
     intro gb cap w9 hown4 hgrow hat hlt4
     obtain ⟨p1,p2,p3⟩:=PU.out w6 w9 bT ⟨Fa,Fc,FL⟩ hfo hFk hFf gb cap hown4 hgrow hat
     replace p3:=hide' p3
     have far:∀ {b o:Nat} {u:Value},b < w2.heap.size→w6.cell? ⟨b,o,none⟩=some u→w9.cell? ⟨b,o,none⟩=some u:=fun hb hu=>hgrow.cell hu (fun e=>by have:=(hlt9 _ e.symm).1;simp only at this;omega)
     have hh:=HQ.out
     refine hKK.out _ _ ⟨far (by omega) hHeld.1,far (by omega) hHeld.2.1,far (by omega) hHeld.2.2.1,far (by omega) hHeld.2.2.2⟩ ?_
     clear hHeld
     intro hHeld
     clear hKK KK
     try simp only [pP,pN,pS,pZ,pC]
     clear hh far hown4 hgrow hat hlt4 hO3 hnew
     refine tk 18 (v:=?_) rfl (Or.inl ⟨by rfl,?_⟩) ?_
     rotate_left
     ·intro w9 hSw
      go_simp
      first | done | with_reducible rfl
     simp only [pP,pN,pS,pZ,pC]
     refine wpAnyH_ready (rs:=[19]) (by kernel_rfl) (by simp) ?_
     refine cons' rfl (fun KK hKK=>?_)
     have fz:=fun o=>p2.frozen o
     clear p2
     have hH2:=(⟨far1 (q:=q) (o:=1) (u:=.slice (some ⟨gb,0,none⟩) (S.length+1) cap) hHeld.1 hbq.2,far1 (q:=q) (o:=1) (u:=.slice (some ⟨gb,0,none⟩) (S.length+1) cap) hHeld.2.1 hbq.2,far1 (q:=q) (o:=1) (u:=.slice (some ⟨gb,0,none⟩) (S.length+1) cap) hHeld.2.2.1 hbq.1,far1 (q:=q) (o:=1) (u:=.slice (some ⟨gb,0,none⟩) (S.length+1) cap) hHeld.2.2.2 hbq.1⟩:_∧_∧_∧_)
     go_simp
     refine hKK.out _ _ hH2 ?_
     clear hHeld
     intro hHeld
     clear hKK KK
     try simp only [pP,pN,pS,pZ,pC]
     clear hH2 hHeld fz p1
     refine wpAnyH_done (by kernel_rfl) ?_ _
     go_wp2
     go_roundw
     case rel=>exact ⟨k+1,_,_,by omega,by go_num,p3.out⟩
     case measure=>simp only [intOf];omega
    exact AllReadyH.nil
   exact AllReadyH.nil
  ·obtain rfl:k=R.length:=by omega
   have j0:¬ (R.length:Int) < (R.length:Int):=by omega
   have hsg:=hI.sg
   rw [List.take_length] at hsg
   have HNk:=hide' (fun r hr=>(hI.nk r hr).1)
   have HNf:=hide' (fun r hr=>(hI.nk r hr).2.1)
   have HSg:=hide' hsg
   have HRW:=hide' (fun ad (e:ar=some ad)=>show w2.heap.size≤ad.block from by rw [e] at hown;exact (hown.lt ad.block rfl).1)
   have z0:=hI.tol.but.cell HZ.out.1 HQ.out.2.2.2.2.1
   have z1:=hI.tol.but.cell HZ.out.2.1 HQ.out.2.2.2.2.1
   have zR:Row wr rb:=by obtain ⟨cur,t,hc⟩:=HZ.out.2.2;exact ⟨cur,t,(hI.tol.but.block _ (Array.getElem?_eq_some_iff.1 hc).1 HQ.out.2.2.2.2.1).trans hc⟩
   have fz:=fun o=>zR.frozen o
   have HX:=hide' (show TwA w V R (.returned (Value.agg #[.int .i64 V,.slice ar S.length cr])) ((wr.setCell ⟨rb,0,none⟩ (.int .i64 V)).setCell ⟨rb,1,none⟩ (.slice ar S.length cr)) from by
     have hq5:=HQ.out
     have hB:Below w.heap.size w ((wr.setCell ⟨rb,0,none⟩ (.int .i64 V)).setCell ⟨rb,1,none⟩ (.slice ar S.length cr)):=(hI.tol.bel.setCell hq5.2.2.2.1 _).setCell hq5.2.2.2.1 _
     have hne:∀ ad,ar=some ad→S≠[]→ad.block≠rb:=fun ad e _=>by have h1:=HRW.out ad e;omega
     refine ⟨S,ar,cr,rfl,hB,⟨(hTA.far hne).far hne,fun r hr=>?_,fun r hr=>?_⟩,hcr,HSg.out⟩
     ·have h7:=(HNf.out r hr).off hq5.2.2.2.2.2
      exact ((HNk.out r hr).setq h7).setq h7
     ·obtain ⟨r',hr',e1,_⟩:=sgR_mem HSg.out hr
      rw [e1]
      exact HWf.out r' hr')
   rw [hTQ.out] at HX
   clear hI hown hTA zR HRW HNk HNf hsg
   go_wp2
   first | exact HX.out | (refine bodyPost_ret (v:=.agg #[.int .i64 V,.slice ar S.length cr]) (by rw [results_cell rfl];go_simp) rfl ?_;exact HX.out)
open Go.ChangeShapes Go.WideShapes Go.ChangeAt Go.RowKit Go.Deep
set_option maxRecDepth 100000 in
theorem open_Int2B {H:Type} {enc:TypeId × Value→H} {W:World} {c0 c1:Value} {d:DataW H} {p:List MemPlace}
  (h:DataW.Trod enc Tryz.prog W 0 (fun _=>true) true 72 (.agg #[c0,c1]) d p)
  (hsz:(d.weights Tryz.prog 72).all (·≤reachBytes)=true) :
  ∃ s a len cap X,c0=.bool s∧c1=.slice a len cap∧Seg W a X len∧len≤cap∧len≤35184372087808∧len+3≤Rows.uptoBulk d:=by
 obtain ⟨fuel,hf⟩:=h
 obtain ⟨y0,y1,n,hx,hl,h0,h1⟩:=trod_struct2 Tryz.underlying72 hf
 simp only [Value.cells,List.drop_zero,cells_bool,cells_nat] at h0 h1
 change DataW.trod enc _ _ _ _ _ n 4 [c0]=_ at h0
 change DataW.trod enc _ _ _ _ _ n 70 [c1]=_ at h1
 obtain ⟨b',hb,hx0⟩:=DataW.trod_bool Tryz.underlying4 h0
 simp only [List.cons.injEq,and_true] at hb
 subst hb hx0
 simp only [Prod.mk.injEq] at hx
 obtain ⟨rfl,rfl⟩:=hx
 have hc1:∃ a len cap,c1=.slice a len cap:=by
  rcases open_ints A_under_nat Tryz.underlying123 (by kernel_rfl) h1 with ⟨hcs,_⟩ | ⟨x,l,c,zs,hcs,_⟩
  ·simp at hcs;exact ⟨_,_,_,hcs⟩
  ·simp at hcs;exact ⟨_,_,_,hcs⟩
 obtain ⟨a,len,cap,rfl⟩:=hc1
 obtain ⟨y1d,y1p⟩:=y1
 obtain ⟨X,hS,hc,hb,hu⟩:=open_nat (len:=len) (cap:=cap) (a:=a) (d:=y1d) (p:=y1p) A_under_nat ⟨n,h1⟩ (fun elems spare e=>by
  have e':y1d=.slice elems spare:=e
  subst e'
  have hu:=Tryz.underlying72
  simp only [DataW.weights,hu,DataW.weightsEach,List.map] at hsz
  simp only [List.all_append,Bool.and_eq_true] at hsz
  have h2:=hsz.2.1
  simp only [A_under_nat] at h2
  simp only [List.all_cons,Bool.and_eq_true,decide_eq_true_eq] at h2
  exact h2.1)
 exact ⟨b',a,len,cap,X,rfl,rfl,hS,hc,hb,by simp only [Rows.uptoBulk,Rows.uptoBulkAll] at hu ⊢;omega⟩
set_option maxRecDepth 100000 in
theorem open_Rat3B {H:Type} {enc:TypeId × Value→H} {W:World} {c0 c1 c2:Value} {d:DataW H} {p:List MemPlace} {fuel:Nat}
  (hf:DataW.trod enc Tryz.prog W 0 (fun _=>true) true fuel 74 [c0,c1,c2]=some (d,p))
  (hsz:(d.weights Tryz.prog 74).all (·≤reachBytes)=true) :
  ∃ q:RatV,c0=.bool q.s∧c1=.slice q.a q.n q.c∧c2=.slice q.b q.m q.e∧q.ok W∧q.n+q.m+5≤Rows.uptoBulk d:=by
 obtain ⟨y0,y1,n,hx,hl,h0,h1⟩:=trod_struct2 Tryz.underlying74 hf
 simp only [List.drop_zero,cells_Int,cells_nat] at h0 h1
 change DataW.trod enc _ _ _ _ _ n 72 [c0,c1]=_ at h0
 change DataW.trod enc _ _ _ _ _ n 70 [c2]=_ at h1
 simp only [Prod.mk.injEq] at hx
 obtain ⟨rfl,rfl⟩:=hx
 have hc2:∃ a len cap,c2=.slice a len cap:=by
  rcases open_ints A_under_nat Tryz.underlying123 (by kernel_rfl) h1 with ⟨hcs,_⟩ | ⟨x,l,c,zs,hcs,_⟩
  ·simp at hcs;exact ⟨_,_,_,hcs⟩
  ·simp at hcs;exact ⟨_,_,_,hcs⟩
 obtain ⟨b,m,e,rfl⟩:=hc2
 obtain ⟨y0d,y0p⟩:=y0
 obtain ⟨y1d,y1p⟩:=y1
 have hu:=Tryz.underlying74
 simp only [DataW.weights,hu,DataW.weightsEach,List.map] at hsz
 simp only [List.all_append,Bool.and_eq_true] at hsz
 obtain ⟨s,a,len,cap,X,rfl,rfl,hS,hc,hb,hu0⟩:=open_Int2B (c0:=c0) (c1:=c1) (d:=y0d) (p:=y0p) ⟨n,h0⟩ hsz.1
 obtain ⟨Y,hT,hd,hk,hu1⟩:=open_nat (len:=m) (cap:=e) (a:=b) (d:=y1d) (p:=y1p) A_under_nat ⟨n,h1⟩ (fun elems spare e=>by
  have e':y1d=.slice elems spare:=e
  subst e'
  have h2:=hsz.2.1
  simp only [DataW.weights,A_under_nat] at h2
  simp only [List.all_cons,Bool.and_eq_true,decide_eq_true_eq] at h2
  exact h2.1)
 exact ⟨⟨s,a,len,cap,X,b,m,e,Y⟩,rfl,rfl,rfl,⟨hS,hc,Nat.le_trans hb (by omega),hT,hd,Nat.le_trans hk (by omega)⟩,by simp only [Rows.uptoBulk,Rows.uptoBulkAll] at hu0 hu1 ⊢;omega⟩
set_option maxRecDepth 100000 in
theorem open_Mono4B {H:Type} {enc:TypeId × Value→H} {W:World} {k c0 c1 c2:Value} {d:DataW H} {p:List MemPlace} {fuel:Nat}
  (hf:DataW.trod enc Tryz.prog W 0 (fun _=>true) true fuel 76 [k,c0,c1,c2]=some (d,p))
  (hsz:(d.weights Tryz.prog 76).all (·≤reachBytes)=true) :
  ∃ (v:Int) (q:RatV),k=.int .i64 v∧(Lit.int .i64 v).wf=true∧c0=.bool q.s∧c1=.slice q.a q.n q.c∧c2=.slice q.b q.m q.e∧q.ok W∧q.n+q.m+7≤Rows.uptoBulk d:=by
 obtain ⟨y0,y1,n,hx,hl,h0,h1⟩:=trod_struct2 Tryz.underlying76 hf
 simp only [List.drop_zero,cells_int,cells_Rat] at h0 h1
 change DataW.trod enc _ _ _ _ _ n 3 [k]=_ at h0
 change DataW.trod enc _ _ _ _ _ n 74 [c0,c1,c2]=_ at h1
 simp only [Prod.mk.injEq] at hx
 obtain ⟨rfl,rfl⟩:=hx
 obtain ⟨v,hv,hx0,hw⟩:=DataW.trod_int Tryz.underlying3 h0
 simp only [List.cons.injEq,and_true] at hv
 subst hv
 obtain ⟨y0d,y0p⟩:=y0
 obtain ⟨y1d,y1p⟩:=y1
 simp only [Prod.mk.injEq] at hx0
 obtain ⟨rfl,rfl⟩:=hx0
 have hu:=Tryz.underlying76
 simp only [DataW.weights,hu,DataW.weightsEach,List.map] at hsz
 simp only [List.all_append,Bool.and_eq_true] at hsz
 obtain ⟨q,r0,r1,r2,hok,hbk⟩:=open_Rat3B h1 hsz.2.1
 exact ⟨v,q,rfl,hw,r0,r1,r2,hok,by simp only [Rows.uptoBulk,Rows.uptoBulkAll] at hbk ⊢;omega⟩
theorem bul_append:∀ (L M:List Mo),bul (L ++ M)=bul L+bul M
 | [],M=>by simp [bul]
 | p :: L,M=>by simp only [List.cons_append,bul,bul_append L M];omega
theorem bul_mos {H:Type} {D:Nat→DataW H} {v:Nat→Int} {q:Nat→RatV}:∀ (n:Nat),(∀ i,i < n→(q i).n+(q i).m+7≤Rows.uptoBulk (D i))→bul (mos v q n)≤Rows.uptoBulkAll ((List.range n).map D)
 | 0,_=>by simp [mos,bul]
 | n+1,h=>by
  have h1:=bul_mos (v:=v) n fun i hi=>h i (by omega)
  have h2:=h n (by omega)
  unfold mos at h1 ⊢
  rw [List.range_succ,List.map_append,List.map_append,bulkAll_append,bul_append]
  simp only [List.map,bul,Rows.uptoBulkAll]
  omega
set_option maxRecDepth 100000 in
theorem open_FormB {H:Type} {enc:TypeId × Value→H} {W:World} {cs:List Value} {d:DataW H} {p:List MemPlace} {fuel:Nat}
  (hf:DataW.trod enc Tryz.prog W 0 (fun _=>true) true fuel 35 cs=some (d,p))
  (hsz:(d.weights Tryz.prog 35).all (·≤reachBytes)=true) :
  ∃ F:FV,cs=[F.val]∧F.ok W∧wfo F.fo∧bul F.L+1≤Rows.uptoBulk d:=by
 rcases open_slice Tryz.underlying35 hf with ⟨rfl,hx⟩ | ⟨a,len,cap,m,n,D,Pl,rfl,hb,hl,hm,hmm,hx,hel⟩
 ·simp only [Prod.mk.injEq] at hx
  obtain ⟨rfl,rfl⟩:=hx
  exact ⟨⟨none,0,[]⟩,rfl,⟨fun h=>absurd rfl h,fun p hp=>by simp at hp,Nat.le_refl _⟩,fun p hp=>by simp [FV.fo,fo] at hp,by simp [bul,Rows.uptoBulk]⟩
 ·simp only [Prod.mk.injEq] at hx
  obtain ⟨rfl,rfl⟩:=hx
  have hu:=Tryz.underlying35
  simp only [DataW.weights,hu] at hsz
  simp only [List.all_cons,List.all_append,Bool.and_eq_true,decide_eq_true_eq,bytes_Mono,List.length_map,List.length_range] at hsz
  obtain ⟨hs0,hs1,_⟩:=hsz
  simp only [if_true] at hmm
  have each:∀ i,i < len→∃ z:Int × RatV,(W.cell? (a.add (i*4))=some (.int .i64 z.1)∧W.cell? (a.add (i*4+1))=some (.bool z.2.s)∧W.cell? (a.add (i*4+2))=some (.slice z.2.a z.2.n z.2.c)∧W.cell? (a.add (i*4+3))=some (.slice z.2.b z.2.m z.2.e)) ∧
    ((Lit.int .i64 z.1).wf=true∧z.2.ok W)∧z.2.n+z.2.m+7≤Rows.uptoBulk (D i):=by
   intro i hi
   obtain ⟨cs',h1,h2⟩:=hel i (by omega)
   rw [cells_Mono] at h1
   obtain ⟨_,hlen,hcell⟩:=World.cells?_some h1
   match cs',hlen with
   | [k,c0,c1,c2],_ =>
    obtain ⟨v,q,rfl,hw,rfl,rfl,rfl,hok,hbk⟩:=open_Mono4B h2 (weightsAll_mem hs1 (List.mem_map.2 ⟨i,List.mem_range.2 hi,rfl⟩))
    have e0:=hcell 0 (by omega)
    have e1:=hcell 1 (by omega)
    have e2:=hcell 2 (by omega)
    have e3:=hcell 3 (by omega)
    rw [add_add] at e0 e1 e2 e3
    exact ⟨(v,q),⟨by simpa using e0,by simpa using e1,by simpa using e2,by simpa using e3⟩,⟨hw,hok⟩,hbk⟩
  obtain ⟨z,hq⟩:=choose_lt each
  have hF:FormAt W (some a) len (fun i=>(z i).1) (fun i=>(z i).2):=fun hn=>by
   obtain ⟨b,off,spot⟩:=a
   have h0:=(hq 0 hn).1.1
   have hspot:spot=none:=by simpa [Addr.add] using World.cell?_spot h0
   subst hspot
   have ea:∀ j,(Addr.mk b off none).add j=⟨b,off+j,none⟩:=fun j=>by unfold Addr.add;split <;> simp_all
   refine ⟨b,off,rfl,?_,fun i hi=>?_⟩
   ·rw [ea] at h0
    obtain ⟨cur,e,fr,hb,_⟩:=Sort.cells_of_cell? h0
    exact (Array.getElem?_eq_some_iff.1 hb).1
   ·have:=(hq i hi).1
    simp only [ea] at this
    exact ⟨this.1,this.2.1,this.2.2.1,this.2.2.2⟩
  refine ⟨⟨some a,cap,mos (fun i=>(z i).1) (fun i=>(z i).2) len⟩,by unfold FV.val;simp only [mos_length],⟨mos_at hF,fun p hp=>?_,by simp only [mos_length];exact hl⟩,fun p hp=>?_,?_⟩
  ·obtain ⟨i,hi,rfl⟩:=mos_mem hp
   exact (hq i hi).2.1.2
  ·unfold FV.fo fo at hp
   obtain ⟨r,hr,rfl⟩:=List.mem_map.1 hp
   obtain ⟨i,hi,rfl⟩:=mos_mem hr
   exact (hq i hi).2.1.1
  ·have:=bul_mos (D:=D) (v:=fun i=>(z i).1) (q:=fun i=>(z i).2) len fun i hi=>(hq i hi).2.2
   simp only [Rows.uptoBulk]
   omega
theorem cells_Form:Tryz.prog.cellsOf 35=1:=by kernel_rfl
theorem cells_Row:Tryz.prog.cellsOf 65=2:=by kernel_rfl
theorem bytes_Row:Tryz.prog.bytesOf 65=32:=by kernel_rfl
set_option maxRecDepth 100000 in
theorem open_Row2 {H:Type} {enc:TypeId × Value→H} {W:World} {c0 c1:Value} {d:DataW H} {p:List MemPlace} {fuel:Nat}
  (hf:DataW.trod enc Tryz.prog W 0 (fun _=>true) true fuel 65 [c0,c1]=some (d,p))
  (hsz:(d.weights Tryz.prog 65).all (·≤reachBytes)=true) :
  ∃ r:RowV,c0=.int .i64 r.1∧c1=r.2.val∧wfI r.1∧r.2.ok W∧wfo r.2.fo∧bul r.2.L+3≤Rows.uptoBulk d:=by
 obtain ⟨y0,y1,n,hx,hl,h0,h1⟩:=trod_struct2 Tryz.underlying65 hf
 simp only [List.drop_zero,cells_int,cells_Form] at h0 h1
 change DataW.trod enc _ _ _ _ _ n 3 [c0]=_ at h0
 change DataW.trod enc _ _ _ _ _ n 35 [c1]=_ at h1
 simp only [Prod.mk.injEq] at hx
 obtain ⟨rfl,rfl⟩:=hx
 obtain ⟨v,hv,hx0,hw⟩:=DataW.trod_int Tryz.underlying3 h0
 simp only [List.cons.injEq,and_true] at hv
 subst hv
 obtain ⟨y0d,y0p⟩:=y0
 obtain ⟨y1d,y1p⟩:=y1
 simp only [Prod.mk.injEq] at hx0
 obtain ⟨rfl,rfl⟩:=hx0
 have hu:=Tryz.underlying65
 simp only [DataW.weights,hu,DataW.weightsEach,List.map] at hsz
 simp only [List.all_append,Bool.and_eq_true] at hsz
 obtain ⟨F,hF,hok,hwf,hb⟩:=open_FormB h1 hsz.2.1
 simp only [List.cons.injEq,and_true] at hF
 exact ⟨(v,F),rfl,hF,hw,hok,hwf,by simp only [Rows.uptoBulk,Rows.uptoBulkAll] at hb ⊢;omega⟩
theorem bulT_append:∀ (R S:List RowV),bulT (R ++ S)=bulT R+bulT S
 | [],S=>by simp [bulT]
 | r :: R,S=>by simp only [List.cons_append,bulT,bulT_append R S];omega
theorem bulT_le {H:Type} {D:Nat→DataW H} {z:Nat→RowV}:∀ (n:Nat),(∀ i,i < n→bul (z i).2.L+3≤Rows.uptoBulk (D i))→bulT ((List.range n).map z)≤Rows.uptoBulkAll ((List.range n).map D)
 | 0,_=>by simp [bulT]
 | n+1,h=>by
  have h1:=bulT_le n fun i hi=>h i (by omega)
  have h2:=h n (by omega)
  rw [List.range_succ,List.map_append,List.map_append,bulkAll_append,bulT_append]
  simp only [List.map,bulT,Rows.uptoBulkAll]
  omega
set_option maxRecDepth 100000 in
theorem open_RowsB {H:Type} {enc:TypeId × Value→H} {W:World} {cs:List Value} {d:DataW H} {p:List MemPlace} {fuel:Nat}
  (hf:DataW.trod enc Tryz.prog W 0 (fun _=>true) true fuel 22 cs=some (d,p))
  (hsz:(d.weights Tryz.prog 22).all (·≤reachBytes)=true) :
  ∃ (a:Option Addr) (c:Nat) (R:List RowV),cs=[.slice a R.length c]∧TIn W a R∧(∀ r∈R,wfo r.2.fo)∧R.length≤c∧bulT R+1≤Rows.uptoBulk d:=by
 rcases open_slice Tryz.underlying22 hf with ⟨rfl,hx⟩ | ⟨a,len,cap,m,n,D,Pl,rfl,hb,hl,hm,hmm,hx,hel⟩
 ·simp only [Prod.mk.injEq] at hx
  obtain ⟨rfl,rfl⟩:=hx
  exact ⟨none,0,[],rfl,⟨fun h=>absurd rfl h,fun p hp=>by simp at hp,fun p hp=>by simp at hp⟩,fun p hp=>by simp at hp,Nat.le_refl _,by simp [bulT,Rows.uptoBulk]⟩
 ·simp only [Prod.mk.injEq] at hx
  obtain ⟨rfl,rfl⟩:=hx
  have hu:=Tryz.underlying22
  simp only [DataW.weights,hu] at hsz
  simp only [List.all_cons,List.all_append,Bool.and_eq_true,decide_eq_true_eq,bytes_Row,List.length_map,List.length_range] at hsz
  obtain ⟨hs0,hs1,_⟩:=hsz
  simp only [if_true] at hmm
  have each:∀ i,i < len→∃ z:RowV,(W.cell? (a.add (i*2))=some (.int .i64 z.1)∧W.cell? (a.add (i*2+1))=some z.2.val)∧(wfI z.1∧z.2.ok W∧wfo z.2.fo)∧bul z.2.L+3≤Rows.uptoBulk (D i):=by
   intro i hi
   obtain ⟨cs',h1,h2⟩:=hel i (by omega)
   rw [cells_Row] at h1
   obtain ⟨_,hlen,hcell⟩:=World.cells?_some h1
   match cs',hlen with
   | [c0,c1],_ =>
    obtain ⟨r,rfl,rfl,hw,hok,hwf,hbk⟩:=open_Row2 h2 (weightsAll_mem hs1 (List.mem_map.2 ⟨i,List.mem_range.2 hi,rfl⟩))
    have e0:=hcell 0 (by omega)
    have e1:=hcell 1 (by omega)
    rw [add_add] at e0 e1
    exact ⟨r,⟨by simpa using e0,by simpa using e1⟩,⟨hw,hok,hwf⟩,hbk⟩
  obtain ⟨z,hq⟩:=choose_lt each
  have hmem:∀ r∈(List.range len).map z,∃ i,i < len∧r=z i:=fun r hr=>by
   obtain ⟨i,hi,rfl⟩:=List.mem_map.1 hr
   exact ⟨i,List.mem_range.1 hi,rfl⟩
  refine ⟨some a,cap,(List.range len).map z,by simp,⟨fun hn=>?_,fun r hr=>?_,fun r hr=>?_⟩,fun r hr=>?_,by simpa using hl,?_⟩
  ·have h0:0 < len:=by
    rcases Nat.eq_zero_or_pos len with e | e
    ·subst e;exact absurd rfl hn
    ·exact e
   obtain ⟨b,off,spot⟩:=a
   have hc0:=(hq 0 h0).1.1
   have hspot:spot=none:=by simpa [Addr.add] using World.cell?_spot hc0
   subst hspot
   have ea:∀ j,(Addr.mk b off none).add j=⟨b,off+j,none⟩:=fun j=>by unfold Addr.add;split <;> simp_all
   refine ⟨b,off,rfl,?_,fun i p hi=>?_⟩
   ·rw [ea] at hc0
    obtain ⟨cur,e,fr,hb,_⟩:=Sort.cells_of_cell? hc0
    exact (Array.getElem?_eq_some_iff.1 hb).1
   ·rw [List.getElem?_map] at hi
    have hin:i < len:=by
     rcases Nat.lt_or_ge i len with h1 | h1
     ·exact h1
     ·rw [List.getElem?_eq_none (by rw [List.length_range];exact h1)] at hi;cases hi
    rw [List.getElem?_range hin] at hi
    obtain rfl:=Option.some.inj hi
    have:=(hq i hin).1
    simp only [ea] at this
    exact this
  ·obtain ⟨i,hi,rfl⟩:=hmem r hr
   exact (hq i hi).2.1.2.1
  ·obtain ⟨i,hi,rfl⟩:=hmem r hr
   exact (hq i hi).2.1.1
  ·obtain ⟨i,hi,rfl⟩:=hmem r hr
   exact (hq i hi).2.1.2.2
  ·have:=bulT_le (D:=D) (z:=z) len fun i hi=>(hq i hi).2.2
   simp only [Rows.uptoBulk]
   omega
theorem cells_Tab:Tryz.prog.cellsOf 24=2:=by kernel_rfl
theorem cells_RowSl:Tryz.prog.cellsOf 22=1:=by kernel_rfl
set_option maxRecDepth 100000 in
theorem open_Tab {H:Type} {enc:TypeId × Value→H} {W:World} {r:Reach} {b0:Nat} {v:Value} {d:DataW H} {p:List MemPlace}
  (hv:Value.okWide Tryz.prog W r b0 24 v) (h:DataW.Trod enc Tryz.prog W 0 (fun _=>true) true 24 v d p)
  (hsz:(d.weights Tryz.prog 24).all (·≤reachBytes)=true) :
  ∃ (V:Int) (a:Option Addr) (c:Nat) (R:List RowV),v=.agg #[.int .i64 V,.slice a R.length c]∧wfI V∧TIn W a R∧(∀ r∈R,wfo r.2.fo)∧R.length≤c∧bulT R+3≤Rows.uptoBulk d:=by
 obtain ⟨cs,rfl,hcs⟩:=okWide_struct Tryz.underlying24 hv
 obtain ⟨fuel,hf⟩:=h
 rw [cells_Tab] at hcs
 obtain ⟨c0,c1,rfl⟩:∃ c0 c1,cs=#[c0,c1]:=by
  match cs,hcs with
  | ⟨[c0,c1]⟩,_=>exact ⟨c0,c1,rfl⟩
 obtain ⟨y0,y1,n,hx,hl,h0,h1⟩:=trod_struct2 Tryz.underlying24 hf
 simp only [Value.cells,List.drop_zero,cells_int,cells_RowSl] at h0 h1
 change DataW.trod enc _ _ _ _ _ n 3 [c0]=_ at h0
 change DataW.trod enc _ _ _ _ _ n 22 [c1]=_ at h1
 simp only [Prod.mk.injEq] at hx
 obtain ⟨rfl,rfl⟩:=hx
 obtain ⟨v,hv,hx0,hw⟩:=DataW.trod_int Tryz.underlying3 h0
 simp only [List.cons.injEq,and_true] at hv
 subst hv
 obtain ⟨y0d,y0p⟩:=y0
 obtain ⟨y1d,y1p⟩:=y1
 simp only [Prod.mk.injEq] at hx0
 obtain ⟨rfl,rfl⟩:=hx0
 have hu:=Tryz.underlying24
 simp only [DataW.weights,hu,DataW.weightsEach,List.map] at hsz
 simp only [List.all_append,Bool.and_eq_true] at hsz
 obtain ⟨a,c,R,hR,hT,hwf,hc,hb⟩:=open_RowsB h1 hsz.2.1
 simp only [List.cons.injEq,and_true] at hR
 subst hR
 exact ⟨v,a,c,R,rfl,hw,hT,hwf,hc,by simp only [Rows.uptoBulk,Rows.uptoBulkAll] at hb ⊢;omega⟩
end Go.Proofs.YtlklfkkbdcglbaaGreat
namespace Go.Proofs.YtlklfkkbdcglbaaGreat.tableauChecks
open Go.ChangeShapes Go.WideShapes Go.ChangeAt Go.RowKit Go.Proofs.YtlklfkkbdcglbaaGreat
set_option linter.unusedVariables false
theorem wfo_sg {S R:List RowV} (h:S.map sgR=R.map sgR) (hw:∀ r∈R,wfo r.2.fo):∀ r∈S,wfo r.2.fo:=fun r hr=>by
 obtain ⟨s,hs,_,e⟩:=sgR_mem h hr
 rw [e]
 exact hw s hs
theorem nrm_short {R S:List RowV} (h:NrmT (tb R) (tb S)) (hb:bulT R≤1048576):∀ r∈S,r.2.L.length≤2097152:=fun r hr=>by
 have h1:=h.same r.1
 have hm:(r.1,r.2.fo)∈tb S:=List.mem_map.2 ⟨r,hr,rfl⟩
 rw [lk_of_mem (v:=r.1) (f:=r.2.fo) h.rise.once hm] at h1
 cases hf:lk (tb R) r.1 with
 | none=>rw [hf] at h1;cases h1
 | some f =>
  rw [hf] at h1
  have e:r.2.fo=nfm f:=Option.some.inj h1
  obtain ⟨s,hs,es⟩:=List.mem_map.1 (lk_mem hf)
  simp only [Prod.mk.injEq] at es
  have h2:=congrArg List.length e
  have h3:=nfm_length f
  have h4:=congrArg List.length es.2
  unfold FV.fo at h2 h4
  rw [fo_length] at h2 h4
  have h5:=bulT_mem hs
  have h6:=bul_len s.2.L
  omega
theorem nil_nk (w:World):TNk w none []:=⟨fun hn=>absurd rfl hn,fun r hr=>absurd hr (by simp),fun r hr=>absurd hr (by simp)⟩
set_option maxHeartbeats 16000000 in
set_option maxRecDepth 100000 in
theorem walk1 (V:Int) (a:Option Addr) (c:Nat) (R:List RowV) (n:Int) (w:World) (hT:TIn w a R) (hw:∀ r∈R,wfo r.2.fo) (hc:R.length≤c) (hbu:bulT R≤1048576) (hmb:mayBe V (tb R)):Calls Tryz.prog 3 #[.agg #[.int .i64 V,.slice a R.length c],.int .i64 n] w fun e w'=>e=.returned (.bool true)∧Below w.heap.size w w':=by
 have hlen:R.length≤1048576:=by have:=bulT_len R;omega
 have G1:=hide' (fun w'=>pNew_is n w')
 have G2:=hide' (fun w'=>rNew_is n w')
 obtain ⟨nV,hnV⟩:∃ z,newV n=z:=⟨_,rfl⟩
 obtain ⟨nE,hnE⟩:∃ z,newE n=z:=⟨_,rfl⟩
 rw [hnV,hnE] at G1 G2
 clear hnV hnE
 have GA0:=hide' (fun w'=>show Calls Tryz.prog 11 #[.agg #[.int .i64 nV,.slice none 0 0],.agg #[.int .i64 nV,.slice none 0 0]] w' fun e w''=>e=.returned (.bool true)∧Below w'.heap.size w' w'' from alike_is nV none 0 [] none 0 [] w' (nil_nk w') (nil_nk w') (Nat.le_refl _) (Nat.le_refl _) (by simp) (fun r hr=>absurd hr (by simp)) rfl)
 have GT:=hide' (fun w' (hb:Below w.heap.size w w')=>twin_is V a c R w' (hT.later hb) hc (by omega))
 have GC:=hide' (fun w' a2 c2 (S:List RowV) (hS:TIn w' a2 S) (hl:S.length≤c2) (hs:S.map sgR=R.map sgR)=>show Calls Tryz.prog 12 #[.agg #[.int .i64 V,.slice a2 S.length c2]] w' fun e w''=>e=.returned (.int .i64 0)∧Below w'.heap.size w' w'' from by
   refine (pCheck_is V a2 c2 S w' hS hl (by rw [sgR_bul hs];exact hbu) (wfo_sg hs hw)).mono ?_
   rintro e w2 ⟨hb,⟨h,rfl⟩ | ⟨h,rfl⟩⟩
   ·exact ⟨rfl,hb⟩
   ·rw [sgR_tb hs] at h;exact absurd hmb h)
 have GR:=hide' (fun w' (hb:Below w.heap.size w w')=>show Calls Tryz.prog 14 #[.agg #[.int .i64 V,.slice a R.length c]] w' fun e w''=>e=.returned (.int .i64 0)∧Below w'.heap.size w' w'' from by
   refine (rCheck_is V a c R w' ⟨hT.later hb,by omega⟩ hc).mono ?_
   rintro e w2 ⟨hb,⟨h,rfl⟩ | ⟨h,rfl⟩⟩
   ·exact ⟨rfl,hb⟩
   ·exact absurd hmb h)
 have GN:=hide' (fun w' (S0:List RowV) a2 c2 (hS:TIn w' a2 S0) (hl:S0.length≤c2) (hs:S0.map sgR=R.map sgR)=>show Calls Tryz.prog 15 #[.agg #[.int .i64 V,.slice a2 S0.length c2]] w' (fun e w''=>∃ (S:List RowV) (a3:Option Addr) (c3:Nat),e=.returned (.tuple #[.agg #[.int .i64 V,.slice a3 S.length c3],.int .i64 0])∧TNk w'' a3 S∧S.length≤c3∧S.length≤1048576∧(∀ r∈S,r.2.L.length≤2097152)∧(∀ ad,a3=some ad→S≠[]→w'.heap.size≤ad.block)∧Below w'.heap.size w' w''∧NrmT (tb R) (tb S)) from by
   refine (pNormT_is V a2 c2 S0 w' hS hl (by rw [sgR_bul hs];exact hbu) (wfo_sg hs hw)).mono ?_
   rintro e w2 (⟨h,v,S,rfl,⟨⟨a3,c3,rfl,hn,hl3,hf⟩,hb3,hr⟩,hN,hSl⟩ | ⟨h,rfl,hb3⟩)
   ·have hl0:=sgR_length hs;rw [sgR_tb hs] at hN;exact ⟨S,a3,c3,rfl,hn,hl3,by omega,nrm_short hN hbu,hf,hb3,hN⟩
   ·rw [sgR_tb hs] at h;exact absurd hmb h)
 have GO:=hide' (fun w' (hb:Below w.heap.size w w')=>show Calls Tryz.prog 16 #[.agg #[.int .i64 V,.slice a R.length c]] w' (fun e w''=>∃ (S:List RowV) (a3:Option Addr) (c3:Nat),e=.returned (.tuple #[.agg #[.int .i64 V,.slice a3 S.length c3],.int .i64 0])∧TNk w'' a3 S∧S.length≤c3∧S.length≤1048576∧(∀ r∈S,r.2.L.length≤2097152)∧(∀ ad,a3=some ad→S≠[]→w'.heap.size≤ad.block)∧Below w'.heap.size w' w''∧NrmT (tb R) (tb S)) from by
   refine (rNormT_is V a c R w' ⟨hT.later hb,by omega⟩ hc).mono ?_
   rintro e w2 (⟨h,v,S,rfl,⟨⟨a3,c3,rfl,hn,hl3,hf⟩,hb3,hr⟩,hN,hSl⟩ | ⟨h,rfl,hb3⟩)
   ·exact ⟨S,a3,c3,rfl,hn,hl3,by omega,nrm_short hN hbu,hf,hb3,hN⟩
   ·skip;exact absurd hmb h)
 have GU:=hide' (fun w' a3 c3 (S:List RowV) a4 c4 (Q:List RowV) (hS:TNk w' a3 S) (hQ:TNk w' a4 Q) (h3:S.length≤c3) (h4:Q.length≤c4) (hm:S.length≤1048576) (hf:∀ r∈S,r.2.L.length≤2097152) (hSn:NrmT (tb R) (tb S)) (hQn:NrmT (tb R) (tb Q))=>alike_is V a3 c3 S a4 c4 Q w' hS hQ h3 h4 hm hf (by exact hSn.uniq hQn))
 have GL:=hide' (fun w'=>lives_is w')
 clear hT hw hbu hmb
 have hBw:=below_alloc (w:=w) (.cells #[.int .i64 V,.slice a R.length c] 24)
 have kX:=Bk2.new w V a R.length c 24
 go_enter Tryz.func3,Tryz.ntmps3
 go_wp2_with fail
 obtain ⟨wA,hwA⟩:∃ wA,w.alloc (.cells #[.int .i64 V,.slice a R.length c] 24)=wA:=⟨_,rfl⟩
 rw [hwA] at hBw kX ⊢
 clear hwA
 refine (G1.out _).mono ?_
 rintro e w1 ⟨rfl,bN⟩
 clear G1
 replace hBw:=hBw.trans (bN.mono hBw.size)
 replace kX:=kX.later bN
 have hlt0:=kX.lt
 have k5:=Bk2.new w1 nV none 0 0 24
 have bM:=below_alloc (w:=w1) (.cells #[.int .i64 nV,.slice none 0 0] 24)
 have hb5:=hBw.size
 replace hBw:=hBw.trans (bM.mono hBw.size)
 replace kX:=kX.later bM
 clear bN bM
 go_wp2_with fail
 obtain ⟨wB0,hwB⟩:∃ wB,w1.alloc (.cells #[.int .i64 nV,.slice none 0 0] 24)=wB:=⟨_,rfl⟩
 rw [hwB] at hBw kX k5 ⊢
 clear hwB
 obtain ⟨b5,hb9⟩:∃ z,w1.heap.size=z:=⟨_,rfl⟩
 rw [hb9] at k5 hb5 hlt0 ⊢
 clear hb9
 refine (G2.out _).mono ?_
 rintro e w2 ⟨rfl,bN⟩
 clear G2
 replace hBw:=hBw.trans (bN.mono hBw.size)
 replace kX:=kX.later bN
 replace k5:=k5.later bN
 have hlt1:=kX.lt
 have hlt2:=k5.lt
 have k7:=Bk2.new w2 nV none 0 0 24
 have bM:=below_alloc (w:=w2) (.cells #[.int .i64 nV,.slice none 0 0] 24)
 have hb7:=hBw.size
 replace hBw:=hBw.trans (bM.mono hBw.size)
 replace kX:=kX.later bM
 replace k5:=k5.later bM
 clear bN bM
 go_wp2_with fail
 obtain ⟨wB1,hwB⟩:∃ wB,w2.alloc (.cells #[.int .i64 nV,.slice none 0 0] 24)=wB:=⟨_,rfl⟩
 rw [hwB] at hBw kX k5 k7 ⊢
 clear hwB
 obtain ⟨b7,hb9⟩:∃ z,w2.heap.size=z:=⟨_,rfl⟩
 rw [hb9] at k7 hb7 hlt1 hlt2 ⊢
 clear hb9
 have x0:=kX.cell0
 have x1:=kX.cell1
 have y0:=k5.cell0
 have y1:=k5.cell1
 have z0:=k7.cell0
 have z1:=k7.cell1
 have bD:Below wB1.heap.size wB1 wB1.drew:=(Below.refl _ _).drew
 have kx0:=below_cell bD x0
 have kx1:=below_cell bD x1
 have ky0:=below_cell bD y0
 have ky1:=below_cell bD y1
 have kz0:=below_cell bD z0
 have kz1:=below_cell bD z1
 replace hBw:=hBw.trans (bD.mono hBw.size)
 replace kX:=kX.later bD
 replace k5:=k5.later bD
 replace k7:=k7.later bD
 refine wp_region_held_drew (S:=fun w'=>w'.cell? ⟨w.heap.size,0,none⟩=some (.int .i64 V)∧w'.cell? ⟨w.heap.size,1,none⟩=some (.slice a R.length c)∧w'.cell? ⟨b5,0,none⟩=some (.int .i64 nV)∧w'.cell? ⟨b5,1,none⟩=some (.slice none 0 0)∧w'.cell? ⟨b7,0,none⟩=some (.int .i64 nV)∧w'.cell? ⟨b7,1,none⟩=some (.slice none 0 0)) (by kernel_rfl) ⟨kx0,kx1,ky0,ky1,kz0,kz1⟩ (fun hHeld=>?_)
 clear kx0 kx1 ky0 ky1 kz0 kz1
 generalize wB1.drew=u0 at bD kX k5 k7 hBw hHeld ⊢
 clear bD x0 x1 y0 y1 z0 z1
 refine tk 0 (v:=?_) rfl (Or.inl ⟨by rfl,?_⟩) ?_
 rotate_left
 ·intro w9 hSw
  go_simp
  first | done | with_reducible rfl
 simp only [pP,pN,pS,pZ,pC]
 refine tk 1 (v:=?_) rfl (Or.inl ⟨by rfl,?_⟩) ?_
 rotate_left
 ·intro w9 hSw
  go_simp
  first | done | with_reducible rfl
 simp only [pP,pN,pS,pZ,pC]
 refine tk 2 (v:=?_) rfl (Or.inl ⟨by rfl,?_⟩) ?_
 rotate_left
 ·intro w9 hSw
  go_simp
  first | done | with_reducible rfl
 simp only [pP,pN,pS,pZ,pC]
 refine tk 3 (v:=?_) rfl (Or.inl ⟨by rfl,?_⟩) ?_
 rotate_left
 ·intro w9 hSw
  go_simp
  first | done | with_reducible rfl
 simp only [pP,pN,pS,pZ,pC]
 refine tk 4 (v:=?_) rfl (Or.inl ⟨by rfl,?_⟩) ?_
 rotate_left
 ·intro w9 hSw
  go_simp
  first | done | with_reducible rfl
 simp only [pP,pN,pS,pZ,pC]
 refine tk 5 (v:=?_) rfl (Or.inl ⟨by rfl,?_⟩) ?_
 rotate_left
 ·intro w9 hSw
  go_simp
  first | done | with_reducible rfl
 simp only [pP,pN,pS,pZ,pC]
 refine wpAnyH_ready (rs:=[6]) (by kernel_rfl) (by simp) ?_
 refine cons' rfl (fun KK hKK=>?_)
 go_simp
 refine (GA0.out _).mono ?_
 rintro e u1 ⟨rfl,b1⟩
 have bC:=b1
 replace hBw:=hBw.trans (bC.mono hBw.size)
 replace kX:=kX.later bC
 replace k5:=k5.later bC
 replace k7:=k7.later bC
 replace hHeld:=(⟨below_cell bC hHeld.1,below_cell bC hHeld.2.1,below_cell bC hHeld.2.2.1,below_cell bC hHeld.2.2.2.1,below_cell bC hHeld.2.2.2.2.1,below_cell bC hHeld.2.2.2.2.2⟩:_∧_∧_∧_∧_∧_)
 clear bC
 go_wp2_with fail
 clear b1 GA0
 refine hKK.out _ _ hHeld ?_
 clear hHeld
 intro hHeld
 clear hKK KK
 try simp only [pP,pN,pS,pZ,pC]
 refine tk 7 (v:=?_) rfl (Or.inl ⟨by rfl,?_⟩) ?_
 rotate_left
 ·intro w9 hSw
  go_simp
  first | done | with_reducible rfl
 simp only [pP,pN,pS,pZ,pC]
 refine tk 8 (v:=?_) rfl (Or.inl ⟨by rfl,?_⟩) ?_
 rotate_left
 ·intro w9 hSw
  go_simp
  first | done | with_reducible rfl
 simp only [pP,pN,pS,pZ,pC]
 refine tk 9 (v:=?_) rfl (Or.inl ⟨by rfl,?_⟩) ?_
 rotate_left
 ·intro w9 hSw
  go_simp
  first | done | with_reducible rfl
 simp only [pP,pN,pS,pZ,pC]
 refine tk 10 (v:=?_) rfl (Or.inl ⟨by rfl,?_⟩) ?_
 rotate_left
 ·intro w9 hSw
  go_simp
  first | done | with_reducible rfl
 simp only [pP,pN,pS,pZ,pC]
 refine tk 13 (v:=?_) rfl (Or.inl ⟨by rfl,?_⟩) ?_
 rotate_left
 ·intro w9 hSw
  go_simp
  first | done | with_reducible rfl
 simp only [pP,pN,pS,pZ,pC]
 refine wpAnyH_ready (rs:=[11]) (by kernel_rfl) (by simp) ?_
 refine cons' rfl (fun KK hKK=>?_)
 go_simp
 refine (GT.out _ hBw).mono ?_
 rintro e u2 ⟨S0,a2,c2,rfl,b2,hS0,hl0,hs0⟩
 have bC:=b2
 replace hBw:=hBw.trans (bC.mono hBw.size)
 replace kX:=kX.later bC
 replace k5:=k5.later bC
 replace k7:=k7.later bC
 replace hHeld:=(⟨below_cell bC hHeld.1,below_cell bC hHeld.2.1,below_cell bC hHeld.2.2.1,below_cell bC hHeld.2.2.2.1,below_cell bC hHeld.2.2.2.2.1,below_cell bC hHeld.2.2.2.2.2⟩:_∧_∧_∧_∧_∧_)
 clear bC
 go_wp2_with fail
 clear b2
 refine hKK.out _ _ hHeld ?_
 clear hHeld
 intro hHeld
 clear hKK KK
 try simp only [pP,pN,pS,pZ,pC]
 refine wpAnyH_ready (rs:=[12]) (by kernel_rfl) (by simp) ?_
 refine cons' rfl (fun KK hKK=>?_)
 go_simp
 refine (GC.out _ a2 c2 S0 hS0 hl0 hs0).mono ?_
 rintro e u3 ⟨rfl,b3⟩
 have bC:=b3
 replace hBw:=hBw.trans (bC.mono hBw.size)
 replace kX:=kX.later bC
 replace k5:=k5.later bC
 replace k7:=k7.later bC
 replace hS0:=hS0.later bC
 replace hHeld:=(⟨below_cell bC hHeld.1,below_cell bC hHeld.2.1,below_cell bC hHeld.2.2.1,below_cell bC hHeld.2.2.2.1,below_cell bC hHeld.2.2.2.2.1,below_cell bC hHeld.2.2.2.2.2⟩:_∧_∧_∧_∧_∧_)
 clear bC
 go_wp2_with fail
 clear b3 hS0 hl0 hs0 GC
 refine hKK.out _ _ hHeld ?_
 clear hHeld
 intro hHeld
 clear hKK KK
 try simp only [pP,pN,pS,pZ,pC]
 refine wpAnyH_ready (rs:=[14]) (by kernel_rfl) (by simp) ?_
 refine cons' rfl (fun KK hKK=>?_)
 go_simp
 refine (GR.out _ hBw).mono ?_
 rintro e u4 ⟨rfl,b4⟩
 have bC:=b4
 replace hBw:=hBw.trans (bC.mono hBw.size)
 replace kX:=kX.later bC
 replace k5:=k5.later bC
 replace k7:=k7.later bC
 replace hHeld:=(⟨below_cell bC hHeld.1,below_cell bC hHeld.2.1,below_cell bC hHeld.2.2.1,below_cell bC hHeld.2.2.2.1,below_cell bC hHeld.2.2.2.2.1,below_cell bC hHeld.2.2.2.2.2⟩:_∧_∧_∧_∧_∧_)
 clear bC
 go_wp2_with fail
 clear b4 GR
 refine hKK.out _ _ hHeld ?_
 clear hHeld
 intro hHeld
 clear hKK KK
 try simp only [pP,pN,pS,pZ,pC]
 refine tk 15 (v:=?_) rfl (Or.inl ⟨by rfl,?_⟩) ?_
 rotate_left
 ·intro w9 hSw
  go_simp
  first | done | with_reducible rfl
 simp only [pP,pN,pS,pZ,pC]
 refine tk 16 (v:=?_) rfl (Or.inl ⟨by rfl,?_⟩) ?_
 rotate_left
 ·intro w9 hSw
  go_simp
  first | done | with_reducible rfl
 simp only [pP,pN,pS,pZ,pC]
 refine wpAnyH_done (by kernel_rfl) ?_ _
 clear hHeld
 have x0:=kX.cell0
 have x1:=kX.cell1
 have y0:=k5.cell0
 have y1:=k5.cell1
 have z0:=k7.cell0
 have z1:=k7.cell1
 go_wp2_with fail
 clear x0 x1 y0 y1 z0 z1
 refine (GT.out _ hBw).mono ?_
 rintro e u5 ⟨S0,a2,c2,rfl,bN,hS0,hl0,hs0⟩
 replace kX:=kX.later bN
 replace k5:=k5.later bN
 replace k7:=k7.later bN
 replace hBw:=hBw.trans (bN.mono hBw.size)
 clear bN GT
 have x0:=kX.cell0
 have x1:=kX.cell1
 have y0:=k5.cell0
 have y1:=k5.cell1
 have z0:=k7.cell0
 have z1:=k7.cell1
 go_wp2_with fail
 clear x0 x1 y0 y1 z0 z1
 have q5:=k5.lt
 refine (GN.out _ S0 a2 c2 hS0 hl0 hs0).mono ?_
 rintro e u6 ⟨S,a3,c3,rfl,hS,h3,hm3,hf3,hfr3,bN,hSn⟩
 clear hS0 hl0 hs0 GN
 replace hSn:=hide' hSn
 have q7:=k7.lt
 have ne5:∀ ad,a3=some ad→S≠[]→ad.block≠b5:=fun ad e h=>by have h2:=hfr3 ad e h;omega
 have ne7:∀ ad,a3=some ad→S≠[]→ad.block≠b7:=fun ad e h=>by have h2:=hfr3 ad e h;omega
 replace kX:=kX.later bN
 replace k5:=k5.later bN
 replace k7:=k7.later bN
 replace hBw:=hBw.trans (bN.mono hBw.size)
 clear bN hfr3 q5 q7
 have hx5:w.heap.size≠b5∧w.heap.size≠b7∧b5≠b7:=⟨by omega,by omega,by omega⟩
 obtain ⟨e1,e2,e3⟩:=hx5
 have t0:=k5.cell0
 have t1:=k5.cell1
 have fz:=fun o=>k5.row.frozen o
 have s0:((u6.setCell ⟨b5,0,none⟩ (.int .i64 V)).setCell ⟨b5,1,none⟩ (.slice a3 S.length c3)).cell? ⟨b5,0,none⟩=some (.int .i64 V):=(World.cell?_setCell_other _ _ _ _ (fun e=>by simp at e)).trans (World.cell?_setCell_same _ _ _ t0)
 have s1:((u6.setCell ⟨b5,0,none⟩ (.int .i64 V)).setCell ⟨b5,1,none⟩ (.slice a3 S.length c3)).cell? ⟨b5,1,none⟩=some (.slice a3 S.length c3):=World.cell?_setCell_same _ _ _ ((World.cell?_setCell_other _ _ _ _ (fun e=>by simp at e)).trans t1)
 have kXc0:=far1 (q:=b5) (o:=1) (u:=.slice a3 S.length c3) (far1 (q:=b5) (o:=0) (u:=.int .i64 V) kX.cell0 (by omega)) (by omega)
 have kXc1:=far1 (q:=b5) (o:=1) (u:=.slice a3 S.length c3) (far1 (q:=b5) (o:=0) (u:=.int .i64 V) kX.cell1 (by omega)) (by omega)
 have k7c0:=far1 (q:=b5) (o:=1) (u:=.slice a3 S.length c3) (far1 (q:=b5) (o:=0) (u:=.int .i64 V) k7.cell0 (by omega)) (by omega)
 have k7c1:=far1 (q:=b5) (o:=1) (u:=.slice a3 S.length c3) (far1 (q:=b5) (o:=0) (u:=.int .i64 V) k7.cell1 (by omega)) (by omega)
 have hS2:TNk ((u6.setCell ⟨b5,0,none⟩ (.int .i64 V)).setCell ⟨b5,1,none⟩ (.slice a3 S.length c3)) a3 S:=(hS.set k5 ne5).set (k5.set (b:=none) (k:=0) (l:=0)) ne5
 have hB2:Below w.heap.size w ((u6.setCell ⟨b5,0,none⟩ (.int .i64 V)).setCell ⟨b5,1,none⟩ (.slice a3 S.length c3)):=(hBw.setCell hb5 _).setCell hb5 _
 have r7:Bk2 ((u6.setCell ⟨b5,0,none⟩ (.int .i64 V)).setCell ⟨b5,1,none⟩ (.slice a3 S.length c3)) b7 nV none 0 0:=by obtain ⟨t,ht⟩:=k7;exact ⟨t,by rw [Below.heap_setCell _ _ _ _ (Ne.symm e3),Below.heap_setCell _ _ _ _ (Ne.symm e3)];exact ht⟩
 clear hS hBw k7 kX k5
 go_wp2_with fail
 clear t0 t1 fz ne5 k7c0 k7c1
 generalize ((u6.setCell ⟨b5,0,none⟩ (.int .i64 V)).setCell ⟨b5,1,none⟩ (.slice a3 S.length c3))=u7 at s0 s1 kXc0 kXc1 r7 hS2 hB2 ⊢
 have q7:=r7.lt
 refine (GO.out _ hB2).mono ?_
 rintro e u8 ⟨Q,a4,c4,rfl,hQ,h4,hm4,hf4,hfr4,bN,hQn⟩
 clear GO
 replace hQn:=hide' hQn
 have ne4:∀ ad,a4=some ad→Q≠[]→ad.block≠b7:=fun ad e h=>by have h2:=hfr4 ad e h;omega
 replace s0:=below_cell bN s0
 replace s1:=below_cell bN s1
 replace kXc0:=below_cell bN kXc0
 replace kXc1:=below_cell bN kXc1
 replace r7:=r7.later bN
 replace hS2:=hS2.later bN
 replace hB2:=hB2.trans (bN.mono hB2.size)
 clear bN hfr4 q7
 have t0:=r7.cell0
 have t1:=r7.cell1
 have fz:=fun o=>r7.row.frozen o
 have p0:((u8.setCell ⟨b7,0,none⟩ (.int .i64 V)).setCell ⟨b7,1,none⟩ (.slice a4 Q.length c4)).cell? ⟨b7,0,none⟩=some (.int .i64 V):=(World.cell?_setCell_other _ _ _ _ (fun e=>by simp at e)).trans (World.cell?_setCell_same _ _ _ t0)
 have p1:((u8.setCell ⟨b7,0,none⟩ (.int .i64 V)).setCell ⟨b7,1,none⟩ (.slice a4 Q.length c4)).cell? ⟨b7,1,none⟩=some (.slice a4 Q.length c4):=World.cell?_setCell_same _ _ _ ((World.cell?_setCell_other _ _ _ _ (fun e=>by simp at e)).trans t1)
 have v0:=far1 (q:=b7) (o:=1) (u:=.slice a4 Q.length c4) (far1 (q:=b7) (o:=0) (u:=.int .i64 V) s0 e3) e3
 have v1:=far1 (q:=b7) (o:=1) (u:=.slice a4 Q.length c4) (far1 (q:=b7) (o:=0) (u:=.int .i64 V) s1 e3) e3
 have hQ2:TNk ((u8.setCell ⟨b7,0,none⟩ (.int .i64 V)).setCell ⟨b7,1,none⟩ (.slice a4 Q.length c4)) a4 Q:=(hQ.set r7 ne4).set (r7.set (b:=none) (k:=0) (l:=0)) ne4
 have hS3:TNk ((u8.setCell ⟨b7,0,none⟩ (.int .i64 V)).setCell ⟨b7,1,none⟩ (.slice a4 Q.length c4)) a3 S:=(hS2.set r7 ne7).set (r7.set (b:=none) (k:=0) (l:=0)) ne7
 have hB3:Below w.heap.size w ((u8.setCell ⟨b7,0,none⟩ (.int .i64 V)).setCell ⟨b7,1,none⟩ (.slice a4 Q.length c4)):=(hB2.setCell hb7 _).setCell hb7 _
 clear hQ hS2 hB2 r7 kXc0 kXc1
 go_wp2_with fail
 refine (GU.out _ a3 c3 S a4 c4 Q hS3 hQ2 h3 h4 hm3 hf3 hSn.out hQn.out).mono ?_
 rintro e u9 ⟨rfl,bN⟩
 replace hB3:=hB3.trans (bN.mono hB3.size)
 clear bN GU hS3 hQ2 h3 h4 hm3 hf3 hSn hQn t0 t1 fz p0 p1 v0 v1 ne4 ne7 s0 s1 hf4 hm4
 go_wp2_with fail
 refine (GL.out _).mono ?_
 rintro e uA ⟨rfl,bN⟩
 replace hB3:=hB3.trans (bN.mono hB3.size)
 clear bN GL
 go_wp2
 first | exact ⟨rfl,hB3⟩ | (go_ret;exact ⟨rfl,hB3⟩)
set_option maxHeartbeats 16000000 in
set_option maxRecDepth 100000 in
theorem walk0 (V:Int) (a:Option Addr) (c:Nat) (R:List RowV) (n:Int) (w:World) (hT:TIn w a R) (hw:∀ r∈R,wfo r.2.fo) (hc:R.length≤c) (hbu:bulT R≤1048576) (hmb:¬ mayBe V (tb R)):Calls Tryz.prog 3 #[.agg #[.int .i64 V,.slice a R.length c],.int .i64 n] w fun e w'=>e=.returned (.bool true)∧Below w.heap.size w w':=by
 have hlen:R.length≤1048576:=by have:=bulT_len R;omega
 have G1:=hide' (fun w'=>pNew_is n w')
 have G2:=hide' (fun w'=>rNew_is n w')
 obtain ⟨nV,hnV⟩:∃ z,newV n=z:=⟨_,rfl⟩
 obtain ⟨nE,hnE⟩:∃ z,newE n=z:=⟨_,rfl⟩
 rw [hnV,hnE] at G1 G2
 clear hnV hnE
 have GA0:=hide' (fun w'=>show Calls Tryz.prog 11 #[.agg #[.int .i64 nV,.slice none 0 0],.agg #[.int .i64 nV,.slice none 0 0]] w' fun e w''=>e=.returned (.bool true)∧Below w'.heap.size w' w'' from alike_is nV none 0 [] none 0 [] w' (nil_nk w') (nil_nk w') (Nat.le_refl _) (Nat.le_refl _) (by simp) (fun r hr=>absurd hr (by simp)) rfl)
 have GT:=hide' (fun w' (hb:Below w.heap.size w w')=>twin_is V a c R w' (hT.later hb) hc (by omega))
 have GC:=hide' (fun w' a2 c2 (S:List RowV) (hS:TIn w' a2 S) (hl:S.length≤c2) (hs:S.map sgR=R.map sgR)=>show Calls Tryz.prog 12 #[.agg #[.int .i64 V,.slice a2 S.length c2]] w' fun e w''=>e=.returned (.int .i64 70)∧Below w'.heap.size w' w'' from by
   refine (pCheck_is V a2 c2 S w' hS hl (by rw [sgR_bul hs];exact hbu) (wfo_sg hs hw)).mono ?_
   rintro e w2 ⟨hb,⟨h,rfl⟩ | ⟨h,rfl⟩⟩
   ·rw [sgR_tb hs] at h;exact absurd h hmb
   ·exact ⟨rfl,hb⟩)
 have GR:=hide' (fun w' (hb:Below w.heap.size w w')=>show Calls Tryz.prog 14 #[.agg #[.int .i64 V,.slice a R.length c]] w' fun e w''=>e=.returned (.int .i64 70)∧Below w'.heap.size w' w'' from by
   refine (rCheck_is V a c R w' ⟨hT.later hb,by omega⟩ hc).mono ?_
   rintro e w2 ⟨hb,⟨h,rfl⟩ | ⟨h,rfl⟩⟩
   ·exact absurd h hmb
   ·exact ⟨rfl,hb⟩)
 have GN:=hide' (fun w' (S0:List RowV) a2 c2 (hS:TIn w' a2 S0) (hl:S0.length≤c2) (hs:S0.map sgR=R.map sgR)=>show Calls Tryz.prog 15 #[.agg #[.int .i64 V,.slice a2 S0.length c2]] w' (fun e w''=>∃ (S:List RowV) (a3:Option Addr) (c3:Nat),e=.returned (.tuple #[.agg #[.int .i64 0,.slice a3 S.length c3],.int .i64 70])∧TNk w'' a3 S∧S.length≤c3∧S.length≤1048576∧(∀ r∈S,r.2.L.length≤2097152)∧(∀ ad,a3=some ad→S≠[]→w'.heap.size≤ad.block)∧Below w'.heap.size w' w''∧S=[]) from by
   refine (pNormT_is V a2 c2 S0 w' hS hl (by rw [sgR_bul hs];exact hbu) (wfo_sg hs hw)).mono ?_
   rintro e w2 (⟨h,v,S,rfl,⟨⟨a3,c3,rfl,hn,hl3,hf⟩,hb3,hr⟩,hN,hSl⟩ | ⟨h,rfl,hb3⟩)
   ·rw [sgR_tb hs] at h;exact absurd h hmb
   ·exact ⟨[],none,0,rfl,nil_nk _,Nat.le_refl _,by simp,fun r hr=>absurd hr (by simp),fun ad e=>(by cases e),hb3,rfl⟩)
 have GO:=hide' (fun w' (hb:Below w.heap.size w w')=>show Calls Tryz.prog 16 #[.agg #[.int .i64 V,.slice a R.length c]] w' (fun e w''=>∃ (S:List RowV) (a3:Option Addr) (c3:Nat),e=.returned (.tuple #[.agg #[.int .i64 0,.slice a3 S.length c3],.int .i64 70])∧TNk w'' a3 S∧S.length≤c3∧S.length≤1048576∧(∀ r∈S,r.2.L.length≤2097152)∧(∀ ad,a3=some ad→S≠[]→w'.heap.size≤ad.block)∧Below w'.heap.size w' w''∧S=[]) from by
   refine (rNormT_is V a c R w' ⟨hT.later hb,by omega⟩ hc).mono ?_
   rintro e w2 (⟨h,v,S,rfl,⟨⟨a3,c3,rfl,hn,hl3,hf⟩,hb3,hr⟩,hN,hSl⟩ | ⟨h,rfl,hb3⟩)
   ·skip;exact absurd h hmb
   ·exact ⟨[],none,0,rfl,nil_nk _,Nat.le_refl _,by simp,fun r hr=>absurd hr (by simp),fun ad e=>(by cases e),hb3,rfl⟩)
 have GU:=hide' (fun w' a3 c3 (S:List RowV) a4 c4 (Q:List RowV) (hS:TNk w' a3 S) (hQ:TNk w' a4 Q) (h3:S.length≤c3) (h4:Q.length≤c4) (hm:S.length≤1048576) (hf:∀ r∈S,r.2.L.length≤2097152) (hSn:S=[]) (hQn:Q=[])=>alike_is 0 a3 c3 S a4 c4 Q w' hS hQ h3 h4 hm hf (by rw [hSn,hQn]))
 have GL:=hide' (fun w'=>lives_is w')
 clear hT hw hbu hmb
 have hBw:=below_alloc (w:=w) (.cells #[.int .i64 V,.slice a R.length c] 24)
 have kX:=Bk2.new w V a R.length c 24
 go_enter Tryz.func3,Tryz.ntmps3
 go_wp2_with fail
 obtain ⟨wA,hwA⟩:∃ wA,w.alloc (.cells #[.int .i64 V,.slice a R.length c] 24)=wA:=⟨_,rfl⟩
 rw [hwA] at hBw kX ⊢
 clear hwA
 refine (G1.out _).mono ?_
 rintro e w1 ⟨rfl,bN⟩
 clear G1
 replace hBw:=hBw.trans (bN.mono hBw.size)
 replace kX:=kX.later bN
 have hlt0:=kX.lt
 have k5:=Bk2.new w1 nV none 0 0 24
 have bM:=below_alloc (w:=w1) (.cells #[.int .i64 nV,.slice none 0 0] 24)
 have hb5:=hBw.size
 replace hBw:=hBw.trans (bM.mono hBw.size)
 replace kX:=kX.later bM
 clear bN bM
 go_wp2_with fail
 obtain ⟨wB0,hwB⟩:∃ wB,w1.alloc (.cells #[.int .i64 nV,.slice none 0 0] 24)=wB:=⟨_,rfl⟩
 rw [hwB] at hBw kX k5 ⊢
 clear hwB
 obtain ⟨b5,hb9⟩:∃ z,w1.heap.size=z:=⟨_,rfl⟩
 rw [hb9] at k5 hb5 hlt0 ⊢
 clear hb9
 refine (G2.out _).mono ?_
 rintro e w2 ⟨rfl,bN⟩
 clear G2
 replace hBw:=hBw.trans (bN.mono hBw.size)
 replace kX:=kX.later bN
 replace k5:=k5.later bN
 have hlt1:=kX.lt
 have hlt2:=k5.lt
 have k7:=Bk2.new w2 nV none 0 0 24
 have bM:=below_alloc (w:=w2) (.cells #[.int .i64 nV,.slice none 0 0] 24)
 have hb7:=hBw.size
 replace hBw:=hBw.trans (bM.mono hBw.size)
 replace kX:=kX.later bM
 replace k5:=k5.later bM
 clear bN bM
 go_wp2_with fail
 obtain ⟨wB1,hwB⟩:∃ wB,w2.alloc (.cells #[.int .i64 nV,.slice none 0 0] 24)=wB:=⟨_,rfl⟩
 rw [hwB] at hBw kX k5 k7 ⊢
 clear hwB
 obtain ⟨b7,hb9⟩:∃ z,w2.heap.size=z:=⟨_,rfl⟩
 rw [hb9] at k7 hb7 hlt1 hlt2 ⊢
 clear hb9
 have x0:=kX.cell0
 have x1:=kX.cell1
 have y0:=k5.cell0
 have y1:=k5.cell1
 have z0:=k7.cell0
 have z1:=k7.cell1
 have bD:Below wB1.heap.size wB1 wB1.drew:=(Below.refl _ _).drew
 have kx0:=below_cell bD x0
 have kx1:=below_cell bD x1
 have ky0:=below_cell bD y0
 have ky1:=below_cell bD y1
 have kz0:=below_cell bD z0
 have kz1:=below_cell bD z1
 replace hBw:=hBw.trans (bD.mono hBw.size)
 replace kX:=kX.later bD
 replace k5:=k5.later bD
 replace k7:=k7.later bD
 refine wp_region_held_drew (S:=fun w'=>w'.cell? ⟨w.heap.size,0,none⟩=some (.int .i64 V)∧w'.cell? ⟨w.heap.size,1,none⟩=some (.slice a R.length c)∧w'.cell? ⟨b5,0,none⟩=some (.int .i64 nV)∧w'.cell? ⟨b5,1,none⟩=some (.slice none 0 0)∧w'.cell? ⟨b7,0,none⟩=some (.int .i64 nV)∧w'.cell? ⟨b7,1,none⟩=some (.slice none 0 0)) (by kernel_rfl) ⟨kx0,kx1,ky0,ky1,kz0,kz1⟩ (fun hHeld=>?_)
 clear kx0 kx1 ky0 ky1 kz0 kz1
 generalize wB1.drew=u0 at bD kX k5 k7 hBw hHeld ⊢
 clear bD x0 x1 y0 y1 z0 z1
 refine tk 0 (v:=?_) rfl (Or.inl ⟨by rfl,?_⟩) ?_
 rotate_left
 ·intro w9 hSw
  go_simp
  first | done | with_reducible rfl
 simp only [pP,pN,pS,pZ,pC]
 refine tk 1 (v:=?_) rfl (Or.inl ⟨by rfl,?_⟩) ?_
 rotate_left
 ·intro w9 hSw
  go_simp
  first | done | with_reducible rfl
 simp only [pP,pN,pS,pZ,pC]
 refine tk 2 (v:=?_) rfl (Or.inl ⟨by rfl,?_⟩) ?_
 rotate_left
 ·intro w9 hSw
  go_simp
  first | done | with_reducible rfl
 simp only [pP,pN,pS,pZ,pC]
 refine tk 3 (v:=?_) rfl (Or.inl ⟨by rfl,?_⟩) ?_
 rotate_left
 ·intro w9 hSw
  go_simp
  first | done | with_reducible rfl
 simp only [pP,pN,pS,pZ,pC]
 refine tk 4 (v:=?_) rfl (Or.inl ⟨by rfl,?_⟩) ?_
 rotate_left
 ·intro w9 hSw
  go_simp
  first | done | with_reducible rfl
 simp only [pP,pN,pS,pZ,pC]
 refine tk 5 (v:=?_) rfl (Or.inl ⟨by rfl,?_⟩) ?_
 rotate_left
 ·intro w9 hSw
  go_simp
  first | done | with_reducible rfl
 simp only [pP,pN,pS,pZ,pC]
 refine wpAnyH_ready (rs:=[6]) (by kernel_rfl) (by simp) ?_
 refine cons' rfl (fun KK hKK=>?_)
 go_simp
 refine (GA0.out _).mono ?_
 rintro e u1 ⟨rfl,b1⟩
 have bC:=b1
 replace hBw:=hBw.trans (bC.mono hBw.size)
 replace kX:=kX.later bC
 replace k5:=k5.later bC
 replace k7:=k7.later bC
 replace hHeld:=(⟨below_cell bC hHeld.1,below_cell bC hHeld.2.1,below_cell bC hHeld.2.2.1,below_cell bC hHeld.2.2.2.1,below_cell bC hHeld.2.2.2.2.1,below_cell bC hHeld.2.2.2.2.2⟩:_∧_∧_∧_∧_∧_)
 clear bC
 go_wp2_with fail
 clear b1 GA0
 refine hKK.out _ _ hHeld ?_
 clear hHeld
 intro hHeld
 clear hKK KK
 try simp only [pP,pN,pS,pZ,pC]
 refine tk 7 (v:=?_) rfl (Or.inl ⟨by rfl,?_⟩) ?_
 rotate_left
 ·intro w9 hSw
  go_simp
  first | done | with_reducible rfl
 simp only [pP,pN,pS,pZ,pC]
 refine tk 8 (v:=?_) rfl (Or.inl ⟨by rfl,?_⟩) ?_
 rotate_left
 ·intro w9 hSw
  go_simp
  first | done | with_reducible rfl
 simp only [pP,pN,pS,pZ,pC]
 refine tk 9 (v:=?_) rfl (Or.inl ⟨by rfl,?_⟩) ?_
 rotate_left
 ·intro w9 hSw
  go_simp
  first | done | with_reducible rfl
 simp only [pP,pN,pS,pZ,pC]
 refine tk 10 (v:=?_) rfl (Or.inl ⟨by rfl,?_⟩) ?_
 rotate_left
 ·intro w9 hSw
  go_simp
  first | done | with_reducible rfl
 simp only [pP,pN,pS,pZ,pC]
 refine tk 13 (v:=?_) rfl (Or.inl ⟨by rfl,?_⟩) ?_
 rotate_left
 ·intro w9 hSw
  go_simp
  first | done | with_reducible rfl
 simp only [pP,pN,pS,pZ,pC]
 refine wpAnyH_ready (rs:=[11]) (by kernel_rfl) (by simp) ?_
 refine cons' rfl (fun KK hKK=>?_)
 go_simp
 refine (GT.out _ hBw).mono ?_
 rintro e u2 ⟨S0,a2,c2,rfl,b2,hS0,hl0,hs0⟩
 have bC:=b2
 replace hBw:=hBw.trans (bC.mono hBw.size)
 replace kX:=kX.later bC
 replace k5:=k5.later bC
 replace k7:=k7.later bC
 replace hHeld:=(⟨below_cell bC hHeld.1,below_cell bC hHeld.2.1,below_cell bC hHeld.2.2.1,below_cell bC hHeld.2.2.2.1,below_cell bC hHeld.2.2.2.2.1,below_cell bC hHeld.2.2.2.2.2⟩:_∧_∧_∧_∧_∧_)
 clear bC
 go_wp2_with fail
 clear b2
 refine hKK.out _ _ hHeld ?_
 clear hHeld
 intro hHeld
 clear hKK KK
 try simp only [pP,pN,pS,pZ,pC]
 refine wpAnyH_ready (rs:=[12]) (by kernel_rfl) (by simp) ?_
 refine cons' rfl (fun KK hKK=>?_)
 go_simp
 refine (GC.out _ a2 c2 S0 hS0 hl0 hs0).mono ?_
 rintro e u3 ⟨rfl,b3⟩
 have bC:=b3
 replace hBw:=hBw.trans (bC.mono hBw.size)
 replace kX:=kX.later bC
 replace k5:=k5.later bC
 replace k7:=k7.later bC
 replace hS0:=hS0.later bC
 replace hHeld:=(⟨below_cell bC hHeld.1,below_cell bC hHeld.2.1,below_cell bC hHeld.2.2.1,below_cell bC hHeld.2.2.2.1,below_cell bC hHeld.2.2.2.2.1,below_cell bC hHeld.2.2.2.2.2⟩:_∧_∧_∧_∧_∧_)
 clear bC
 go_wp2_with fail
 clear b3 hS0 hl0 hs0 GC
 refine hKK.out _ _ hHeld ?_
 clear hHeld
 intro hHeld
 clear hKK KK
 try simp only [pP,pN,pS,pZ,pC]
 refine wpAnyH_ready (rs:=[14]) (by kernel_rfl) (by simp) ?_
 refine cons' rfl (fun KK hKK=>?_)
 go_simp
 refine (GR.out _ hBw).mono ?_
 rintro e u4 ⟨rfl,b4⟩
 have bC:=b4
 replace hBw:=hBw.trans (bC.mono hBw.size)
 replace kX:=kX.later bC
 replace k5:=k5.later bC
 replace k7:=k7.later bC
 replace hHeld:=(⟨below_cell bC hHeld.1,below_cell bC hHeld.2.1,below_cell bC hHeld.2.2.1,below_cell bC hHeld.2.2.2.1,below_cell bC hHeld.2.2.2.2.1,below_cell bC hHeld.2.2.2.2.2⟩:_∧_∧_∧_∧_∧_)
 clear bC
 go_wp2_with fail
 clear b4 GR
 refine hKK.out _ _ hHeld ?_
 clear hHeld
 intro hHeld
 clear hKK KK
 try simp only [pP,pN,pS,pZ,pC]
 refine tk 15 (v:=?_) rfl (Or.inl ⟨by rfl,?_⟩) ?_
 rotate_left
 ·intro w9 hSw
  go_simp
  first | done | with_reducible rfl
 simp only [pP,pN,pS,pZ,pC]
 refine tk 16 (v:=?_) rfl (Or.inl ⟨by rfl,?_⟩) ?_
 rotate_left
 ·intro w9 hSw
  go_simp
  first | done | with_reducible rfl
 simp only [pP,pN,pS,pZ,pC]
 refine wpAnyH_done (by kernel_rfl) ?_ _
 clear hHeld
 have x0:=kX.cell0
 have x1:=kX.cell1
 have y0:=k5.cell0
 have y1:=k5.cell1
 have z0:=k7.cell0
 have z1:=k7.cell1
 go_wp2_with fail
 clear x0 x1 y0 y1 z0 z1
 refine (GT.out _ hBw).mono ?_
 rintro e u5 ⟨S0,a2,c2,rfl,bN,hS0,hl0,hs0⟩
 replace kX:=kX.later bN
 replace k5:=k5.later bN
 replace k7:=k7.later bN
 replace hBw:=hBw.trans (bN.mono hBw.size)
 clear bN GT
 have x0:=kX.cell0
 have x1:=kX.cell1
 have y0:=k5.cell0
 have y1:=k5.cell1
 have z0:=k7.cell0
 have z1:=k7.cell1
 go_wp2_with fail
 clear x0 x1 y0 y1 z0 z1
 have q5:=k5.lt
 refine (GN.out _ S0 a2 c2 hS0 hl0 hs0).mono ?_
 rintro e u6 ⟨S,a3,c3,rfl,hS,h3,hm3,hf3,hfr3,bN,hSn⟩
 clear hS0 hl0 hs0 GN
 replace hSn:=hide' hSn
 have q7:=k7.lt
 have ne5:∀ ad,a3=some ad→S≠[]→ad.block≠b5:=fun ad e h=>by have h2:=hfr3 ad e h;omega
 have ne7:∀ ad,a3=some ad→S≠[]→ad.block≠b7:=fun ad e h=>by have h2:=hfr3 ad e h;omega
 replace kX:=kX.later bN
 replace k5:=k5.later bN
 replace k7:=k7.later bN
 replace hBw:=hBw.trans (bN.mono hBw.size)
 clear bN hfr3 q5 q7
 have hx5:w.heap.size≠b5∧w.heap.size≠b7∧b5≠b7:=⟨by omega,by omega,by omega⟩
 obtain ⟨e1,e2,e3⟩:=hx5
 have t0:=k5.cell0
 have t1:=k5.cell1
 have fz:=fun o=>k5.row.frozen o
 have s0:((u6.setCell ⟨b5,0,none⟩ (.int .i64 0)).setCell ⟨b5,1,none⟩ (.slice a3 S.length c3)).cell? ⟨b5,0,none⟩=some (.int .i64 0):=(World.cell?_setCell_other _ _ _ _ (fun e=>by simp at e)).trans (World.cell?_setCell_same _ _ _ t0)
 have s1:((u6.setCell ⟨b5,0,none⟩ (.int .i64 0)).setCell ⟨b5,1,none⟩ (.slice a3 S.length c3)).cell? ⟨b5,1,none⟩=some (.slice a3 S.length c3):=World.cell?_setCell_same _ _ _ ((World.cell?_setCell_other _ _ _ _ (fun e=>by simp at e)).trans t1)
 have kXc0:=far1 (q:=b5) (o:=1) (u:=.slice a3 S.length c3) (far1 (q:=b5) (o:=0) (u:=.int .i64 0) kX.cell0 (by omega)) (by omega)
 have kXc1:=far1 (q:=b5) (o:=1) (u:=.slice a3 S.length c3) (far1 (q:=b5) (o:=0) (u:=.int .i64 0) kX.cell1 (by omega)) (by omega)
 have k7c0:=far1 (q:=b5) (o:=1) (u:=.slice a3 S.length c3) (far1 (q:=b5) (o:=0) (u:=.int .i64 0) k7.cell0 (by omega)) (by omega)
 have k7c1:=far1 (q:=b5) (o:=1) (u:=.slice a3 S.length c3) (far1 (q:=b5) (o:=0) (u:=.int .i64 0) k7.cell1 (by omega)) (by omega)
 have hS2:TNk ((u6.setCell ⟨b5,0,none⟩ (.int .i64 0)).setCell ⟨b5,1,none⟩ (.slice a3 S.length c3)) a3 S:=(hS.set k5 ne5).set (k5.set (b:=none) (k:=0) (l:=0)) ne5
 have hB2:Below w.heap.size w ((u6.setCell ⟨b5,0,none⟩ (.int .i64 0)).setCell ⟨b5,1,none⟩ (.slice a3 S.length c3)):=(hBw.setCell hb5 _).setCell hb5 _
 have r7:Bk2 ((u6.setCell ⟨b5,0,none⟩ (.int .i64 0)).setCell ⟨b5,1,none⟩ (.slice a3 S.length c3)) b7 nV none 0 0:=by obtain ⟨t,ht⟩:=k7;exact ⟨t,by rw [Below.heap_setCell _ _ _ _ (Ne.symm e3),Below.heap_setCell _ _ _ _ (Ne.symm e3)];exact ht⟩
 clear hS hBw k7 kX k5
 go_wp2_with fail
 clear t0 t1 fz ne5 k7c0 k7c1
 generalize ((u6.setCell ⟨b5,0,none⟩ (.int .i64 0)).setCell ⟨b5,1,none⟩ (.slice a3 S.length c3))=u7 at s0 s1 kXc0 kXc1 r7 hS2 hB2 ⊢
 have q7:=r7.lt
 refine (GO.out _ hB2).mono ?_
 rintro e u8 ⟨Q,a4,c4,rfl,hQ,h4,hm4,hf4,hfr4,bN,hQn⟩
 clear GO
 replace hQn:=hide' hQn
 have ne4:∀ ad,a4=some ad→Q≠[]→ad.block≠b7:=fun ad e h=>by have h2:=hfr4 ad e h;omega
 replace s0:=below_cell bN s0
 replace s1:=below_cell bN s1
 replace kXc0:=below_cell bN kXc0
 replace kXc1:=below_cell bN kXc1
 replace r7:=r7.later bN
 replace hS2:=hS2.later bN
 replace hB2:=hB2.trans (bN.mono hB2.size)
 clear bN hfr4 q7
 have t0:=r7.cell0
 have t1:=r7.cell1
 have fz:=fun o=>r7.row.frozen o
 have p0:((u8.setCell ⟨b7,0,none⟩ (.int .i64 0)).setCell ⟨b7,1,none⟩ (.slice a4 Q.length c4)).cell? ⟨b7,0,none⟩=some (.int .i64 0):=(World.cell?_setCell_other _ _ _ _ (fun e=>by simp at e)).trans (World.cell?_setCell_same _ _ _ t0)
 have p1:((u8.setCell ⟨b7,0,none⟩ (.int .i64 0)).setCell ⟨b7,1,none⟩ (.slice a4 Q.length c4)).cell? ⟨b7,1,none⟩=some (.slice a4 Q.length c4):=World.cell?_setCell_same _ _ _ ((World.cell?_setCell_other _ _ _ _ (fun e=>by simp at e)).trans t1)
 have v0:=far1 (q:=b7) (o:=1) (u:=.slice a4 Q.length c4) (far1 (q:=b7) (o:=0) (u:=.int .i64 0) s0 e3) e3
 have v1:=far1 (q:=b7) (o:=1) (u:=.slice a4 Q.length c4) (far1 (q:=b7) (o:=0) (u:=.int .i64 0) s1 e3) e3
 have hQ2:TNk ((u8.setCell ⟨b7,0,none⟩ (.int .i64 0)).setCell ⟨b7,1,none⟩ (.slice a4 Q.length c4)) a4 Q:=(hQ.set r7 ne4).set (r7.set (b:=none) (k:=0) (l:=0)) ne4
 have hS3:TNk ((u8.setCell ⟨b7,0,none⟩ (.int .i64 0)).setCell ⟨b7,1,none⟩ (.slice a4 Q.length c4)) a3 S:=(hS2.set r7 ne7).set (r7.set (b:=none) (k:=0) (l:=0)) ne7
 have hB3:Below w.heap.size w ((u8.setCell ⟨b7,0,none⟩ (.int .i64 0)).setCell ⟨b7,1,none⟩ (.slice a4 Q.length c4)):=(hB2.setCell hb7 _).setCell hb7 _
 clear hQ hS2 hB2 r7 kXc0 kXc1
 go_wp2_with fail
 refine (GU.out _ a3 c3 S a4 c4 Q hS3 hQ2 h3 h4 hm3 hf3 hSn.out hQn.out).mono ?_
 rintro e u9 ⟨rfl,bN⟩
 replace hB3:=hB3.trans (bN.mono hB3.size)
 clear bN GU hS3 hQ2 h3 h4 hm3 hf3 hSn hQn t0 t1 fz p0 p1 v0 v1 ne4 ne7 s0 s1 hf4 hm4
 go_wp2_with fail
 refine (GL.out _).mono ?_
 rintro e uA ⟨rfl,bN⟩
 replace hB3:=hB3.trans (bN.mono hB3.size)
 clear bN GL
 go_wp2
 first | exact ⟨rfl,hB3⟩ | (go_ret;exact ⟨rfl,hB3⟩)
theorem walk (V:Int) (a:Option Addr) (c:Nat) (R:List RowV) (n:Int) (w:World) (hV:wfI V) (hT:TIn w a R) (hw:∀ r∈R,wfo r.2.fo) (hc:R.length≤c) (hbu:bulT R≤1048576) (h1:-9223372036854775808≤n) (h2:n≤9223372036854775807) :
  Calls Tryz.prog 3 #[.agg #[.int .i64 V,.slice a R.length c],.int .i64 n] w fun e w'=>e=.returned (.bool true)∧Below w.heap.size w w':=by
 by_cases hmb:mayBe V (tb R)
 ·exact walk1 V a c R n w hT hw hc hbu hmb
 ·exact walk0 V a c R n w hT hw hc hbu hmb
set_option maxRecDepth 100000 in
theorem contract (H:Type) (enc:TypeId × Value→H) (W:World) (base:Nat) (args:Array Value) (ds gs:List (DataW H)) (before:List MemPlace)
  (hval:∀ (j:Nat) t v,Tryz.f3.params[j]?=some t→args[j]?=some v→Value.okWide Tryz.prog W .any base t v)
  (hW:DataW.Whole enc Tryz.prog Tryz.f3.params.toList Rows.tableauChecksSpec.vars false W args.toList ds gs before)
  (hsz:(DataW.weightsEach Tryz.prog (Tryz.f3.params.toList ++ Rows.tableauChecksSpec.plain.varTypes Tryz.prog) (ds ++ gs)).all (·≤reachBytes)=true) (hk:Rows.uptoSmall H (ds ++ gs)=true) :
  Calls Tryz.prog 3 args W fun e W'=>∃ v,e=.returned v∧Rows.tableauChecksSpec.post enc Tryz.prog Tryz.f3 false true false false W args v W':=by
 have hW':=hW
 obtain ⟨p,q,hA0,hV,rfl,hfz,hnd⟩:=hW
 have hA:DataW.TrodAll enc Tryz.prog W 0 (fun _=>true) true Tryz.f3.params.toList args.toList ds p:=hA0
 rw [Tryz.params3] at hA hval hsz
 obtain ⟨v0,vs0,d0,ds0,p0,q0,hargs,rfl,rfl,h0,r0⟩:=trodAll_cons hA
 obtain ⟨v1,vs1,d1,ds1,p1,q1,rfl,rfl,rfl,h1,r1⟩:=trodAll_cons r0
 obtain ⟨rfl,rfl,rfl⟩:=trodAll_nil r1
 obtain rfl:args=#[v0,v1]:=by cases args;simp_all
 obtain ⟨rfl,rfl⟩:=trodVars_none hV
 have lt0:∀ x∈p0,x.block < W.heap.size:=by obtain ⟨m,hm⟩:=h0;exact DataW.trod_lt m _ _ _ hm
 obtain ⟨tv0,ta0,tc0,tR0,rfl,hTv0,hT0,hTw0,hTc0,hTu0⟩:=open_Tab (hval 0 24 v0 rfl rfl) h0 (sized_at 0 hsz rfl rfl)
 obtain ⟨z1,rfl,rfl,rfl,w1⟩:=open_int Tryz.underlying3 (hval 1 3 v1 rfl rfl) h1
 have bz1:=bounds_i64 w1
 clear hA0
 have hbulk:=of_decide_eq_true hk
 simp only [List.append_nil,Rows.uptoBulkAll] at hbulk
 simp only [List.append_nil] at hW'
 refine (walk tv0 ta0 tc0 tR0 z1 W hTv0 hT0 hTw0 hTc0 (by omega) (by omega) (by omega)).mono fun e W' ⟨he,bel⟩=>?_
 subst he
 exact ⟨_,rfl,_,_,_,[],_,[],hW',trodAll_mk1 (shut_bool Tryz.underlying4 _),(trodAll_cons_mk (Below.trod laidOut (by kernel_rfl) (of_decide_eq_true (by kernel_rfl)) h0 bel lt0) (trodAll_cons_mk (shut_int Tryz.underlying3 w1) trodAll_mk0)),rfl,bel.frame _,fun h=>by cases h⟩
set_option maxRecDepth 100000 in
theorem lifted (os:Os) (started:os.Started) (H:Type) (enc:TypeId × Value→H) (F:Stop.Interp) :
  ReturnsInHanded {} Tryz.checked os 3 .any ((Rows.OpenSpec.upto Rows.tableauChecksSpec).pre6 enc Tryz.prog Tryz.f3 Rows.tableauChecksUptoRow.domain false) (((Rows.OpenSpec.upto Rows.tableauChecksSpec).at F).post enc Tryz.prog Tryz.f3 false true false false):=by
 refine returnsInHanded_of_cond_sized (C:=Tryz.checked) (s:=Rows.OpenSpec.upto Rows.tableauChecksSpec) (k:=Rows.uptoSmall) rfl own started (by kernel_rfl) Tryz.func3
  (OpenSpec.witness (enc:=enc) (C:=Tryz.checked) (s:=Rows.OpenSpec.upto Rows.tableauChecksSpec) (k:=Rows.uptoSmall) rfl false ⟨#[],#[.agg #[.int .i64 0,.slice none 0 0],.int .i64 0],[]⟩ 8 (by kernel_rfl) (by kernel_rfl) (by kernel_rfl)
   (x:=([.agg [.lit (.int .i64 0),.nil],.lit (.int .i64 0)],[],[])) (by kernel_rfl) rfl (by kernel_rfl)) ?_
 intro W base args ds gs before hval hW _ hk hsz _
 exact contract H enc W base args ds gs before hval hW hsz hk
theorem over:Rows.tableauChecksUptoRow.holds Tryz.pinned (Rows.OpenSpec.upto Rows.tableauChecksSpec) :=
 OpenClaim.holds_of_cond 3 Tryz.f3 rfl rfl rfl rfl rfl rfl rfl ⟨rfl,rfl,rfl,rfl,rfl⟩ rfl rfl rfl rfl rfl (by kernel_rfl) Tryz.func3 (by kernel_rfl)
  (of_decide_eq_true (by kernel_rfl)) (by unfold Func.isWrapper;first | (rw [if_pos (by decide +kernel)];kernel_rfl) | (rw [if_neg (by decide +kernel)];exact ⟨rfl,rfl⟩))
  (fun os started H enc _ F=>lifted os started H enc F)
end Go.Proofs.YtlklfkkbdcglbaaGreat.tableauChecks
namespace Go.Proofs.YtlklfkkbdcglbaaGreat
theorem tableauChecks_holds:Rows.TableauChecksUptoSaid:=tableauChecks.over
#print axioms tableauChecks_holds
end Go.Proofs.YtlklfkkbdcglbaaGreat
