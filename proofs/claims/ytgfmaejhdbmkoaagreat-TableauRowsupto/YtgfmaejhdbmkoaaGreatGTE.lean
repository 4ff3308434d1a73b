import Derived.Test.YtgfmaejhdbmkoaaGreatWL4
import Derived.Test.YtgfmaejhdbmkoaaGreatGT2
import Derived.Test.YtgfmaejhdbmkoaaGreatGTC
set_option linter.unusedSimpArgs false
namespace Go.Proofs.YtgfmaejhdbmkoaaGreat
open Go.RowKit
set_option linter.unusedVariables false
theorem info_u32M:(Tryz.prog.info? 89).map (fun i=>(i.zero,i.size,i.bytes))=some (some (.int .u32 0),1,4):=by kernel_rfl
def limbsM (X n:Nat):List Value:=(List.range n).map fun i=>.int .u32 (dg X i:Nat)
theorem limbsM_succ (X n:Nat):limbsM X (n+1)=limbsM X n ++ [.int .u32 (dg X n:Nat)]:=by
 unfold limbsM
 rw [List.range_succ,List.map_append]
 rfl
theorem limbsM_at {X n i:Nat} (h:i < n):(limbsM X n)[i]?=some (.int .u32 (dg X i:Nat)):=by
 unfold limbsM
 rw [List.getElem?_map,List.getElem?_range h]
 rfl
theorem own_copy {w w':World} {v:Value} {X n:Nat} (hX:X < BB ^ n) (h:w'.ownsRow w.heap.size 89 1 v n (limbsM X n)) (hB:Below w.heap.size w w'):∃ p c,v=.slice p n c∧n≤c∧New w w' p X n:=by
 rcases h.2 with ⟨rfl,rfl⟩ | ⟨g,cap,cur,rfl,hb,hg,hc,hm,_,_⟩
 ·exact ⟨none,0,rfl,Nat.le_refl _,⟨hX,fun h=>absurd h (by omega)⟩,hB,fun h=>absurd h (by omega)⟩
 ·have hgl:=(Array.getElem?_eq_some_iff.1 hg).1
  refine ⟨_,cap,rfl,hc,⟨hX,fun hn=>⟨g,0,rfl,hgl,fun i hi=>?_⟩⟩,hB,fun _=>⟨g,0,rfl,hb,cur,_,hg⟩⟩
  have h:=h.cellAt i (by omega)
  rw [limbsM_at hi] at h
  rw [Nat.zero_add]
  exact h
set_option maxHeartbeats 2000000 in
set_option maxRecDepth 100000 in
theorem memNat_is (a:Option Addr) (n c X:Nat) (w:World) (hn:n≤35184372087808) (hS:Seg w a X n) :
  Calls Tryz.prog 55 #[.slice a n c] w fun e w'=>∃ p c',e=.returned (.slice p n c')∧n≤c'∧New w w' p X n:=by
 obtain ⟨i0,hi0,hz0,hz1,hz2⟩:=info_parts info_u32M
 go_enter Tryz.func55,Tryz.ntmps55
 go_wp2_with fail
 go_loopw [3,4] (fun vo vi wr=>∃ k:Nat,k≤n∧vi=.int .i64 k∧wr.ownsRow w.heap.size 89 1 vo k (limbsM X k)∧Below w.heap.size w wr) (fun _ vi _=>n - (intOf vi).toNat)
 case atStart=>exact ⟨0,Nat.zero_le _,rfl,World.ownsRow_nil _ _ _ _,Below.refl _ _⟩
 case round =>
  obtain ⟨k,hk,rfl,hO,hB⟩:=hrel
  by_cases hlt:k < n
  ·have hSr:=hS.later hB
   obtain ⟨bb,off,rfl,hb,hcell⟩:=hSr.2 (by omega)
   have c0:=hcell k hlt
   have i1:(0:Int)≤(k:Int):=by omega
   have i2:(k:Int) < (n:Int):=by omega
   obtain ⟨x,hx⟩:∃ x:Int,((dg X k:Nat):Int)=x:=⟨_,rfl⟩
   rw [hx] at c0
   obtain ⟨zs,hzs⟩:∃ zs,limbsM X k=zs:=⟨_,rfl⟩
   rw [hzs] at hO
   obtain ⟨wB,hwB⟩:∃ wB,wr.alloc (.cells #[.int .u32 x] 89)=wB:=⟨_,rfl⟩
   have hnew:=heap_alloc_new wr (.cells #[.int .u32 x] 89)
   have b3:=xQ2 (w:=wr) (.cells #[.int .u32 x] 89)
   rw [hwB] at hnew b3
   have hO3:=xQ6 hO b3
   have s3:=b3.size
   have s4:=hB.size
   have hbB:w.heap.size≤wB.heap.size:=by omega
   have hbl:(k+1)*4≤140737488355328:=by omega
   have hrow:=fun k hk=>(hO.lt k hk)
   clear hcell
   go_wp2_with (at_builtin;(try rw [hwB]);refine wpList_append_lies _ (by rfl) _ _ _ (by rfl) w.heap.size 89 i0 _ 1 4 xZ6 hi0 hz0 hz1 hz2 rfl (by omega) u3 k zs (by rfl) hO3 ⟨wr.heap.size,0,none⟩ 1 1 [.int .u32 x] (by rfl) (by rfl) (World.news_of_block (cs:=#[.int .u32 x]) (t:=89) (fr:=(0,0)) hnew) (by simp [Value.oneCell']) (by omega) (by simp only [maxLen];omega) hbl hbB wB.heap.size rfl ?_)
   intro gb cap w9 hown4 hgrow hat hlt4
   have hB3:=hB.trans (b3.mono hB.size)
   have b9:=xQ8 hB3.size (fun k hk=>(hrow k hk).1) hgrow
   have I1:w9.ownsRow w.heap.size 89 1 (.slice (some ⟨gb,0,none⟩) (k+1) cap) (k+1) (limbsM X (k+1))∧Below w.heap.size w w9:=⟨by rw [limbsM_succ,hzs,hx];exact hown4,hB3.trans b9⟩
   replace I1:=xQ1 I1
   clear hown4 hgrow hat hnew b3 hO3 hB3 b9 hrow s3 hbB hbl hO hB hzs hx
   go_wp2
   go_roundw
   case rel=>exact ⟨k+1,by omega,by go_num,I1.out⟩
   case measure=>simp [intOf];omega
  ·obtain rfl:k=n:=by omega
   have i1:¬ (k:Int) < (k:Int):=by omega
   obtain ⟨p,c1,rfl,hc1,hC⟩:=own_copy hS.1 hO hB
   go_wp2
   go_ret
   exact ⟨p,c1,rfl,hc1,hC⟩
set_option maxHeartbeats 1000000 in
theorem memInt_is (s:Bool) (ao:Option Addr) (n cap X:Nat) (w:World) (hm:n≤35184372087808) (hS:Seg w ao X n) :
  Calls Tryz.prog 54 #[.agg #[.bool s,.slice ao n cap]] w fun e w'=>∃ ao' c',e=.returned (.agg #[.bool s,.slice ao' n c'])∧n≤c'∧New w w' ao' X n:=by
 go_enter Tryz.func54,Tryz.ntmps54
 go_wp2_with fail
 obtain ⟨W,hW⟩:∃ W,((w.alloc (.cells #[.bool s,.slice ao n cap] 53)).alloc (.cells #[.bool false,.slice none 0 0] 53))=W:=⟨_,rfl⟩
 have q00:W.cell? ⟨w.heap.size,0,none⟩=some (.bool s):=by subst hW;go_simp
 have q01:W.cell? ⟨w.heap.size,1,none⟩=some (.slice ao n cap):=by subst hW;go_simp
 have r00:W.cell? ⟨w.heap.size+1,0,none⟩=some (.bool false):=by subst hW;go_simp
 have r01:W.cell? ⟨w.heap.size+1,1,none⟩=some (.slice none 0 0):=by subst hW;go_simp
 have hB:Below w.heap.size w W:=by subst hW;exact (((Below.refl _ _).alloc (by (try simp only [World.size_alloc]);omega) _).alloc (by (try simp only [World.size_alloc]);omega) _)
 have hR0:Row W (w.heap.size+1):=by
  have:=xQ9 ((w.alloc (.cells #[.bool s,.slice ao n cap] 53))) #[.bool false,.slice none 0 0] 53
  try simp only [World.size_alloc] at this
  subst hW;exact this
 have hz:W.heap.size=w.heap.size+1+1:=by subst hW;simp only [World.size_alloc]
 rw [hW]
 clear hW
 have hBW:Below W.heap.size W W:=Below.refl _ _
 replace hBW:=hBW.drew
 first
  | go_region_held3 (fun w'=>w'.cell? ⟨w.heap.size,0,none⟩=some (.bool s)∧w'.cell? ⟨w.heap.size,1,none⟩=some (.slice ao n cap)∧Below w.heap.size w w')
    (first | exact ⟨q00,q01,hB.trans (hBW.mono hB.size)⟩ | exact kp2 b1 (by assumption) | exact kp2 (xQ2 _) (by assumption) | exact kp2 (xQ2 _) ⟨q00,q01,hB.trans (hBW.mono hB.size)⟩ | exact kpT2_2 (by assumption) (by omega) (by omega) (by omega))
    (first
     | (go_at_call 55;(fail_if_success clear b1);refine (memNat_is ao n cap X _ hm (sb hS hB hBW)).mono ?_;rintro e w1 ⟨a1,c1,rfl,g1,hn1⟩;have b1:=hn1.below;replace hn1:=hn1.back hBW;replace hBW:=hBW.trans (b1.mono hBW.size);replace q00:=xQ0 b1 q00;replace q01:=xQ0 b1 q01;replace r00:=xQ0 b1 r00;replace r01:=xQ0 b1 r01;replace hR0:=xQ3 b1 hR0;have fz:=fun o=>hR0.frozen o))
  | fail
 have fz0:=fun o=>hR0.frozen o
 go_wp2
 all_goals refine bodyPost_ret (v:=.agg #[.bool s,.slice a1 n c1]) (by rw [xQ5 rfl];go_simp) rfl ?_
 all_goals exact ⟨a1,c1,rfl,g1,hn1.mid hB ((((Mid.refl _ _ _).set _ _ (by omega) (by omega) _).set _ _ (by omega) (by omega) _))⟩
set_option maxHeartbeats 2000000 in
theorem memRat_is (s0:Bool) (a0:Option Addr) (n0 c0 X0:Nat) (b0:Option Addr) (m0 d0 Y0:Nat) (w:World) (hc0:n0≤c0) (hm0:n0≤35184372087808) (hS0:Seg w a0 X0 n0) (hd0:m0≤d0) (hk0:m0≤35184372087808) (hT0:Seg w b0 Y0 m0) :
  Calls Tryz.prog 35 #[Value.agg #[Value.bool s0,Value.slice a0 n0 c0,Value.slice b0 m0 d0]] w fun e w'=>∃ p c q d,e=.returned (.agg #[.bool s0,.slice p n0 c,.slice q m0 d])∧n0≤c∧m0≤d∧New w w' p X0 n0∧New w w' q Y0 m0:=by
 go_enter Tryz.func35,Tryz.ntmps35
 go_wp2_with fail
 obtain ⟨W,hW⟩:∃ W,((w.alloc (.cells #[.bool s0,.slice a0 n0 c0,.slice b0 m0 d0] 55)).alloc (.cells #[.bool false,.slice none 0 0,.slice none 0 0] 55))=W:=⟨_,rfl⟩
 have q00:W.cell? ⟨w.heap.size,0,none⟩=some (.bool s0):=by subst hW;go_simp
 have q01:W.cell? ⟨w.heap.size,1,none⟩=some (.slice a0 n0 c0):=by subst hW;go_simp
 have q02:W.cell? ⟨w.heap.size,2,none⟩=some (.slice b0 m0 d0):=by subst hW;go_simp
 have r00:W.cell? ⟨w.heap.size+1,0,none⟩=some (.bool false):=by subst hW;go_simp
 have r01:W.cell? ⟨w.heap.size+1,1,none⟩=some (.slice none 0 0):=by subst hW;go_simp
 have r02:W.cell? ⟨w.heap.size+1,2,none⟩=some (.slice none 0 0):=by subst hW;go_simp
 have hB:Below w.heap.size w W:=by subst hW;exact (((Below.refl _ _).alloc (by (try simp only [World.size_alloc]);omega) _).alloc (by (try simp only [World.size_alloc]);omega) _)
 have hR0:Row W (w.heap.size+1):=by
  have:=xQ9 ((w.alloc (.cells #[.bool s0,.slice a0 n0 c0,.slice b0 m0 d0] 55))) #[.bool false,.slice none 0 0,.slice none 0 0] 55
  try simp only [World.size_alloc] at this
  subst hW;exact this
 have hz:W.heap.size=w.heap.size+1+1:=by subst hW;simp only [World.size_alloc]
 rw [hW]
 clear hW
 have hBW:Below W.heap.size W W:=Below.refl _ _
 replace hBW:=hBW.drew
 first
  | go_region_held3 (fun w'=>w'.cell? ⟨w.heap.size,0,none⟩=some (.bool s0)∧w'.cell? ⟨w.heap.size,1,none⟩=some (.slice a0 n0 c0)∧w'.cell? ⟨w.heap.size,2,none⟩=some (.slice b0 m0 d0)∧Below w.heap.size w w')
    (first | exact ⟨q00,q01,q02,hB.trans (hBW.mono hB.size)⟩ | exact kp3 b41 (by assumption) | exact kp3 b42 (by assumption) | exact kp3 (xQ2 _) (by assumption) | exact kp3 (xQ2 _) ⟨q00,q01,q02,hB.trans (hBW.mono hB.size)⟩ | exact kpT3_3 (by assumption) (by omega) (by omega) (by omega) (by omega))
    (first
     | (go_at_call 54;(fail_if_success clear b41);refine (memInt_is s0 a0 n0 c0 X0 _ hm0 (sb hS0 hB hBW)).mono ?_;rintro e w41 ⟨a41,c41,rfl,g41,hn41⟩;have b41:=hn41.below;replace hn41:=hn41.back hBW;replace hBW:=hBW.trans (b41.mono hBW.size);replace q00:=xQ0 b41 q00;replace q01:=xQ0 b41 q01;replace q02:=xQ0 b41 q02;replace r00:=xQ0 b41 r00;replace r01:=xQ0 b41 r01;replace r02:=xQ0 b41 r02;replace hR0:=xQ3 b41 hR0)
     | (go_at_call 55;(fail_if_success clear b42);refine (memNat_is b0 m0 d0 Y0 _ hk0 (sb hT0 hB hBW)).mono ?_;rintro e w42 ⟨a42,c42,rfl,g42,hn42⟩;have b42:=hn42.below;replace hn42:=hn42.back hBW;replace hBW:=hBW.trans (b42.mono hBW.size);replace q00:=xQ0 b42 q00;replace q01:=xQ0 b42 q01;replace q02:=xQ0 b42 q02;replace r00:=xQ0 b42 r00;replace r01:=xQ0 b42 r01;replace r02:=xQ0 b42 r02;replace hR0:=xQ3 b42 hR0;replace hn41:=hn41.later b42;have fz:=fun o=>hR0.frozen o))
  | fail
 have fz0:=fun o=>hR0.frozen o
 go_wp2
 all_goals refine bodyPost_ret (v:=.agg #[.bool s0,.slice a41 n0 c41,.slice a42 m0 c42]) (by rw [xQ5 rfl];go_simp) rfl ?_
 all_goals exact ⟨a41,c41,a42,c42,rfl,g41,g42,hn41.mid hB (((((Mid.refl _ _ _).set _ _ (by omega) (by omega) _).set _ _ (by omega) (by omega) _).set _ _ (by omega) (by omega) _)),hn42.mid hB (((((Mid.refl _ _ _).set _ _ (by omega) (by omega) _).set _ _ (by omega) (by omega) _).set _ _ (by omega) (by omega) _))⟩
def sigM (p:Mo):Int × Rat × Nat × Nat:=(p.1,p.2.val,p.2.n,p.2.m)
theorem sig_fo {L M:List Mo} (h:L.map sigM=M.map sigM):fo L=fo M:=by
 have h1:=congrArg (List.map fun s:Int × Rat × Nat × Nat=>(s.1,s.2.1)) h
 simp only [List.map_map] at h1
 exact h1
theorem sig_bul:∀ {L M:List Mo},L.map sigM=M.map sigM→bul L=bul M
 | [],[],_=>rfl
 | [],q :: M,h=>by simp at h
 | p :: L,[],h=>by simp at h
 | p :: L,q :: M,h=>by
  simp only [List.map_cons,List.cons.injEq] at h
  have h1:=sig_bul h.2
  have h2:=h.1
  simp only [sigM,Prod.mk.injEq] at h2
  simp only [bul,h1,h2.2.2.1,h2.2.2.2]
def CpF (w:World) (L:List Mo) (k:Nat) (vo:Value) (wr:World):Prop :=
 ∃ R:List Mo,R.length=k∧wr.ownsRow w.heap.size 57 4 vo R.length (xZ0 R)∧Below w.heap.size w wr∧(∀ p∈R,p.2.ok wr∧p.2.frm w.heap.size∧∀ b,vo.ownBlock=some b→p.2.off b)∧R.map sigM=(L.take k).map sigM
theorem CpF.nil (w:World) (L:List Mo):CpF w L 0 (.slice none 0 0) w:=⟨[],rfl,World.ownsRow_nil _ _ _ _,Below.refl _ _,fun p hp=>absurd hp (by simp),rfl⟩
theorem CpF.push {w:World} {L:List Mo} {k:Nat} {vo:Value} {wB w1:World} {R:List Mo} (hk:R.length=k) (hB:Below w.heap.size w wB)
  (hR:∀ p∈R,p.2.ok wB∧p.2.frm w.heap.size∧∀ b,vo.ownBlock=some b→p.2.off b) (hs:R.map sigM=(L.take k).map sigM) (hrow:∀ b,vo.ownBlock=some b→w.heap.size≤b)
  {p:Mo} (hp:L[k]?=some p) (r:RatV) (hr:r.ok wB) (hf:r.frm w.heap.size) (hro:∀ b,vo.ownBlock=some b→r.off b) (hrn:r.n=p.2.n∧r.m=p.2.m∧r.val=p.2.val) {gb cap:Nat}
  (hown:w1.ownsRow w.heap.size 57 4 (.slice (some ⟨gb,0,none⟩) (R.length+1) cap) (R.length+1) (xZ0 R ++ cells4 (p.1,r))) (hg:wB.grownBy w1 vo.ownBlock) (hat:vo.ownBlock=some gb∨gb=wB.heap.size) :
  CpF w L (k+1) (.slice (some ⟨gb,0,none⟩) (R.length+1) cap) w1:=by
 have hoff:∀ x:RatV,x.ok wB→(∀ b,vo.ownBlock=some b→x.off b)→∀ b,(Value.slice (some ⟨gb,0,none⟩) (R.length+1) cap).ownBlock=some b→x.off b:=by
  intro x hx ho b hb
  have:gb=b:=by simpa [Value.ownBlock] using hb
  subst this
  rcases hat with h | h
  ·exact ho _ h
  ·exact hx.off (by omega)
 refine ⟨R ++ [(p.1,r)],by simp [hk],own_push hown,hB.trans (xQ8 hB.size hrow hg),fun q hq=>?_,?_⟩
 ·rcases List.mem_append.1 hq with hq | hq
  ·obtain ⟨h1,h2,h3⟩:=hR q hq
   exact ⟨h1.grown hg h3,h2,hoff _ h1 h3⟩
  ·obtain rfl:=List.mem_singleton.1 hq
   exact ⟨hr.grown hg hro,hf,hoff _ hr hro⟩
 ·rw [take_snoc hp,List.map_append,List.map_append,hs]
  simp only [List.map_cons,List.map_nil,sigM,hrn.1,hrn.2.1,hrn.2.2]
theorem CpF.done {w:World} {L:List Mo} {vo:Value} {wr:World} (h:CpF w L L.length vo wr):∃ F:FV,vo=F.val∧F.ok wr∧F.frm w.heap.size∧F.L.map sigM=L.map sigM∧(F.a=none→F.c=0)∧Below w.heap.size w wr:=by
 obtain ⟨R,hk,hO,hB,hR,hs⟩:=h
 rw [List.take_length] at hs
 obtain ⟨a,c,e,hS⟩:=Sl.of hO
 refine ⟨⟨a,c,R⟩,e,⟨hS.lies,fun p hp=>(hR p hp).1,hS.len⟩,⟨fun hn ad ea=>?_,fun p hp=>(hR p hp).2.1⟩,hs,hS.nn,hB⟩
 have ea:a=some ad:=ea
 subst ea
 have e2:vo.ownBlock=some ad.block:=by rw [e];rfl
 exact (hO.lt _ e2).1
def FCp (w:World) (F:FV) (e:Ending) (w':World):Prop :=
 ∃ G:FV,e=.returned G.val∧G.ok w'∧G.frm w.heap.size∧G.L.map sigM=F.L.map sigM∧(G.a=none→G.c=0)∧Below w.heap.size w w'
set_option maxHeartbeats 8000000 in
set_option maxRecDepth 100000 in
theorem memForm_is (X:FV) (w:World) (hX:X.ok w) (hm:X.L.length≤1048576) :
  Calls Tryz.prog 18 #[X.val] w (FCp w X):=by
 obtain ⟨a,c,L⟩:=X
 obtain ⟨hF,hok,hc⟩:=hX
 simp only at hF hok hc hm
 unfold FV.val
 simp only
 obtain ⟨i0,hi0,hz0,hz1,hz2⟩:=info_parts info_Mono
 obtain ⟨TT,hTT⟩:∃ TT,FCp w ⟨a,c,L⟩=TT:=⟨_,rfl⟩
 rw [hTT]
 replace hTT:=xQ1 hTT
 go_enter Tryz.func18,Tryz.ntmps18
 go_wp2_with fail
 go_loopw [3,4] (fun vo vi wr=>∃ k:Nat,k≤L.length∧vi=.int .i64 k∧CpF w L k vo wr) (fun _ vi _=>L.length - (intOf vi).toNat)
 case atStart=>exact ⟨0,Nat.zero_le _,rfl,CpF.nil _ _⟩
 case round =>
  obtain ⟨k,hk,rfl,hI⟩:=hrel
  by_cases hlt:k < L.length
  ·obtain ⟨p,hp⟩:∃ p,L[k]?=some p:=⟨L[k],List.getElem?_eq_getElem hlt⟩
   obtain ⟨bb,off,rfl,hbb,hcell⟩:=hF (by intro e;rw [e] at hlt;simp at hlt)
   obtain ⟨R,hRk,hO,hB,hR,hs⟩:=hI
   obtain ⟨d0,d1,d2,d3⟩:=hcell k p hp
   have h1:=hok p (List.mem_of_getElem? hp)
   replace d0:=xQ0 hB d0
   replace d1:=xQ0 hB d1
   replace d2:=xQ0 hB d2
   replace d3:=xQ0 hB d3
   have GR:=xQ1 (fun w' (hb:Below w.heap.size w w')=>memRat_is p.2.s p.2.a p.2.n p.2.c p.2.X p.2.b p.2.m p.2.e p.2.Y w' h1.2.1 (by have:=h1.2.2.1;omega) (h1.later hb).1 h1.2.2.2.2.1 (by have:=h1.2.2.2.2.2;omega) (h1.later hb).2.2.2.1)
   have PU:=xQ1 (fun (w2 w9:World) (hb:Below wr.heap.size wr w2) r=>@CpF.push w L k u3 w2 w9 R hRk (hB.trans (hb.mono hB.size)) (fun q hq=>⟨(hR q hq).1.later hb,(hR q hq).2⟩) hs (fun b hb=>(hO.lt b hb).1) p hp r)
   have HR:=xQ1 hRk
   have HP:=xQ1 (show p.2.n≤35184372087808∧p.2.m≤35184372087808 from ⟨h1.2.2.1,h1.2.2.2.2.2⟩)
   have hrow:=fun k hk=>(hO.lt k hk)
   have j0:(0:Int)≤(k:Int):=by omega
   have j1:(k:Int) < (L.length:Int):=by omega
   obtain ⟨x,q⟩:=p
   simp only at d0 d1 d2 d3 GR PU HP
   clear hcell hF hok h1 hp hR hs hRk
   go_wp2_with fail
   have bT:Below wr.heap.size wr wr:=Below.refl _ _
   have bD:Below wr.heap.size wr wr.drew:=(Below.refl _ _).drew
   have kd0:=xQ0 bD d0
   have kd1:=xQ0 bD d1
   have kd2:=xQ0 bD d2
   have kd3:=xQ0 bD d3
   replace bT:=bT.trans (bD.mono bT.size)
   refine wp_region_held_drew (S:=fun w'=>w'.cell? ⟨bb,off+k*4,none⟩=some (.int .i64 x)∧w'.cell? ⟨bb,off+k*4+1,none⟩=some (.bool q.s)∧w'.cell? ⟨bb,off+k*4+1+1,none⟩=some (.slice q.a q.n q.c)∧w'.cell? ⟨bb,off+k*4+1+2,none⟩=some (.slice q.b q.m q.e)) (by kernel_rfl) ⟨kd0,kd1,kd2,kd3⟩ (fun hHeld=>?_)
   clear kd0 kd1 kd2 kd3
   generalize wr.drew=w1 at bD bT hHeld ⊢
   clear bD d0 d1 d2 d3
   refine tk 0 (v:=?_) rfl (Or.inl ⟨by rfl,?_⟩) ?_
   rotate_left
   ·intro w9 hSw
    go_simp
    try with_reducible rfl
   simp only [pA]
   refine tk 1 (v:=?_) rfl (Or.inl ⟨by rfl,?_⟩) ?_
   rotate_left
   ·intro w9 hSw
    go_simp
    try with_reducible rfl
   simp only [pA]
   refine tk 2 (v:=?_) rfl (Or.inl ⟨by rfl,?_⟩) ?_
   rotate_left
   ·intro w9 hSw
    go_simp
    try with_reducible rfl
   simp only [pA]
   refine tk 3 (v:=?_) rfl (Or.inl ⟨by rfl,?_⟩) ?_
   rotate_left
   ·intro w9 hSw
    go_simp
    try with_reducible rfl
   simp only [pA]
   refine tk 4 (v:=?_) rfl (Or.inl ⟨by rfl,?_⟩) ?_
   rotate_left
   ·intro w9 hSw
    go_simp
    try with_reducible rfl
   simp only [pA]
   refine tk 5 (v:=?_) rfl (Or.inl ⟨by rfl,?_⟩) ?_
   rotate_left
   ·intro w9 hSw
    go_simp
    try with_reducible rfl
   simp only [pA]
   refine tk 6 (v:=?_) rfl (Or.inl ⟨by rfl,?_⟩) ?_
   rotate_left
   ·intro w9 hSw
    go_simp
    try with_reducible rfl
   simp only [pA]
   refine tk 7 (v:=?_) rfl (Or.inl ⟨by rfl,?_⟩) ?_
   rotate_left
   ·intro w9 hSw
    go_simp
    try with_reducible rfl
   simp only [pA]
   refine tk 8 (v:=?_) rfl (Or.inl ⟨by rfl,?_⟩) ?_
   rotate_left
   ·intro w9 hSw
    go_simp
    try with_reducible rfl
   simp only [pA]
   refine tk 9 (v:=?_) rfl (Or.inl ⟨by rfl,?_⟩) ?_
   rotate_left
   ·intro w9 hSw
    go_simp
    try with_reducible rfl
   simp only [pA]
   refine tk 10 (v:=?_) rfl (Or.inl ⟨by rfl,?_⟩) ?_
   rotate_left
   ·intro w9 hSw
    go_simp
    try with_reducible rfl
   simp only [pA]
   have sw1:=bT.size
   refine wpAnyH_ready (rs:=[11]) (by kernel_rfl) (by simp) ?_
   refine xX0 rfl (fun KK hKK=>?_)
   go_simp
   refine (GR.out _ (hB.trans (bT.mono hB.size))).mono ?_
   rintro e w2 ⟨p1,c1,q1,c2,rfl,u1,u2,n1,n2⟩
   have bC:=n1.below
   replace bT:=bT.trans (bC.mono bT.size)
   replace hHeld:=(⟨xQ0 bC hHeld.1,xQ0 bC hHeld.2.1,xQ0 bC hHeld.2.2.1,xQ0 bC hHeld.2.2.2⟩:_∧_∧_∧_)
   clear bC
   go_wp2_with fail
   have g1:=n1.seg
   have g2:=n2.seg
   have f1:=n1.fr
   have f2:=n2.fr
   clear n1 n2
   refine hKK.out _ _ hHeld ?_
   clear hHeld
   intro hHeld
   clear hKK KK
   try simp only [pA]
   refine tk 12 (v:=?_) rfl (Or.inl ⟨by rfl,?_⟩) ?_
   rotate_left
   ·intro w9 hSw
    go_simp
    try with_reducible rfl
   simp only [pA]
   refine wpAnyH_ready (rs:=[13]) (by kernel_rfl) (by simp) ?_
   refine xX0 rfl (fun KK hKK=>?_)
   go_simp
   have hnew:=heap_alloc_new w2 (.cells #[.int .i64 x,.bool q.s,.slice p1 q.n c1,.slice q1 q.m c2] 57)
   have b3:=xQ2 (w:=w2) (.cells #[.int .i64 x,.bool q.s,.slice p1 q.n c1,.slice q1 q.m c2] 57)
   generalize w2.alloc (.cells #[.int .i64 x,.bool q.s,.slice p1 q.n c1,.slice q1 q.m c2] 57)=w3 at hnew b3 ⊢
   replace bT:=bT.trans (b3.mono bT.size)
   replace g1:=g1.later b3
   replace g2:=g2.later b3
   replace hHeld:=(⟨xQ0 b3 hHeld.1,xQ0 b3 hHeld.2.1,xQ0 b3 hHeld.2.2.1,xQ0 b3 hHeld.2.2.2⟩:_∧_∧_∧_)
   refine hKK.out _ _ hHeld ?_
   clear hHeld
   intro hHeld
   clear hKK KK
   try simp only [pA]
   have hO3:=xQ6 hO bT
   have s3:=bT.size
   have sB:=hB.size
   have hRl:R.length≤1048576:=by have:=HR.out;omega
   refine wpAnyH_ready (rs:=[14]) (by kernel_rfl) (by simp) ?_
   refine xX0 rfl (fun KK hKK=>?_)
   refine step_append_lies _ (by rfl) _ _ _ (by rfl) w.heap.size 57 i0 _ 4 64 Tryz.underlying26 hi0 hz0 hz1 hz2 rfl (by omega) u3 R.length (xZ0 R) (by rfl) hO3 ⟨w2.heap.size,0,none⟩ 1 1 [.int .i64 x,.bool q.s,.slice p1 q.n c1,.slice q1 q.m c2] (by rfl) (by rfl) (World.news_of_block (cs:=#[.int .i64 x,.bool q.s,.slice p1 q.n c1,.slice q1 q.m c2]) (t:=57) (fr:=(0,0)) hnew) (by simp [Value.oneCell']) (by omega) (by simp only [maxLen];omega) (by omega) (by omega) w3.heap.size rfl ?_
   intro gb cap w4 hown4 hgrow hat hlt4
   have far:∀ {c o:Nat} {u:Value},c < w.heap.size→w3.cell? ⟨c,o,none⟩=some u→w4.cell? ⟨c,o,none⟩=some u:=fun hc hu=>hgrow.cell hu (fun e=>by have:=hrow _ e.symm;simp only at this;omega)
   have I1:=xQ1 (PU.out w3 w4 bT ⟨q.s,p1,q.n,c1,q.X,q1,q.m,c2,q.Y⟩ ⟨g1,u1,Nat.le_trans HP.out.1 (by omega),g2,u2,Nat.le_trans HP.out.2 (by omega)⟩ ⟨fun hn ad e=>Nat.le_trans (by omega) (f1 hn ad e),fun hn ad e=>Nat.le_trans (by omega) (f2 hn ad e)⟩ (fun b hb=>⟨fun hn ad e=>by have h1:=f1 hn ad e;have h2:=(hrow b hb).2;omega,fun hn ad e=>by have h1:=f2 hn ad e;have h2:=(hrow b hb).2;omega⟩) ⟨rfl,rfl,rfl⟩ hown4 hgrow hat)
   refine hKK.out _ _ ⟨far hbb hHeld.1,far hbb hHeld.2.1,far hbb hHeld.2.2.1,far hbb hHeld.2.2.2⟩ ?_
   clear hHeld far hO3 hnew b3 g1 g2 f1 f2 hgrow hown4 hat hlt4 PU
   intro hHeld
   clear hKK KK
   try simp only [pA]
   refine tk 15 (v:=?_) rfl (Or.inl ⟨by rfl,?_⟩) ?_
   rotate_left
   ·intro w9 hSw
    go_simp
    try with_reducible rfl
   simp only [pA]
   refine wpAnyH_done (by kernel_rfl) ?_ _
   go_wp2
   go_roundw
   case rel=>exact ⟨k+1,by omega,by go_num,I1.out⟩
   case measure=>simp [intOf];omega
  ·obtain rfl:k=L.length:=by omega
   have i1:¬ (L.length:Int) < (L.length:Int):=by omega
   obtain ⟨G,rfl,hG,hfr,hsg,hnn,hB⟩:=hI.done
   have HG:=xQ1 (show FCp w ⟨a,c,L⟩ (.returned G.val) wr from ⟨G,rfl,hG,hfr,hsg,hnn,hB⟩)
   rw [hTT.out] at HG
   clear hI hG hfr hsg hnn hB hF hok
   go_wp2
   first | exact HG.out | (go_ret;exact HG.out)
def sgR (r:RowV):Int × List (Int × Rat × Nat × Nat):=(r.1,r.2.L.map sigM)
theorem sgR_tb {S R:List RowV} (h:S.map sgR=R.map sgR):tb S=tb R:=by
 have h1:=congrArg (List.map fun s:Int × List (Int × Rat × Nat × Nat)=>(s.1,s.2.map fun t=>(t.1,t.2.1))) h
 simp only [List.map_map] at h1
 have e:∀ r:RowV,((fun s:Int × List (Int × Rat × Nat × Nat)=>(s.1,s.2.map fun t=>(t.1,t.2.1))) ∘ sgR) r=(r.1,r.2.fo):=fun r=>by
  show (r.1,(r.2.L.map sigM).map fun t=>(t.1,t.2.1))=_
  rw [List.map_map]
  rfl
 rw [show ((fun s:Int × List (Int × Rat × Nat × Nat)=>(s.1,s.2.map fun t=>(t.1,t.2.1))) ∘ sgR)=fun r:RowV=>(r.1,r.2.fo) from funext e] at h1
 exact h1
theorem sgR_bul:∀ {S R:List RowV},S.map sgR=R.map sgR→bulT S=bulT R
 | [],[],_=>rfl
 | [],q :: M,h=>by simp at h
 | p :: L,[],h=>by simp at h
 | p :: L,q :: M,h=>by
  simp only [List.map_cons,List.cons.injEq] at h
  have h1:=sgR_bul h.2
  have h2:=h.1
  simp only [sgR,Prod.mk.injEq] at h2
  simp only [bulT,h1,sig_bul h2.2]
theorem sgR_length {S R:List RowV} (h:S.map sgR=R.map sgR):S.length=R.length:=by simpa using congrArg List.length h
theorem sgR_mem {S R:List RowV} (h:S.map sgR=R.map sgR) {s:RowV} (hs:s∈S):∃ r∈R,s.1=r.1∧s.2.fo=r.2.fo:=by
 have h1:sgR s∈R.map sgR:=by rw [←h];exact List.mem_map.2 ⟨s,hs,rfl⟩
 obtain ⟨r,hr,e⟩:=List.mem_map.1 h1
 simp only [sgR,Prod.mk.injEq] at e
 exact ⟨r,hr,e.1.symm,sig_fo e.2.symm⟩
def TwA (w:World) (V:Int) (R:List RowV) (e:Ending) (w':World):Prop :=
 ∃ (S:List RowV) (a:Option Addr) (c:Nat),e=.returned (.agg #[.int .i64 V,.slice a S.length c])∧Below w.heap.size w w'∧TIn w' a S∧S.length≤c∧S.map sgR=R.map sgR
theorem FV.ok.setq {w:World} {F:FV} {q o:Nat} {u:Value} (h:F.ok w) (hf:F.off q):F.ok (w.setCell ⟨q,o,none⟩ u) :=
 h.grown (row:=some q) ⟨rfl,rfl,rfl,by simp [World.setCell],fun i hi hne=>Below.heap_setCell _ _ _ _ (fun e=>hne (by rw [e]))⟩ fun g e=>by injection e with e;subst e;exact hf
structure TwM (w w2:World) (q:Nat) (V:Int) (R:List RowV) (k:Nat) (S:List RowV) (vo:Value) (wr:World):Prop where
 tol:ToI w w2 q V S S.length vo wr
 nk:∀ r∈S,r.2.ok wr∧r.2.frm w2.heap.size∧∀ b,vo.ownBlock=some b→r.2.off b
 sg:S.map sgR=(R.take k).map sgR
theorem TwM.push {w w2:World} {q:Nat} {V:Int} {R S:List RowV} {k:Nat} {vo:Value} {wr wB w9:World} (h:TwM w w2 q V R k S vo wr) (hq:w.heap.size≤q∧q < w2.heap.size) (hw:w.heap.size≤w2.heap.size) (hb:Below wr.heap.size wr wB)
  {v:Int} {X F:FV} (hm:R[k]?=some (v,X)) (he:F.L.map sigM=X.L.map sigM) (hF:F.ok wB) (hFf:F.frm wr.heap.size) {gb cap:Nat}
  (hown:w9.ownsRow w2.heap.size 46 2 (.slice (some ⟨gb,0,none⟩) (S.length+1) cap) (S.length+1) (cellsR S ++ cells2 (v,F))) (hg:wB.grownBy w9 vo.ownBlock) (hat:vo.ownBlock=some gb∨gb=wB.heap.size) :
  w9.cell? ⟨q,1,none⟩=some vo∧Row w9 q∧TwM w w2 q V R (k+1) (S ++ [(v,F)]) (.slice (some ⟨gb,0,none⟩) (S.length+1) cap) (w9.setCell ⟨q,1,none⟩ (.slice (some ⟨gb,0,none⟩) (S.length+1) cap)):=by
 have hl:(S ++ [(v,F)]).length=S.length+1:=by simp
 have e1:(S ++ [(v,F)]).take S.length=S:=by simp
 have hat2:(S ++ [(v,F)])[S.length]?=some (v,F):=by simp
 obtain ⟨p1,p2,p3⟩:=(h.tol.congr (S':=S ++ [(v,F)]) (by rw [e1,List.take_length])).push hq hw hb hat2 (by rw [e1];exact hown) hg
 have hlt:=fun j (hj:vo.ownBlock=some j)=>h.tol.own.lt j hj
 have hsz:=h.tol.but.size
 have hall:∀ G:FV,G.ok wB→G.frm w2.heap.size→(∀ b,vo.ownBlock=some b→G.off b)→G.ok (w9.setCell ⟨q,1,none⟩ (.slice (some ⟨gb,0,none⟩) (S.length+1) cap))∧G.frm w2.heap.size∧∀ b,(Value.slice (some ⟨gb,0,none⟩) (S.length+1) cap).ownBlock=some b→G.off b:=by
  intro G hG hGf hGo
  refine ⟨(hG.grown hg hGo).setq (hGf.off hq.2),hGf,fun b hb2=>?_⟩
  have:gb=b:=by simpa [Value.ownBlock] using hb2
  subst this
  rcases hat with h | h
  ·exact hGo _ h
  ·exact hG.off (by omega)
 refine ⟨p1,p2,by rw [hl];exact p3,fun r hr=>?_,?_⟩
 ·rcases List.mem_append.1 hr with hr | hr
  ·obtain ⟨a1,a2,a3⟩:=h.nk r hr
   exact hall _ (a1.later hb) a2 a3
  ·rw [List.mem_singleton.1 hr]
   exact hall F hF (hFf.mono hsz) fun b hb2=>hFf.off (hlt b hb2).2
 ·rw [take_snoc hm,List.map_append,List.map_append,h.sg]
  simp only [List.map_cons,List.map_nil,sgR,he]
set_option maxHeartbeats 16000000 in
set_option maxRecDepth 100000 in
theorem twin_is (V:Int) (a:Option Addr) (c:Nat) (R:List RowV) (w:World) (hT:TIn w a R) (hc:R.length≤c) (hbu:bulT R≤2097152) :
  Calls Tryz.prog 5 #[.agg #[.int .i64 V,.slice a R.length c]] w (TwA w V R):=by
 obtain ⟨i0,hi0,hz0,hz1,hz2⟩:=info_parts info_Row
 obtain ⟨TQ,hTQ⟩:∃ TQ,TwA w V R=TQ:=⟨_,rfl⟩
 rw [hTQ]
 replace hTQ:=xQ1 hTQ
 have hlen:R.length≤1048576:=by have:=bulT_len R;omega
 have GN:=xQ1 (fun r (hr:r∈R) w' (hb:Below w.heap.size w w')=>memForm_is r.2 w' ((hT.forms r hr).later hb) (by have:=bulT_mem hr;have:=bul_len r.2.L;omega))
 have HAt:=xQ1 hT.at_
 have HWf:=xQ1 hT.wf
 clear hT
 have b1:=xQ2 (w:=w) (.cells #[.int .i64 V,.slice a R.length c] 24)
 have b2:=xQ2 (w:=w.alloc (.cells #[.int .i64 V,.slice a R.length c] 24)) (.cells #[.int .i64 0,.slice none 0 0] 24)
 have b3:=xQ2 (w:=(w.alloc (.cells #[.int .i64 V,.slice a R.length c] 24)).alloc (.cells #[.int .i64 0,.slice none 0 0] 24)) (.cells #[.int .i64 V,.slice none 0 0] 24)
 have hsz:(((w.alloc (.cells #[.int .i64 V,.slice a R.length c] 24)).alloc (.cells #[.int .i64 0,.slice none 0 0] 24)).alloc (.cells #[.int .i64 V,.slice none 0 0] 24)).heap.size=w.heap.size+1+1+1:=by simp
 have m0:(((w.alloc (.cells #[.int .i64 V,.slice a R.length c] 24)).alloc (.cells #[.int .i64 0,.slice none 0 0] 24)).alloc (.cells #[.int .i64 V,.slice none 0 0] 24)).cell? ⟨w.heap.size,0,none⟩=some (.int .i64 V):=by go_simp
 have m1:(((w.alloc (.cells #[.int .i64 V,.slice a R.length c] 24)).alloc (.cells #[.int .i64 0,.slice none 0 0] 24)).alloc (.cells #[.int .i64 V,.slice none 0 0] 24)).cell? ⟨w.heap.size,1,none⟩=some (.slice a R.length c):=by go_simp
 have z0:(((w.alloc (.cells #[.int .i64 V,.slice a R.length c] 24)).alloc (.cells #[.int .i64 0,.slice none 0 0] 24)).alloc (.cells #[.int .i64 V,.slice none 0 0] 24)).cell? ⟨w.heap.size+1,0,none⟩=some (.int .i64 0):=by go_simp
 have z1:(((w.alloc (.cells #[.int .i64 V,.slice a R.length c] 24)).alloc (.cells #[.int .i64 0,.slice none 0 0] 24)).alloc (.cells #[.int .i64 V,.slice none 0 0] 24)).cell? ⟨w.heap.size+1,1,none⟩=some (.slice none 0 0):=by go_simp
 have c0:(((w.alloc (.cells #[.int .i64 V,.slice a R.length c] 24)).alloc (.cells #[.int .i64 0,.slice none 0 0] 24)).alloc (.cells #[.int .i64 V,.slice none 0 0] 24)).cell? ⟨w.heap.size+1+1,0,none⟩=some (.int .i64 V):=by go_simp
 have c1:(((w.alloc (.cells #[.int .i64 V,.slice a R.length c] 24)).alloc (.cells #[.int .i64 0,.slice none 0 0] 24)).alloc (.cells #[.int .i64 V,.slice none 0 0] 24)).cell? ⟨w.heap.size+1+1,1,none⟩=some (.slice none 0 0):=by go_simp
 have rz:Row (((w.alloc (.cells #[.int .i64 V,.slice a R.length c] 24)).alloc (.cells #[.int .i64 0,.slice none 0 0] 24)).alloc (.cells #[.int .i64 V,.slice none 0 0] 24)) (w.heap.size+1):=by have:=xQ3 b3 (xQ9 (w.alloc (.cells #[.int .i64 V,.slice a R.length c] 24)) #[.int .i64 0,.slice none 0 0] 24);simpa using this
 have rq:Row (((w.alloc (.cells #[.int .i64 V,.slice a R.length c] 24)).alloc (.cells #[.int .i64 0,.slice none 0 0] 24)).alloc (.cells #[.int .i64 V,.slice none 0 0] 24)) (w.heap.size+1+1):=by have:=xQ9 ((w.alloc (.cells #[.int .i64 V,.slice a R.length c] 24)).alloc (.cells #[.int .i64 0,.slice none 0 0] 24)) #[.int .i64 V,.slice none 0 0] 24;simpa using this
 have hBw:=b1.trans ((b2.trans (b3.mono b2.size)).mono b1.size)
 clear b1 b2 b3
 go_enter Tryz.func5,Tryz.ntmps5
 go_wp2_with fail
 obtain ⟨w2,hw2⟩:∃ w2,(((w.alloc (.cells #[.int .i64 V,.slice a R.length c] 24)).alloc (.cells #[.int .i64 0,.slice none 0 0] 24)).alloc (.cells #[.int .i64 V,.slice none 0 0] 24))=w2:=⟨_,rfl⟩
 rw [hw2] at m0 m1 z0 z1 c0 c1 rz rq hBw hsz ⊢
 clear hw2
 obtain ⟨q,hq⟩:∃ q,w.heap.size+1+1=q:=⟨_,rfl⟩
 rw [hq] at c0 c1 rq hsz
 try rw [hq]
 obtain ⟨rb,hrb⟩:∃ rb,w.heap.size+1=rb:=⟨_,rfl⟩
 rw [hrb] at z0 z1 rz hq
 try rw [hrb]
 have HQ:=xQ1 (show (w.heap.size≤q∧q < w2.heap.size)∧w.heap.size≤w2.heap.size∧w.heap.size≠q∧w.heap.size≤rb∧rb≠q∧rb < w2.heap.size by omega)
 clear hq hrb hsz
 have I0:TwM w w2 q V R 0 [] (.slice none 0 0) w2:=⟨⟨hBw,But.refl _ _,World.ownsRow_nil _ _ _ _,c0,c1,rq⟩,fun r hr=>absurd hr (by simp),rfl⟩
 have HZ:=xQ1 (show w2.cell? ⟨rb,0,none⟩=some (.int .i64 0)∧w2.cell? ⟨rb,1,none⟩=some (.slice none 0 0)∧Row w2 rb from ⟨z0,z1,rz⟩)
 have HM0:=xQ1 m0
 have HM1:=xQ1 m1
 clear c0 c1 rq z0 z1 rz hBw m0 m1
 go_loopw [4] (fun vi wr=>∃ (k:Nat) (S:List RowV) (vo:Value),k≤R.length∧vi=.int .i64 k∧TwM w w2 q V R k S vo wr) (fun vi _=>R.length - (intOf vi).toNat)
 case atStart=>exact ⟨0,[],_,Nat.zero_le _,rfl,I0⟩
 case round =>
  clear I0
  obtain ⟨k,S,vo,hk,rfl,hI⟩:=hrel
  have hown:=hI.tol.own
  have eS:S.take S.length=S:=List.take_length
  rw [eS] at hown
  clear eS
  obtain ⟨ar,cr,rfl,hcr,hcm,hTA⟩:=own_tab hown
  have c0:=hI.tol.c0
  have c1:=hI.tol.c1
  have m0:=hI.tol.but.cell HM0.out HQ.out.2.2.1
  have m1:=hI.tol.but.cell HM1.out HQ.out.2.2.1
  have hBr:=hI.tol.bel
  have hSk:S.length≤1048576:=by have:=congrArg List.length hI.sg;simp only [List.length_map,List.length_take] at this;omega
  by_cases hlt:k < R.length
  ·obtain ⟨s9,hs9⟩:∃ r,R[k]?=some r:=⟨R[k],List.getElem?_eq_getElem hlt⟩
   have hsm:=List.mem_of_getElem? hs9
   obtain ⟨bb,off,rfl,hbb,hcell⟩:=HAt.out (by intro e;rw [e] at hlt;simp at hlt)
   obtain ⟨d0,d1⟩:=hcell k s9 hs9
   replace d0:=xQ0 hBr d0
   replace d1:=xQ0 hBr d1
   have G1:=xQ1 (GN.out s9 hsm)
   have HOw:=xQ1 hown
   have HI:=xQ1 hI
   have PU:=xQ1 (fun wB w9 (hb:Below wr.heap.size wr wB) F he hF hFf gb cap hown hg hat=>HI.out.push (wB:=wB) (w9:=w9) (gb:=gb) (cap:=cap) (v:=s9.1) (X:=s9.2) (F:=F) HQ.out.1 HQ.out.2.1 hb hs9 he hF hFf hown hg hat)
   have hlt9:=fun j hj=>(HOw.out.lt j hj)
   have hbq:bb≠q∧w.heap.size≠q:=by have:=HQ.out;omega
   obtain ⟨x,X⟩:=s9
   obtain ⟨Xa,Xc,XL⟩:=X
   unfold FV.val at d1
   simp only at d0 d1 G1 PU
   try unfold FV.val at G1
   have i1:(0:Int)≤(k:Int):=by omega
   have i2:(k:Int) < (R.length:Int):=by omega
   clear hcell hs9 GN HAt hsm hI hTA hown
   go_wp2_with fail
   have bT:Below wr.heap.size wr wr:=Below.refl _ _
   have bD:Below wr.heap.size wr wr.drew:=(Below.refl _ _).drew
   have km0:=xQ0 bD m0
   have km1:=xQ0 bD m1
   have kd0:=xQ0 bD d0
   have kd1:=xQ0 bD d1
   replace bT:=bT.trans (bD.mono bT.size)
   refine wp_region_held_drew (S:=fun w'=>w'.cell? ⟨w.heap.size,0,none⟩=some (.int .i64 V)∧w'.cell? ⟨w.heap.size,1,none⟩=some (.slice (some ⟨bb,off,none⟩) R.length c)∧w'.cell? ⟨bb,off+k*2,none⟩=some (.int .i64 x)∧w'.cell? ⟨bb,off+k*2+1,none⟩=some (.slice Xa XL.length Xc)) (by kernel_rfl) ⟨km0,km1,kd0,kd1⟩ (fun hHeld=>?_)
   clear km0 km1 kd0 kd1
   generalize wr.drew=w4 at bD bT hHeld ⊢
   clear bD m0 m1 d0 d1
   refine tk 0 (v:=?_) rfl (Or.inl ⟨by rfl,?_⟩) ?_
   rotate_left
   ·intro w9 hSw
    go_simp
    try with_reducible rfl
   simp only [pA]
   refine tk 2 (v:=?_) rfl (Or.inl ⟨by rfl,?_⟩) ?_
   rotate_left
   ·intro w9 hSw
    go_simp
    try with_reducible rfl
   simp only [pA]
   refine tk 3 (v:=?_) rfl (Or.inl ⟨by rfl,?_⟩) ?_
   rotate_left
   ·intro w9 hSw
    go_simp
    try with_reducible rfl
   simp only [pA]
   refine tk 4 (v:=?_) rfl (Or.inl ⟨by rfl,?_⟩) ?_
   rotate_left
   ·intro w9 hSw
    go_simp
    try with_reducible rfl
   simp only [pA]
   refine tk 5 (v:=?_) rfl (Or.inl ⟨by rfl,?_⟩) ?_
   rotate_left
   ·intro w9 hSw
    go_simp
    try with_reducible rfl
   simp only [pA]
   refine tk 6 (v:=?_) rfl (Or.inl ⟨by rfl,?_⟩) ?_
   rotate_left
   ·intro w9 hSw
    go_simp
    try with_reducible rfl
   simp only [pA]
   refine tk 7 (v:=?_) rfl (Or.inl ⟨by rfl,?_⟩) ?_
   rotate_left
   ·intro w9 hSw
    go_simp
    try with_reducible rfl
   simp only [pA]
   refine tk 8 (v:=?_) rfl (Or.inl ⟨by rfl,?_⟩) ?_
   rotate_left
   ·intro w9 hSw
    go_simp
    try with_reducible rfl
   simp only [pA]
   refine tk 9 (v:=?_) rfl (Or.inl ⟨by rfl,?_⟩) ?_
   rotate_left
   ·intro w9 hSw
    go_simp
    try with_reducible rfl
   simp only [pA]
   refine tk 10 (v:=?_) rfl (Or.inl ⟨by rfl,?_⟩) ?_
   rotate_left
   ·intro w9 hSw
    go_simp
    try with_reducible rfl
   simp only [pA]
   refine tk 11 (v:=?_) rfl (Or.inl ⟨by rfl,?_⟩) ?_
   rotate_left
   ·intro w9 hSw
    go_simp
    try with_reducible rfl
   simp only [pA]
   refine tk 12 (v:=?_) rfl (Or.inl ⟨by rfl,?_⟩) ?_
   rotate_left
   ·intro w9 hSw
    go_simp
    try with_reducible rfl
   simp only [pA]
   refine tk 13 (v:=?_) rfl (Or.inl ⟨by rfl,?_⟩) ?_
   rotate_left
   ·intro w9 hSw
    go_simp
    try with_reducible rfl
   simp only [pA]
   refine wpAnyH_ready (rs:=[1,14]) (by kernel_rfl) (by simp) ?_
   refine consT rfl (fun KK hKK=>?_) ?_
   ·skip
    have cq:=xQ0 bT c1
    go_simp
    clear cq
    refine hKK.out _ _ hHeld ?_
    clear hHeld
    intro hHeld
    clear hKK KK
    try simp only [pA]
    refine wpAnyH_ready (rs:=[14]) (by kernel_rfl) (by simp) ?_
    refine xX0 rfl (fun KK hKK=>?_)
    have hs5:=bT.size
    go_simp
    refine (G1.out _ (hBr.trans (bT.mono hBr.size))).mono ?_
    rintro e w5 ⟨⟨Fa,Fc,FL⟩,rfl,hFk,hFf,hfo,hnn,bN⟩
    have bC:=bN
    replace bT:=bT.trans (bC.mono bT.size)
    replace hHeld:=(⟨xQ0 bC hHeld.1,xQ0 bC hHeld.2.1,xQ0 bC hHeld.2.2.1,xQ0 bC hHeld.2.2.2⟩:_∧_∧_∧_)
    clear bC
    go_wp2_with fail
    replace hFf:=hFf.mono hs5
    clear bN hs5 hnn
    unfold FV.val
    simp only
    refine hKK.out _ _ hHeld ?_
    clear hHeld
    intro hHeld
    clear hKK KK
    try simp only [pA]
    refine tk 15 (v:=?_) rfl (Or.inl ⟨by rfl,?_⟩) ?_
    rotate_left
    ·intro w9 hSw
     go_simp
     try with_reducible rfl
    simp only [pA]
    refine wpAnyH_ready (rs:=[16]) (by kernel_rfl) (by simp) ?_
    refine xX0 rfl (fun KK hKK=>?_)
    go_simp
    have hnew:=heap_alloc_new w5 (.cells #[.int .i64 x,.slice Fa FL.length Fc] 46)
    have b3:=xQ2 (w:=w5) (.cells #[.int .i64 x,.slice Fa FL.length Fc] 46)
    generalize w5.alloc (.cells #[.int .i64 x,.slice Fa FL.length Fc] 46)=w6 at hnew b3 ⊢
    replace bT:=bT.trans (b3.mono bT.size)
    replace hFk:=hFk.later b3
    replace hHeld:=(⟨xQ0 b3 hHeld.1,xQ0 b3 hHeld.2.1,xQ0 b3 hHeld.2.2.1,xQ0 b3 hHeld.2.2.2⟩:_∧_∧_∧_)
    clear b3
    refine hKK.out _ _ hHeld ?_
    clear hHeld
    intro hHeld
    clear hKK KK
    try simp only [pA]
    refine wpAnyH_ready (rs:=[17]) (by kernel_rfl) (by simp) ?_
    refine xX0 rfl (fun KK hKK=>?_)
    have hO3:=xQ6 HOw.out bT
    have s3:=bT.size
    have s4:=HI.out.tol.but.size
    refine step_append_lies _ (by rfl) _ _ _ (by rfl) w2.heap.size 46 i0 _ 2 32 Tryz.underlying22 hi0 hz0 hz1 hz2 rfl (by omega) (.slice ar S.length cr) S.length (cellsR S) (by rfl) hO3 ⟨w5.heap.size,0,none⟩ 1 1 [.int .i64 x,.slice Fa FL.length Fc] (by rfl) (by rfl) (World.news_of_block (cs:=#[.int .i64 x,.slice Fa FL.length Fc]) (t:=46) (fr:=(0,0)) hnew) (by simp [Value.oneCell']) (by omega) (by simp only [maxLen];omega) (by omega) (by omega) w6.heap.size rfl ?_
    intro gb cap w9 hown4 hgrow hat hlt4
    obtain ⟨p1,p2,p3⟩:=PU.out w6 w9 bT ⟨Fa,Fc,FL⟩ hfo hFk hFf gb cap hown4 hgrow hat
    replace p3:=xQ1 p3
    have far:∀ {b o:Nat} {u:Value},b < w2.heap.size→w6.cell? ⟨b,o,none⟩=some u→w9.cell? ⟨b,o,none⟩=some u:=fun hb hu=>hgrow.cell hu (fun e=>by have:=(hlt9 _ e.symm).1;simp only at this;omega)
    have hh:=HQ.out
    refine hKK.out _ _ ⟨far (by omega) hHeld.1,far (by omega) hHeld.2.1,far (by omega) hHeld.2.2.1,far (by omega) hHeld.2.2.2⟩ ?_
    clear hHeld
    intro hHeld
    clear hKK KK
    try simp only [pA]
    clear hh far hown4 hgrow hat hlt4 hO3 hnew
    refine tk 18 (v:=?_) rfl (Or.inl ⟨by rfl,?_⟩) ?_
    rotate_left
    ·intro w9 hSw
     go_simp
     try with_reducible rfl
    simp only [pA]
    refine wpAnyH_ready (rs:=[19]) (by kernel_rfl) (by simp) ?_
    refine xX0 rfl (fun KK hKK=>?_)
    have fz:=fun o=>p2.frozen o
    clear p2
    have hH2:=(⟨far1 (q:=q) (o:=1) (u:=.slice (some ⟨gb,0,none⟩) (S.length+1) cap) hHeld.1 hbq.2,far1 (q:=q) (o:=1) (u:=.slice (some ⟨gb,0,none⟩) (S.length+1) cap) hHeld.2.1 hbq.2,far1 (q:=q) (o:=1) (u:=.slice (some ⟨gb,0,none⟩) (S.length+1) cap) hHeld.2.2.1 hbq.1,far1 (q:=q) (o:=1) (u:=.slice (some ⟨gb,0,none⟩) (S.length+1) cap) hHeld.2.2.2 hbq.1⟩:_∧_∧_∧_)
    go_simp
    refine hKK.out _ _ hH2 ?_
    clear hHeld
    intro hHeld
    clear hKK KK
    try simp only [pA]
    clear hH2 hHeld fz p1
    refine wpAnyH_done (by kernel_rfl) ?_ _
    go_wp2
    go_roundw
    case rel=>exact ⟨k+1,_,_,by omega,by go_num,p3.out⟩
    case measure=>simp only [intOf];omega
   refine consT rfl (fun KK hKK=>?_) ?_
   ·skip
    have hs5:=bT.size
    go_simp
    refine (G1.out _ (hBr.trans (bT.mono hBr.size))).mono ?_
    rintro e w5 ⟨⟨Fa,Fc,FL⟩,rfl,hFk,hFf,hfo,hnn,bN⟩
    have bC:=bN
    replace bT:=bT.trans (bC.mono bT.size)
    replace hHeld:=(⟨xQ0 bC hHeld.1,xQ0 bC hHeld.2.1,xQ0 bC hHeld.2.2.1,xQ0 bC hHeld.2.2.2⟩:_∧_∧_∧_)
    clear bC
    go_wp2_with fail
    replace hFf:=hFf.mono hs5
    clear bN hs5 hnn
    unfold FV.val
    simp only
    refine hKK.out _ _ hHeld ?_
    clear hHeld
    intro hHeld
    clear hKK KK
    try simp only [pA]
    refine tk 15 (v:=?_) rfl (Or.inl ⟨by rfl,?_⟩) ?_
    rotate_left
    ·intro w9 hSw
     go_simp
     try with_reducible rfl
    simp only [pA]
    refine wpAnyH_ready (rs:=[1,16]) (by kernel_rfl) (by simp) ?_
    refine consT rfl (fun KK hKK=>?_) ?_
    ·skip
     have cq:=xQ0 bT c1
     go_simp
     clear cq
     refine hKK.out _ _ hHeld ?_
     clear hHeld
     intro hHeld
     clear hKK KK
     try simp only [pA]
     refine wpAnyH_ready (rs:=[16]) (by kernel_rfl) (by simp) ?_
     refine xX0 rfl (fun KK hKK=>?_)
     go_simp
     have hnew:=heap_alloc_new w5 (.cells #[.int .i64 x,.slice Fa FL.length Fc] 46)
     have b3:=xQ2 (w:=w5) (.cells #[.int .i64 x,.slice Fa FL.length Fc] 46)
     generalize w5.alloc (.cells #[.int .i64 x,.slice Fa FL.length Fc] 46)=w6 at hnew b3 ⊢
     replace bT:=bT.trans (b3.mono bT.size)
     replace hFk:=hFk.later b3
     replace hHeld:=(⟨xQ0 b3 hHeld.1,xQ0 b3 hHeld.2.1,xQ0 b3 hHeld.2.2.1,xQ0 b3 hHeld.2.2.2⟩:_∧_∧_∧_)
     clear b3
     refine hKK.out _ _ hHeld ?_
     clear hHeld
     intro hHeld
     clear hKK KK
     try simp only [pA]
     refine wpAnyH_ready (rs:=[17]) (by kernel_rfl) (by simp) ?_
     refine xX0 rfl (fun KK hKK=>?_)
     have hO3:=xQ6 HOw.out bT
     have s3:=bT.size
     have s4:=HI.out.tol.but.size
     refine step_append_lies _ (by rfl) _ _ _ (by rfl) w2.heap.size 46 i0 _ 2 32 Tryz.underlying22 hi0 hz0 hz1 hz2 rfl (by omega) (.slice ar S.length cr) S.length (cellsR S) (by rfl) hO3 ⟨w5.heap.size,0,none⟩ 1 1 [.int .i64 x,.slice Fa FL.length Fc] (by rfl) (by rfl) (World.news_of_block (cs:=#[.int .i64 x,.slice Fa FL.length Fc]) (t:=46) (fr:=(0,0)) hnew) (by simp [Value.oneCell']) (by omega) (by simp only [maxLen];omega) (by omega) (by omega) w6.heap.size rfl ?_
     intro gb cap w9 hown4 hgrow hat hlt4
     obtain ⟨p1,p2,p3⟩:=PU.out w6 w9 bT ⟨Fa,Fc,FL⟩ hfo hFk hFf gb cap hown4 hgrow hat
     replace p3:=xQ1 p3
     have far:∀ {b o:Nat} {u:Value},b < w2.heap.size→w6.cell? ⟨b,o,none⟩=some u→w9.cell? ⟨b,o,none⟩=some u:=fun hb hu=>hgrow.cell hu (fun e=>by have:=(hlt9 _ e.symm).1;simp only at this;omega)
     have hh:=HQ.out
     refine hKK.out _ _ ⟨far (by omega) hHeld.1,far (by omega) hHeld.2.1,far (by omega) hHeld.2.2.1,far (by omega) hHeld.2.2.2⟩ ?_
     clear hHeld
     intro hHeld
     clear hKK KK
     try simp only [pA]
     clear hh far hown4 hgrow hat hlt4 hO3 hnew
     refine tk 18 (v:=?_) rfl (Or.inl ⟨by rfl,?_⟩) ?_
     rotate_left
     ·intro w9 hSw
      go_simp
      try with_reducible rfl
     simp only [pA]
     refine wpAnyH_ready (rs:=[19]) (by kernel_rfl) (by simp) ?_
     refine xX0 rfl (fun KK hKK=>?_)
     have fz:=fun o=>p2.frozen o
     clear p2
     have hH2:=(⟨far1 (q:=q) (o:=1) (u:=.slice (some ⟨gb,0,none⟩) (S.length+1) cap) hHeld.1 hbq.2,far1 (q:=q) (o:=1) (u:=.slice (some ⟨gb,0,none⟩) (S.length+1) cap) hHeld.2.1 hbq.2,far1 (q:=q) (o:=1) (u:=.slice (some ⟨gb,0,none⟩) (S.length+1) cap) hHeld.2.2.1 hbq.1,far1 (q:=q) (o:=1) (u:=.slice (some ⟨gb,0,none⟩) (S.length+1) cap) hHeld.2.2.2 hbq.1⟩:_∧_∧_∧_)
     go_simp
     refine hKK.out _ _ hH2 ?_
     clear hHeld
     intro hHeld
     clear hKK KK
     try simp only [pA]
     clear hH2 hHeld fz p1
     refine wpAnyH_done (by kernel_rfl) ?_ _
     go_wp2
     go_roundw
     case rel=>exact ⟨k+1,_,_,by omega,by go_num,p3.out⟩
     case measure=>simp only [intOf];omega
    refine consT rfl (fun KK hKK=>?_) ?_
    ·skip
     go_simp
     have hnew:=heap_alloc_new w5 (.cells #[.int .i64 x,.slice Fa FL.length Fc] 46)
     have b3:=xQ2 (w:=w5) (.cells #[.int .i64 x,.slice Fa FL.length Fc] 46)
     generalize w5.alloc (.cells #[.int .i64 x,.slice Fa FL.length Fc] 46)=w6 at hnew b3 ⊢
     replace bT:=bT.trans (b3.mono bT.size)
     replace hFk:=hFk.later b3
     replace hHeld:=(⟨xQ0 b3 hHeld.1,xQ0 b3 hHeld.2.1,xQ0 b3 hHeld.2.2.1,xQ0 b3 hHeld.2.2.2⟩:_∧_∧_∧_)
     clear b3
     refine hKK.out _ _ hHeld ?_
     clear hHeld
     intro hHeld
     clear hKK KK
     try simp only [pA]
     refine wpAnyH_ready (rs:=[1]) (by kernel_rfl) (by simp) ?_
     refine xX0 rfl (fun KK hKK=>?_)
     have cq:=xQ0 bT c1
     go_simp
     clear cq
     refine hKK.out _ _ hHeld ?_
     clear hHeld
     intro hHeld
     clear hKK KK
     try simp only [pA]
     refine wpAnyH_ready (rs:=[17]) (by kernel_rfl) (by simp) ?_
     refine xX0 rfl (fun KK hKK=>?_)
     have hO3:=xQ6 HOw.out bT
     have s3:=bT.size
     have s4:=HI.out.tol.but.size
     refine step_append_lies _ (by rfl) _ _ _ (by rfl) w2.heap.size 46 i0 _ 2 32 Tryz.underlying22 hi0 hz0 hz1 hz2 rfl (by omega) (.slice ar S.length cr) S.length (cellsR S) (by rfl) hO3 ⟨w5.heap.size,0,none⟩ 1 1 [.int .i64 x,.slice Fa FL.length Fc] (by rfl) (by rfl) (World.news_of_block (cs:=#[.int .i64 x,.slice Fa FL.length Fc]) (t:=46) (fr:=(0,0)) hnew) (by simp [Value.oneCell']) (by omega) (by simp only [maxLen];omega) (by omega) (by omega) w6.heap.size rfl ?_
     intro gb cap w9 hown4 hgrow hat hlt4
     obtain ⟨p1,p2,p3⟩:=PU.out w6 w9 bT ⟨Fa,Fc,FL⟩ hfo hFk hFf gb cap hown4 hgrow hat
     replace p3:=xQ1 p3
     have far:∀ {b o:Nat} {u:Value},b < w2.heap.size→w6.cell? ⟨b,o,none⟩=some u→w9.cell? ⟨b,o,none⟩=some u:=fun hb hu=>hgrow.cell hu (fun e=>by have:=(hlt9 _ e.symm).1;simp only at this;omega)
     have hh:=HQ.out
     refine hKK.out _ _ ⟨far (by omega) hHeld.1,far (by omega) hHeld.2.1,far (by omega) hHeld.2.2.1,far (by omega) hHeld.2.2.2⟩ ?_
     clear hHeld
     intro hHeld
     clear hKK KK
     try simp only [pA]
     clear hh far hown4 hgrow hat hlt4 hO3 hnew
     refine tk 18 (v:=?_) rfl (Or.inl ⟨by rfl,?_⟩) ?_
     rotate_left
     ·intro w9 hSw
      go_simp
      try with_reducible rfl
     simp only [pA]
     refine wpAnyH_ready (rs:=[19]) (by kernel_rfl) (by simp) ?_
     refine xX0 rfl (fun KK hKK=>?_)
     have fz:=fun o=>p2.frozen o
     clear p2
     have hH2:=(⟨far1 (q:=q) (o:=1) (u:=.slice (some ⟨gb,0,none⟩) (S.length+1) cap) hHeld.1 hbq.2,far1 (q:=q) (o:=1) (u:=.slice (some ⟨gb,0,none⟩) (S.length+1) cap) hHeld.2.1 hbq.2,far1 (q:=q) (o:=1) (u:=.slice (some ⟨gb,0,none⟩) (S.length+1) cap) hHeld.2.2.1 hbq.1,far1 (q:=q) (o:=1) (u:=.slice (some ⟨gb,0,none⟩) (S.length+1) cap) hHeld.2.2.2 hbq.1⟩:_∧_∧_∧_)
     go_simp
     refine hKK.out _ _ hH2 ?_
     clear hHeld
     intro hHeld
     clear hKK KK
     try simp only [pA]
     clear hH2 hHeld fz p1
     refine wpAnyH_done (by kernel_rfl) ?_ _
     go_wp2
     go_roundw
     case rel=>exact ⟨k+1,_,_,by omega,by go_num,p3.out⟩
     case measure=>simp only [intOf];omega
    exact AllReadyH.nil
   exact AllReadyH.nil
  ·obtain rfl:k=R.length:=by omega
   have j0:¬ (R.length:Int) < (R.length:Int):=by omega
   have hsg:=hI.sg
   rw [List.take_length] at hsg
   have HNk:=xQ1 (fun r hr=>(hI.nk r hr).1)
   have HNf:=xQ1 (fun r hr=>(hI.nk r hr).2.1)
   have HSg:=xQ1 hsg
   have HRW:=xQ1 (fun ad (e:ar=some ad)=>show w2.heap.size≤ad.block from by rw [e] at hown;exact (hown.lt ad.block rfl).1)
   have z0:=hI.tol.but.cell HZ.out.1 HQ.out.2.2.2.2.1
   have z1:=hI.tol.but.cell HZ.out.2.1 HQ.out.2.2.2.2.1
   have zR:Row wr rb:=by obtain ⟨cur,t,hc⟩:=HZ.out.2.2;exact ⟨cur,t,(hI.tol.but.block _ (Array.getElem?_eq_some_iff.1 hc).1 HQ.out.2.2.2.2.1).trans hc⟩
   have fz:=fun o=>zR.frozen o
   have HX:=xQ1 (show TwA w V R (.returned (Value.agg #[.int .i64 V,.slice ar S.length cr])) ((wr.setCell ⟨rb,0,none⟩ (.int .i64 V)).setCell ⟨rb,1,none⟩ (.slice ar S.length cr)) from by
     have hq5:=HQ.out
     have hB:Below w.heap.size w ((wr.setCell ⟨rb,0,none⟩ (.int .i64 V)).setCell ⟨rb,1,none⟩ (.slice ar S.length cr)):=(hI.tol.bel.setCell hq5.2.2.2.1 _).setCell hq5.2.2.2.1 _
     have hne:∀ ad,ar=some ad→S≠[]→ad.block≠rb:=fun ad e _=>by have h1:=HRW.out ad e;omega
     refine ⟨S,ar,cr,rfl,hB,⟨(hTA.far hne).far hne,fun r hr=>?_,fun r hr=>?_⟩,hcr,HSg.out⟩
     ·have h7:=(HNf.out r hr).off hq5.2.2.2.2.2
      exact ((HNk.out r hr).setq h7).setq h7
     ·obtain ⟨r',hr',e1,_⟩:=sgR_mem HSg.out hr
      rw [e1]
      exact HWf.out r' hr')
   rw [hTQ.out] at HX
   clear hI hown hTA zR HRW HNk HNf hsg
   go_wp2
   first | exact HX.out | (refine bodyPost_ret (v:=.agg #[.int .i64 V,.slice ar S.length cr]) (by rw [xQ5 rfl];go_simp) rfl ?_;exact HX.out)
end Go.Proofs.YtgfmaejhdbmkoaaGreat
