import Derived.Test.YtlklfkkbdcglbaaGreatWL4
import Derived.Test.YtlklfkkbdcglbaaGreatGT2
import Derived.Test.YtlklfkkbdcglbaaGreatGTC
import Derived.Test.YtlklfkkbdcglbaaGreatGTR
import Derived.Test.YtlklfkkbdcglbaaGreatGT4
set_option linter.unusedSimpArgs false
namespace Go.Proofs.YtlklfkkbdcglbaaGreat
open Go.RowKit
set_option linter.unusedVariables false
theorem info_u32M:(Tryz.prog.info? 123).map (fun i=>(i.zero,i.size,i.bytes))=some (some (.int .u32 0),1,4):=by kernel_rfl
def limbsM (X n:Nat):List Value:=(List.range n).map fun i=>.int .u32 (dg X i:Nat)
theorem limbsM_succ (X n:Nat):limbsM X (n+1)=limbsM X n ++ [.int .u32 (dg X n:Nat)]:=by
 unfold limbsM
 rw [List.range_succ,List.map_append]
 rfl
theorem limbsM_at {X n i:Nat} (h:i < n):(limbsM X n)[i]?=some (.int .u32 (dg X i:Nat)):=by
 unfold limbsM
 rw [List.getElem?_map,List.getElem?_range h]
 rfl
theorem own_copy {w w':World} {v:Value} {X n:Nat} (hX:X < BB ^ n) (h:w'.ownsRow w.heap.size 123 1 v n (limbsM X n)) (hB:Below w.heap.size w w'):∃ p c,v=.slice p n c∧n≤c∧New w w' p X n:=by
 rcases h.2 with ⟨rfl,rfl⟩ | ⟨g,cap,cur,rfl,hb,hg,hc,hm,_,_⟩
 ·exact ⟨none,0,rfl,Nat.le_refl _,⟨hX,fun h=>absurd h (by omega)⟩,hB,fun h=>absurd h (by omega)⟩
 ·have hgl:=(Array.getElem?_eq_some_iff.1 hg).1
  refine ⟨_,cap,rfl,hc,⟨hX,fun hn=>⟨g,0,rfl,hgl,fun i hi=>?_⟩⟩,hB,fun _=>⟨g,0,rfl,hb,cur,_,hg⟩⟩
  have h:=h.cellAt i (by omega)
  rw [limbsM_at hi] at h
  rw [Nat.zero_add]
  exact h
set_option maxHeartbeats 2000000 in
set_option maxRecDepth 100000 in
theorem memNat_is (a:Option Addr) (n c X:Nat) (w:World) (hn:n≤35184372087808) (hS:Seg w a X n) :
  Calls Tryz.prog 81 #[.slice a n c] w fun e w'=>∃ p c',e=.returned (.slice p n c')∧n≤c'∧New w w' p X n:=by
 obtain ⟨i0,hi0,hz0,hz1,hz2⟩:=info_parts info_u32M
 go_enter Tryz.func81,Tryz.ntmps81
 go_wp2_with fail
 go_loopw [3,4] (fun vo vi wr=>∃ k:Nat,k≤n∧vi=.int .i64 k∧wr.ownsRow w.heap.size 123 1 vo k (limbsM X k)∧Below w.heap.size w wr) (fun _ vi _=>n - (intOf vi).toNat)
 case atStart=>exact ⟨0,Nat.zero_le _,rfl,World.ownsRow_nil _ _ _ _,Below.refl _ _⟩
 case round =>
  obtain ⟨k,hk,rfl,hO,hB⟩:=hrel
  by_cases hlt:k < n
  ·have hSr:=hS.later hB
   obtain ⟨bb,off,rfl,hb,hcell⟩:=hSr.2 (by omega)
   have c0:=hcell k hlt
   have i1:(0:Int)≤(k:Int):=by omega
   have i2:(k:Int) < (n:Int):=by omega
   obtain ⟨x,hx⟩:∃ x:Int,((dg X k:Nat):Int)=x:=⟨_,rfl⟩
   rw [hx] at c0
   obtain ⟨zs,hzs⟩:∃ zs,limbsM X k=zs:=⟨_,rfl⟩
   rw [hzs] at hO
   obtain ⟨wB,hwB⟩:∃ wB,wr.alloc (.cells #[.int .u32 x] 123)=wB:=⟨_,rfl⟩
   have hnew:=heap_alloc_new wr (.cells #[.int .u32 x] 123)
   have b3:=xQ1 (w:=wr) (.cells #[.int .u32 x] 123)
   rw [hwB] at hnew b3
   have hO3:=xQ6 hO b3
   have s3:=b3.size
   have s4:=hB.size
   have hbB:w.heap.size≤wB.heap.size:=by omega
   have hbl:(k+1)*4≤140737488355328:=by omega
   have hrow:=fun k hk=>(hO.lt k hk)
   clear hcell
   go_wp2_with (at_builtin;(try rw [hwB]);refine wpList_append_lies _ (by rfl) _ _ _ (by rfl) w.heap.size 123 i0 _ 1 4 xZ8 hi0 hz0 hz1 hz2 rfl (by omega) u3 k zs (by rfl) hO3 ⟨wr.heap.size,0,none⟩ 1 1 [.int .u32 x] (by rfl) (by rfl) (World.news_of_block (cs:=#[.int .u32 x]) (t:=123) (fr:=(0,0)) hnew) (by simp [Value.oneCell']) (by omega) (by simp only [maxLen];omega) hbl hbB wB.heap.size rfl ?_)
   intro gb cap w9 hown4 hgrow hat hlt4
   have hB3:=hB.trans (b3.mono hB.size)
   have b9:=xX0 hB3.size (fun k hk=>(hrow k hk).1) hgrow
   have I1:w9.ownsRow w.heap.size 123 1 (.slice (some ⟨gb,0,none⟩) (k+1) cap) (k+1) (limbsM X (k+1))∧Below w.heap.size w w9:=⟨by rw [limbsM_succ,hzs,hx];exact hown4,hB3.trans b9⟩
   replace I1:=xQ2 I1
   clear hown4 hgrow hat hnew b3 hO3 hB3 b9 hrow s3 hbB hbl hO hB hzs hx
   go_wp2
   go_roundw
   case rel=>exact ⟨k+1,by omega,by go_num,I1.out⟩
   case measure=>simp [intOf];omega
  ·obtain rfl:k=n:=by omega
   have i1:¬ (k:Int) < (k:Int):=by omega
   obtain ⟨p,c1,rfl,hc1,hC⟩:=own_copy hS.1 hO hB
   go_wp2
   go_ret
   exact ⟨p,c1,rfl,hc1,hC⟩
set_option maxHeartbeats 1000000 in
theorem memInt_is (s:Bool) (ao:Option Addr) (n cap X:Nat) (w:World) (hm:n≤35184372087808) (hS:Seg w ao X n) :
  Calls Tryz.prog 80 #[.agg #[.bool s,.slice ao n cap]] w fun e w'=>∃ ao' c',e=.returned (.agg #[.bool s,.slice ao' n c'])∧n≤c'∧New w w' ao' X n:=by
 go_enter Tryz.func80,Tryz.ntmps80
 go_wp2_with fail
 obtain ⟨W,hW⟩:∃ W,((w.alloc (.cells #[.bool s,.slice ao n cap] 72)).alloc (.cells #[.bool false,.slice none 0 0] 72))=W:=⟨_,rfl⟩
 have q00:W.cell? ⟨w.heap.size,0,none⟩=some (.bool s):=by subst hW;go_simp
 have q01:W.cell? ⟨w.heap.size,1,none⟩=some (.slice ao n cap):=by subst hW;go_simp
 have r00:W.cell? ⟨w.heap.size+1,0,none⟩=some (.bool false):=by subst hW;go_simp
 have r01:W.cell? ⟨w.heap.size+1,1,none⟩=some (.slice none 0 0):=by subst hW;go_simp
 have hB:Below w.heap.size w W:=by subst hW;exact (((Below.refl _ _).alloc (by (try simp only [World.size_alloc]);omega) _).alloc (by (try simp only [World.size_alloc]);omega) _)
 have hR0:Row W (w.heap.size+1):=by
  have:=xQ9 ((w.alloc (.cells #[.bool s,.slice ao n cap] 72))) #[.bool false,.slice none 0 0] 72
  try simp only [World.size_alloc] at this
  subst hW;exact this
 have hz:W.heap.size=w.heap.size+1+1:=by subst hW;simp only [World.size_alloc]
 rw [hW]
 clear hW
 have hBW:Below W.heap.size W W:=Below.refl _ _
 replace hBW:=hBW.drew
 first
  | go_region_held3 (fun w'=>w'.cell? ⟨w.heap.size,0,none⟩=some (.bool s)∧w'.cell? ⟨w.heap.size,1,none⟩=some (.slice ao n cap)∧Below w.heap.size w w')
    (first | exact ⟨q00,q01,hB.trans (hBW.mono hB.size)⟩ | exact kp2 b1 (by assumption) | exact kp2 (xQ1 _) (by assumption) | exact kp2 (xQ1 _) ⟨q00,q01,hB.trans (hBW.mono hB.size)⟩ | exact kpT2_2 (by assumption) (by omega) (by omega) (by omega))
    (first
     | (go_at_call 81;(fail_if_success clear b1);refine (memNat_is ao n cap X _ hm (sb hS hB hBW)).mono ?_;rintro e w1 ⟨a1,c1,rfl,g1,hn1⟩;have b1:=hn1.below;replace hn1:=hn1.back hBW;replace hBW:=hBW.trans (b1.mono hBW.size);replace q00:=xQ0 b1 q00;replace q01:=xQ0 b1 q01;replace r00:=xQ0 b1 r00;replace r01:=xQ0 b1 r01;replace hR0:=xQ3 b1 hR0;have fz:=fun o=>hR0.frozen o))
  | fail
 have fz0:=fun o=>hR0.frozen o
 go_wp2
 all_goals refine bodyPost_ret (v:=.agg #[.bool s,.slice a1 n c1]) (by rw [xQ5 rfl];go_simp) rfl ?_
 all_goals exact ⟨a1,c1,rfl,g1,hn1.mid hB ((((Mid.refl _ _ _).set _ _ (by omega) (by omega) _).set _ _ (by omega) (by omega) _))⟩
set_option maxHeartbeats 2000000 in
theorem memRat_is (s0:Bool) (a0:Option Addr) (n0 c0 X0:Nat) (b0:Option Addr) (m0 d0 Y0:Nat) (w:World) (hc0:n0≤c0) (hm0:n0≤35184372087808) (hS0:Seg w a0 X0 n0) (hd0:m0≤d0) (hk0:m0≤35184372087808) (hT0:Seg w b0 Y0 m0) :
  Calls Tryz.prog 53 #[Value.agg #[Value.bool s0,Value.slice a0 n0 c0,Value.slice b0 m0 d0]] w fun e w'=>∃ p c q d,e=.returned (.agg #[.bool s0,.slice p n0 c,.slice q m0 d])∧n0≤c∧m0≤d∧New w w' p X0 n0∧New w w' q Y0 m0:=by
 go_enter Tryz.func53,Tryz.ntmps53
 go_wp2_with fail
 obtain ⟨W,hW⟩:∃ W,((w.alloc (.cells #[.bool s0,.slice a0 n0 c0,.slice b0 m0 d0] 74)).alloc (.cells #[.bool false,.slice none 0 0,.slice none 0 0] 74))=W:=⟨_,rfl⟩
 have q00:W.cell? ⟨w.heap.size,0,none⟩=some (.bool s0):=by subst hW;go_simp
 have q01:W.cell? ⟨w.heap.size,1,none⟩=some (.slice a0 n0 c0):=by subst hW;go_simp
 have q02:W.cell? ⟨w.heap.size,2,none⟩=some (.slice b0 m0 d0):=by subst hW;go_simp
 have r00:W.cell? ⟨w.heap.size+1,0,none⟩=some (.bool false):=by subst hW;go_simp
 have r01:W.cell? ⟨w.heap.size+1,1,none⟩=some (.slice none 0 0):=by subst hW;go_simp
 have r02:W.cell? ⟨w.heap.size+1,2,none⟩=some (.slice none 0 0):=by subst hW;go_simp
 have hB:Below w.heap.size w W:=by subst hW;exact (((Below.refl _ _).alloc (by (try simp only [World.size_alloc]);omega) _).alloc (by (try simp only [World.size_alloc]);omega) _)
 have hR0:Row W (w.heap.size+1):=by
  have:=xQ9 ((w.alloc (.cells #[.bool s0,.slice a0 n0 c0,.slice b0 m0 d0] 74))) #[.bool false,.slice none 0 0,.slice none 0 0] 74
  try simp only [World.size_alloc] at this
  subst hW;exact this
 have hz:W.heap.size=w.heap.size+1+1:=by subst hW;simp only [World.size_alloc]
 rw [hW]
 clear hW
 have hBW:Below W.heap.size W W:=Below.refl _ _
 replace hBW:=hBW.drew
 first
  | go_region_held3 (fun w'=>w'.cell? ⟨w.heap.size,0,none⟩=some (.bool s0)∧w'.cell? ⟨w.heap.size,1,none⟩=some (.slice a0 n0 c0)∧w'.cell? ⟨w.heap.size,2,none⟩=some (.slice b0 m0 d0)∧Below w.heap.size w w')
    (first | exact ⟨q00,q01,q02,hB.trans (hBW.mono hB.size)⟩ | exact kp3 b41 (by assumption) | exact kp3 b42 (by assumption) | exact kp3 (xQ1 _) (by assumption) | exact kp3 (xQ1 _) ⟨q00,q01,q02,hB.trans (hBW.mono hB.size)⟩ | exact kpT3_3 (by assumption) (by omega) (by omega) (by omega) (by omega))
    (first
     | (go_at_call 80;(fail_if_success clear b41);refine (memInt_is s0 a0 n0 c0 X0 _ hm0 (sb hS0 hB hBW)).mono ?_;rintro e w41 ⟨a41,c41,rfl,g41,hn41⟩;have b41:=hn41.below;replace hn41:=hn41.back hBW;replace hBW:=hBW.trans (b41.mono hBW.size);replace q00:=xQ0 b41 q00;replace q01:=xQ0 b41 q01;replace q02:=xQ0 b41 q02;replace r00:=xQ0 b41 r00;replace r01:=xQ0 b41 r01;replace r02:=xQ0 b41 r02;replace hR0:=xQ3 b41 hR0)
     | (go_at_call 81;(fail_if_success clear b42);refine (memNat_is b0 m0 d0 Y0 _ hk0 (sb hT0 hB hBW)).mono ?_;rintro e w42 ⟨a42,c42,rfl,g42,hn42⟩;have b42:=hn42.below;replace hn42:=hn42.back hBW;replace hBW:=hBW.trans (b42.mono hBW.size);replace q00:=xQ0 b42 q00;replace q01:=xQ0 b42 q01;replace q02:=xQ0 b42 q02;replace r00:=xQ0 b42 r00;replace r01:=xQ0 b42 r01;replace r02:=xQ0 b42 r02;replace hR0:=xQ3 b42 hR0;replace hn41:=hn41.later b42;have fz:=fun o=>hR0.frozen o))
  | fail
 have fz0:=fun o=>hR0.frozen o
 go_wp2
 all_goals refine bodyPost_ret (v:=.agg #[.bool s0,.slice a41 n0 c41,.slice a42 m0 c42]) (by rw [xQ5 rfl];go_simp) rfl ?_
 all_goals exact ⟨a41,c41,a42,c42,rfl,g41,g42,hn41.mid hB (((((Mid.refl _ _ _).set _ _ (by omega) (by omega) _).set _ _ (by omega) (by omega) _).set _ _ (by omega) (by omega) _)),hn42.mid hB (((((Mid.refl _ _ _).set _ _ (by omega) (by omega) _).set _ _ (by omega) (by omega) _).set _ _ (by omega) (by omega) _))⟩
def sigM (p:Mo):Int × Rat × Nat × Nat:=(p.1,p.2.val,p.2.n,p.2.m)
theorem sig_fo {L M:List Mo} (h:L.map sigM=M.map sigM):fo L=fo M:=by
 have h1:=congrArg (List.map fun s:Int × Rat × Nat × Nat=>(s.1,s.2.1)) h
 simp only [List.map_map] at h1
 exact h1
theorem sig_bul:∀ {L M:List Mo},L.map sigM=M.map sigM→bul L=bul M
 | [],[],_=>rfl
 | [],q :: M,h=>by simp at h
 | p :: L,[],h=>by simp at h
 | p :: L,q :: M,h=>by
  simp only [List.map_cons,List.cons.injEq] at h
  have h1:=sig_bul h.2
  have h2:=h.1
  simp only [sigM,Prod.mk.injEq] at h2
  simp only [bul,h1,h2.2.2.1,h2.2.2.2]
def CpF (w:World) (L:List Mo) (k:Nat) (vo:Value) (wr:World):Prop :=
 ∃ R:List Mo,R.length=k∧wr.ownsRow w.heap.size 76 4 vo R.length (xX9 R)∧Below w.heap.size w wr∧(∀ p∈R,p.2.ok wr∧p.2.frm w.heap.size∧∀ b,vo.ownBlock=some b→p.2.off b)∧R.map sigM=(L.take k).map sigM
theorem CpF.nil (w:World) (L:List Mo):CpF w L 0 (.slice none 0 0) w:=⟨[],rfl,World.ownsRow_nil _ _ _ _,Below.refl _ _,fun p hp=>absurd hp (by simp),rfl⟩
theorem CpF.push {w:World} {L:List Mo} {k:Nat} {vo:Value} {wB w1:World} {R:List Mo} (hk:R.length=k) (hB:Below w.heap.size w wB)
  (hR:∀ p∈R,p.2.ok wB∧p.2.frm w.heap.size∧∀ b,vo.ownBlock=some b→p.2.off b) (hs:R.map sigM=(L.take k).map sigM) (hrow:∀ b,vo.ownBlock=some b→w.heap.size≤b)
  {p:Mo} (hp:L[k]?=some p) (r:RatV) (hr:r.ok wB) (hf:r.frm w.heap.size) (hro:∀ b,vo.ownBlock=some b→r.off b) (hrn:r.n=p.2.n∧r.m=p.2.m∧r.val=p.2.val) {gb cap:Nat}
  (hown:w1.ownsRow w.heap.size 76 4 (.slice (some ⟨gb,0,none⟩) (R.length+1) cap) (R.length+1) (xX9 R ++ cells4 (p.1,r))) (hg:wB.grownBy w1 vo.ownBlock) (hat:vo.ownBlock=some gb∨gb=wB.heap.size) :
  CpF w L (k+1) (.slice (some ⟨gb,0,none⟩) (R.length+1) cap) w1:=by
 have hoff:∀ x:RatV,x.ok wB→(∀ b,vo.ownBlock=some b→x.off b)→∀ b,(Value.slice (some ⟨gb,0,none⟩) (R.length+1) cap).ownBlock=some b→x.off b:=by
  intro x hx ho b hb
  have:gb=b:=by simpa [Value.ownBlock] using hb
  subst this
  rcases hat with h | h
  ·exact ho _ h
  ·exact hx.off (by omega)
 refine ⟨R ++ [(p.1,r)],by simp [hk],own_push hown,hB.trans (xX0 hB.size hrow hg),fun q hq=>?_,?_⟩
 ·rcases List.mem_append.1 hq with hq | hq
  ·obtain ⟨h1,h2,h3⟩:=hR q hq
   exact ⟨h1.grown hg h3,h2,hoff _ h1 h3⟩
  ·obtain rfl:=List.mem_singleton.1 hq
   exact ⟨hr.grown hg hro,hf,hoff _ hr hro⟩
 ·rw [take_snoc hp,List.map_append,List.map_append,hs]
  simp only [List.map_cons,List.map_nil,sigM,hrn.1,hrn.2.1,hrn.2.2]
theorem CpF.done {w:World} {L:List Mo} {vo:Value} {wr:World} (h:CpF w L L.length vo wr):∃ F:FV,vo=F.val∧F.ok wr∧F.frm w.heap.size∧F.L.map sigM=L.map sigM∧(F.a=none→F.c=0)∧Below w.heap.size w wr:=by
 obtain ⟨R,hk,hO,hB,hR,hs⟩:=h
 rw [List.take_length] at hs
 obtain ⟨a,c,e,hS⟩:=Sl.of hO
 refine ⟨⟨a,c,R⟩,e,⟨hS.lies,fun p hp=>(hR p hp).1,hS.len⟩,⟨fun hn ad ea=>?_,fun p hp=>(hR p hp).2.1⟩,hs,hS.nn,hB⟩
 have ea:a=some ad:=ea
 subst ea
 have e2:vo.ownBlock=some ad.block:=by rw [e];rfl
 exact (hO.lt _ e2).1
def FCp (w:World) (F:FV) (e:Ending) (w':World):Prop :=
 ∃ G:FV,e=.returned G.val∧G.ok w'∧G.frm w.heap.size∧G.L.map sigM=F.L.map sigM∧(G.a=none→G.c=0)∧Below w.heap.size w w'
set_option maxHeartbeats 8000000 in
set_option maxRecDepth 100000 in
theorem memForm_is (X:FV) (w:World) (hX:X.ok w) (hm:X.L.length≤1048576) :
  Calls Tryz.prog 21 #[X.val] w (FCp w X):=by
 obtain ⟨a,c,L⟩:=X
 obtain ⟨hF,hok,hc⟩:=hX
 simp only at hF hok hc hm
 unfold FV.val
 simp only
 obtain ⟨i0,hi0,hz0,hz1,hz2⟩:=info_parts info_Mono
 obtain ⟨TT,hTT⟩:∃ TT,FCp w ⟨a,c,L⟩=TT:=⟨_,rfl⟩
 rw [hTT]
 replace hTT:=xQ2 hTT
 go_enter Tryz.func21,Tryz.ntmps21
 go_wp2_with fail
 go_loopw [3,4] (fun vo vi wr=>∃ k:Nat,k≤L.length∧vi=.int .i64 k∧CpF w L k vo wr) (fun _ vi _=>L.length - (intOf vi).toNat)
 case atStart=>exact ⟨0,Nat.zero_le _,rfl,CpF.nil _ _⟩
 case round =>
  obtain ⟨k,hk,rfl,hI⟩:=hrel
  by_cases hlt:k < L.length
  ·obtain ⟨p,hp⟩:∃ p,L[k]?=some p:=⟨L[k],List.getElem?_eq_getElem hlt⟩
   obtain ⟨bb,off,rfl,hbb,hcell⟩:=hF (by intro e;rw [e] at hlt;simp at hlt)
   obtain ⟨R,hRk,hO,hB,hR,hs⟩:=hI
   obtain ⟨d0,d1,d2,d3⟩:=hcell k p hp
   have h1:=hok p (List.mem_of_getElem? hp)
   replace d0:=xQ0 hB d0
   replace d1:=xQ0 hB d1
   replace d2:=xQ0 hB d2
   replace d3:=xQ0 hB d3
   have GR:=xQ2 (fun w' (hb:Below w.heap.size w w')=>memRat_is p.2.s p.2.a p.2.n p.2.c p.2.X p.2.b p.2.m p.2.e p.2.Y w' h1.2.1 (by have:=h1.2.2.1;omega) (h1.later hb).1 h1.2.2.2.2.1 (by have:=h1.2.2.2.2.2;omega) (h1.later hb).2.2.2.1)
   have PU:=xQ2 (fun (w2 w9:World) (hb:Below wr.heap.size wr w2) r=>@CpF.push w L k u3 w2 w9 R hRk (hB.trans (hb.mono hB.size)) (fun q hq=>⟨(hR q hq).1.later hb,(hR q hq).2⟩) hs (fun b hb=>(hO.lt b hb).1) p hp r)
   have HR:=xQ2 hRk
   have HP:=xQ2 (show p.2.n≤35184372087808∧p.2.m≤35184372087808 from ⟨h1.2.2.1,h1.2.2.2.2.2⟩)
   have hrow:=fun k hk=>(hO.lt k hk)
   have j0:(0:Int)≤(k:Int):=by omega
   have j1:(k:Int) < (L.length:Int):=by omega
   obtain ⟨x,q⟩:=p
   simp only at d0 d1 d2 d3 GR PU HP
   clear hcell hF hok h1 hp hR hs hRk
   go_wp2_with fail
   have bT:Below wr.heap.size wr wr:=Below.refl _ _
   have bD:Below wr.heap.size wr wr.drew:=(Below.refl _ _).drew
   have kd0:=xQ0 bD d0
   have kd1:=xQ0 bD d1
   have kd2:=xQ0 bD d2
   have kd3:=xQ0 bD d3
   replace bT:=bT.trans (bD.mono bT.size)
   refine wp_region_held_drew (S:=fun w'=>w'.cell? ⟨bb,off+k*4,none⟩=some (.int .i64 x)∧w'.cell? ⟨bb,off+k*4+1,none⟩=some (.bool q.s)∧w'.cell? ⟨bb,off+k*4+1+1,none⟩=some (.slice q.a q.n q.c)∧w'.cell? ⟨bb,off+k*4+1+2,none⟩=some (.slice q.b q.m q.e)) (by kernel_rfl) ⟨kd0,kd1,kd2,kd3⟩ (fun hHeld=>?_)
   clear kd0 kd1 kd2 kd3
   generalize wr.drew=w1 at bD bT hHeld ⊢
   clear bD d0 d1 d2 d3
   refine tk 0 (v:=?_) rfl (Or.inl ⟨by rfl,?_⟩) ?_
   rotate_left
   ·intro w9 hSw
    go_simp
    try with_reducible rfl
   simp only [pA]
   refine tk 1 (v:=?_) rfl (Or.inl ⟨by rfl,?_⟩) ?_
   rotate_left
   ·intro w9 hSw
    go_simp
    try with_reducible rfl
   simp only [pA]
   refine tk 2 (v:=?_) rfl (Or.inl ⟨by rfl,?_⟩) ?_
   rotate_left
   ·intro w9 hSw
    go_simp
    try with_reducible rfl
   simp only [pA]
   refine tk 3 (v:=?_) rfl (Or.inl ⟨by rfl,?_⟩) ?_
   rotate_left
   ·intro w9 hSw
    go_simp
    try with_reducible rfl
   simp only [pA]
   refine tk 4 (v:=?_) rfl (Or.inl ⟨by rfl,?_⟩) ?_
   rotate_left
   ·intro w9 hSw
    go_simp
    try with_reducible rfl
   simp only [pA]
   refine tk 5 (v:=?_) rfl (Or.inl ⟨by rfl,?_⟩) ?_
   rotate_left
   ·intro w9 hSw
    go_simp
    try with_reducible rfl
   simp only [pA]
   refine tk 6 (v:=?_) rfl (Or.inl ⟨by rfl,?_⟩) ?_
   rotate_left
   ·intro w9 hSw
    go_simp
    try with_reducible rfl
   simp only [pA]
   refine tk 7 (v:=?_) rfl (Or.inl ⟨by rfl,?_⟩) ?_
   rotate_left
   ·intro w9 hSw
    go_simp
    try with_reducible rfl
   simp only [pA]
   refine tk 8 (v:=?_) rfl (Or.inl ⟨by rfl,?_⟩) ?_
   rotate_left
   ·intro w9 hSw
    go_simp
    try with_reducible rfl
   simp only [pA]
   refine tk 9 (v:=?_) rfl (Or.inl ⟨by rfl,?_⟩) ?_
   rotate_left
   ·intro w9 hSw
    go_simp
    try with_reducible rfl
   simp only [pA]
   refine tk 10 (v:=?_) rfl (Or.inl ⟨by rfl,?_⟩) ?_
   rotate_left
   ·intro w9 hSw
    go_simp
    try with_reducible rfl
   simp only [pA]
   have sw1:=bT.size
   refine wpAnyH_ready (rs:=[11]) (by kernel_rfl) (by simp) ?_
   refine xX1 rfl (fun KK hKK=>?_)
   go_simp
   refine (GR.out _ (hB.trans (bT.mono hB.size))).mono ?_
   rintro e w2 ⟨p1,c1,q1,c2,rfl,u1,u2,n1,n2⟩
   have bC:=n1.below
   replace bT:=bT.trans (bC.mono bT.size)
   replace hHeld:=(⟨xQ0 bC hHeld.1,xQ0 bC hHeld.2.1,xQ0 bC hHeld.2.2.1,xQ0 bC hHeld.2.2.2⟩:_∧_∧_∧_)
   clear bC
   go_wp2_with fail
   have g1:=n1.seg
   have g2:=n2.seg
   have f1:=n1.fr
   have f2:=n2.fr
   clear n1 n2
   refine hKK.out _ _ hHeld ?_
   clear hHeld
   intro hHeld
   clear hKK KK
   try simp only [pA]
   refine tk 12 (v:=?_) rfl (Or.inl ⟨by rfl,?_⟩) ?_
   rotate_left
   ·intro w9 hSw
    go_simp
    try with_reducible rfl
   simp only [pA]
   refine wpAnyH_ready (rs:=[13]) (by kernel_rfl) (by simp) ?_
   refine xX1 rfl (fun KK hKK=>?_)
   go_simp
   have hnew:=heap_alloc_new w2 (.cells #[.int .i64 x,.bool q.s,.slice p1 q.n c1,.slice q1 q.m c2] 76)
   have b3:=xQ1 (w:=w2) (.cells #[.int .i64 x,.bool q.s,.slice p1 q.n c1,.slice q1 q.m c2] 76)
   generalize w2.alloc (.cells #[.int .i64 x,.bool q.s,.slice p1 q.n c1,.slice q1 q.m c2] 76)=w3 at hnew b3 ⊢
   replace bT:=bT.trans (b3.mono bT.size)
   replace g1:=g1.later b3
   replace g2:=g2.later b3
   replace hHeld:=(⟨xQ0 b3 hHeld.1,xQ0 b3 hHeld.2.1,xQ0 b3 hHeld.2.2.1,xQ0 b3 hHeld.2.2.2⟩:_∧_∧_∧_)
   refine hKK.out _ _ hHeld ?_
   clear hHeld
   intro hHeld
   clear hKK KK
   try simp only [pA]
   have hO3:=xQ6 hO bT
   have s3:=bT.size
   have sB:=hB.size
   have hRl:R.length≤1048576:=by have:=HR.out;omega
   refine wpAnyH_ready (rs:=[14]) (by kernel_rfl) (by simp) ?_
   refine xX1 rfl (fun KK hKK=>?_)
   refine step_append_lies _ (by rfl) _ _ _ (by rfl) w.heap.size 76 i0 _ 4 64 Tryz.underlying35 hi0 hz0 hz1 hz2 rfl (by omega) u3 R.length (xX9 R) (by rfl) hO3 ⟨w2.heap.size,0,none⟩ 1 1 [.int .i64 x,.bool q.s,.slice p1 q.n c1,.slice q1 q.m c2] (by rfl) (by rfl) (World.news_of_block (cs:=#[.int .i64 x,.bool q.s,.slice p1 q.n c1,.slice q1 q.m c2]) (t:=76) (fr:=(0,0)) hnew) (by simp [Value.oneCell']) (by omega) (by simp only [maxLen];omega) (by omega) (by omega) w3.heap.size rfl ?_
   intro gb cap w4 hown4 hgrow hat hlt4
   have far:∀ {c o:Nat} {u:Value},c < w.heap.size→w3.cell? ⟨c,o,none⟩=some u→w4.cell? ⟨c,o,none⟩=some u:=fun hc hu=>hgrow.cell hu (fun e=>by have:=hrow _ e.symm;simp only at this;omega)
   have I1:=xQ2 (PU.out w3 w4 bT ⟨q.s,p1,q.n,c1,q.X,q1,q.m,c2,q.Y⟩ ⟨g1,u1,Nat.le_trans HP.out.1 (by omega),g2,u2,Nat.le_trans HP.out.2 (by omega)⟩ ⟨fun hn ad e=>Nat.le_trans (by omega) (f1 hn ad e),fun hn ad e=>Nat.le_trans (by omega) (f2 hn ad e)⟩ (fun b hb=>⟨fun hn ad e=>by have h1:=f1 hn ad e;have h2:=(hrow b hb).2;omega,fun hn ad e=>by have h1:=f2 hn ad e;have h2:=(hrow b hb).2;omega⟩) ⟨rfl,rfl,rfl⟩ hown4 hgrow hat)
   refine hKK.out _ _ ⟨far hbb hHeld.1,far hbb hHeld.2.1,far hbb hHeld.2.2.1,far hbb hHeld.2.2.2⟩ ?_
   clear hHeld far hO3 hnew b3 g1 g2 f1 f2 hgrow hown4 hat hlt4 PU
   intro hHeld
   clear hKK KK
   try simp only [pA]
   refine tk 15 (v:=?_) rfl (Or.inl ⟨by rfl,?_⟩) ?_
   rotate_left
   ·intro w9 hSw
    go_simp
    try with_reducible rfl
   simp only [pA]
   refine wpAnyH_done (by kernel_rfl) ?_ _
   go_wp2
   go_roundw
   case rel=>exact ⟨k+1,by omega,by go_num,I1.out⟩
   case measure=>simp [intOf];omega
  ·obtain rfl:k=L.length:=by omega
   have i1:¬ (L.length:Int) < (L.length:Int):=by omega
   obtain ⟨G,rfl,hG,hfr,hsg,hnn,hB⟩:=hI.done
   have HG:=xQ2 (show FCp w ⟨a,c,L⟩ (.returned G.val) wr from ⟨G,rfl,hG,hfr,hsg,hnn,hB⟩)
   rw [hTT.out] at HG
   clear hI hG hfr hsg hnn hB hF hok
   go_wp2
   first | exact HG.out | (go_ret;exact HG.out)
def sgR (r:RowV):Int × List (Int × Rat × Nat × Nat):=(r.1,r.2.L.map sigM)
theorem sgR_tb {S R:List RowV} (h:S.map sgR=R.map sgR):tb S=tb R:=by
 have h1:=congrArg (List.map fun s:Int × List (Int × Rat × Nat × Nat)=>(s.1,s.2.map fun t=>(t.1,t.2.1))) h
 simp only [List.map_map] at h1
 have e:∀ r:RowV,((fun s:Int × List (Int × Rat × Nat × Nat)=>(s.1,s.2.map fun t=>(t.1,t.2.1))) ∘ sgR) r=(r.1,r.2.fo):=fun r=>by
  show (r.1,(r.2.L.map sigM).map fun t=>(t.1,t.2.1))=_
  rw [List.map_map]
  rfl
 rw [show ((fun s:Int × List (Int × Rat × Nat × Nat)=>(s.1,s.2.map fun t=>(t.1,t.2.1))) ∘ sgR)=fun r:RowV=>(r.1,r.2.fo) from funext e] at h1
 exact h1
theorem sgR_bul:∀ {S R:List RowV},S.map sgR=R.map sgR→bulT S=bulT R
 | [],[],_=>rfl
 | [],q :: M,h=>by simp at h
 | p :: L,[],h=>by simp at h
 | p :: L,q :: M,h=>by
  simp only [List.map_cons,List.cons.injEq] at h
  have h1:=sgR_bul h.2
  have h2:=h.1
  simp only [sgR,Prod.mk.injEq] at h2
  simp only [bulT,h1,sig_bul h2.2]
theorem sgR_length {S R:List RowV} (h:S.map sgR=R.map sgR):S.length=R.length:=by simpa using congrArg List.length h
theorem sgR_mem {S R:List RowV} (h:S.map sgR=R.map sgR) {s:RowV} (hs:s∈S):∃ r∈R,s.1=r.1∧s.2.fo=r.2.fo:=by
 have h1:sgR s∈R.map sgR:=by rw [←h];exact List.mem_map.2 ⟨s,hs,rfl⟩
 obtain ⟨r,hr,e⟩:=List.mem_map.1 h1
 simp only [sgR,Prod.mk.injEq] at e
 exact ⟨r,hr,e.1.symm,sig_fo e.2.symm⟩
def TwA (w:World) (V:Int) (R:List RowV) (e:Ending) (w':World):Prop :=
 ∃ (S:List RowV) (a:Option Addr) (c:Nat),e=.returned (.agg #[.int .i64 V,.slice a S.length c])∧Below w.heap.size w w'∧TIn w' a S∧S.length≤c∧S.map sgR=R.map sgR
theorem FV.ok.setq {w:World} {F:FV} {q o:Nat} {u:Value} (h:F.ok w) (hf:F.off q):F.ok (w.setCell ⟨q,o,none⟩ u) :=
 h.grown (row:=some q) ⟨rfl,rfl,rfl,by simp [World.setCell],fun i hi hne=>Below.heap_setCell _ _ _ _ (fun e=>hne (by rw [e]))⟩ fun g e=>by injection e with e;subst e;exact hf
structure TwM (w w2:World) (q:Nat) (V:Int) (R:List RowV) (k:Nat) (S:List RowV) (vo:Value) (wr:World):Prop where
 tol:ToI w w2 q V S S.length vo wr
 nk:∀ r∈S,r.2.ok wr∧r.2.frm w2.heap.size∧∀ b,vo.ownBlock=some b→r.2.off b
 sg:S.map sgR=(R.take k).map sgR
theorem TwM.push {w w2:World} {q:Nat} {V:Int} {R S:List RowV} {k:Nat} {vo:Value} {wr wB w9:World} (h:TwM w w2 q V R k S vo wr) (hq:w.heap.size≤q∧q < w2.heap.size) (hw:w.heap.size≤w2.heap.size) (hb:Below wr.heap.size wr wB)
  {v:Int} {X F:FV} (hm:R[k]?=some (v,X)) (he:F.L.map sigM=X.L.map sigM) (hF:F.ok wB) (hFf:F.frm wr.heap.size) {gb cap:Nat}
  (hown:w9.ownsRow w2.heap.size 65 2 (.slice (some ⟨gb,0,none⟩) (S.length+1) cap) (S.length+1) (xJ4 S ++ cells2 (v,F))) (hg:wB.grownBy w9 vo.ownBlock) (hat:vo.ownBlock=some gb∨gb=wB.heap.size) :
  w9.cell? ⟨q,1,none⟩=some vo∧Row w9 q∧TwM w w2 q V R (k+1) (S ++ [(v,F)]) (.slice (some ⟨gb,0,none⟩) (S.length+1) cap) (w9.setCell ⟨q,1,none⟩ (.slice (some ⟨gb,0,none⟩) (S.length+1) cap)):=by
 have hl:(S ++ [(v,F)]).length=S.length+1:=by simp
 have e1:(S ++ [(v,F)]).take S.length=S:=by simp
 have hat2:(S ++ [(v,F)])[S.length]?=some (v,F):=by simp
 obtain ⟨p1,p2,p3⟩:=(h.tol.congr (S':=S ++ [(v,F)]) (by rw [e1,List.take_length])).push hq hw hb hat2 (by rw [e1];exact hown) hg
 have hlt:=fun j (hj:vo.ownBlock=some j)=>h.tol.own.lt j hj
 have hsz:=h.tol.but.size
 have hall:∀ G:FV,G.ok wB→G.frm w2.heap.size→(∀ b,vo.ownBlock=some b→G.off b)→G.ok (w9.setCell ⟨q,1,none⟩ (.slice (some ⟨gb,0,none⟩) (S.length+1) cap))∧G.frm w2.heap.size∧∀ b,(Value.slice (some ⟨gb,0,none⟩) (S.length+1) cap).ownBlock=some b→G.off b:=by
  intro G hG hGf hGo
  refine ⟨(hG.grown hg hGo).setq (hGf.off hq.2),hGf,fun b hb2=>?_⟩
  have:gb=b:=by simpa [Value.ownBlock] using hb2
  subst this
  rcases hat with h | h
  ·exact hGo _ h
  ·exact hG.off (by omega)
 refine ⟨p1,p2,by rw [hl];exact p3,fun r hr=>?_,?_⟩
 ·rcases List.mem_append.1 hr with hr | hr
  ·obtain ⟨a1,a2,a3⟩:=h.nk r hr
   exact hall _ (a1.later hb) a2 a3
  ·rw [List.mem_singleton.1 hr]
   exact hall F hF (hFf.mono hsz) fun b hb2=>hFf.off (hlt b hb2).2
 ·rw [take_snoc hm,List.map_append,List.map_append,h.sg]
  simp only [List.map_cons,List.map_nil,sgR,he]
set_option maxHeartbeats 16000000 in
set_option maxRecDepth 100000 in
theorem twin_is (V:Int) (a:Option Addr) (c:Nat) (R:List RowV) (w:World) (hT:TIn w a R) (hc:R.length≤c) (hbu:bulT R≤2097152) :
  Calls Tryz.prog 13 #[.agg #[.int .i64 V,.slice a R.length c]] w (TwA w V R):=by
 obtain ⟨i0,hi0,hz0,hz1,hz2⟩:=info_parts info_Row
 obtain ⟨TQ,hTQ⟩:∃ TQ,TwA w V R=TQ:=⟨_,rfl⟩
 rw [hTQ]
 replace hTQ:=xQ2 hTQ
 have hlen:R.length≤1048576:=by have:=bulT_len R;omega
 have GN:=xQ2 (fun r (hr:r∈R) w' (hb:Below w.heap.size w w')=>memForm_is r.2 w' ((hT.forms r hr).later hb) (by have:=bulT_mem hr;have:=bul_len r.2.L;omega))
 have HAt:=xQ2 hT.at_
 have HWf:=xQ2 hT.wf
 clear hT
 have b1:=xQ1 (w:=w) (.cells #[.int .i64 V,.slice a R.length c] 24)
 have b2:=xQ1 (w:=w.alloc (.cells #[.int .i64 V,.slice a R.length c] 24)) (.cells #[.int .i64 0,.slice none 0 0] 24)
 have b3:=xQ1 (w:=(w.alloc (.cells #[.int .i64 V,.slice a R.length c] 24)).alloc (.cells #[.int .i64 0,.slice none 0 0] 24)) (.cells #[.int .i64 V,.slice none 0 0] 24)
 have hsz:(((w.alloc (.cells #[.int .i64 V,.slice a R.length c] 24)).alloc (.cells #[.int .i64 0,.slice none 0 0] 24)).alloc (.cells #[.int .i64 V,.slice none 0 0] 24)).heap.size=w.heap.size+1+1+1:=by simp
 have m0:(((w.alloc (.cells #[.int .i64 V,.slice a R.length c] 24)).alloc (.cells #[.int .i64 0,.slice none 0 0] 24)).alloc (.cells #[.int .i64 V,.slice none 0 0] 24)).cell? ⟨w.heap.size,0,none⟩=some (.int .i64 V):=by go_simp
 have m1:(((w.alloc (.cells #[.int .i64 V,.slice a R.length c] 24)).alloc (.cells #[.int .i64 0,.slice none 0 0] 24)).alloc (.cells #[.int .i64 V,.slice none 0 0] 24)).cell? ⟨w.heap.size,1,none⟩=some (.slice a R.length c):=by go_simp
 have z0:(((w.alloc (.cells #[.int .i64 V,.slice a R.length c] 24)).alloc (.cells #[.int .i64 0,.slice none 0 0] 24)).alloc (.cells #[.int .i64 V,.slice none 0 0] 24)).cell? ⟨w.heap.size+1,0,none⟩=some (.int .i64 0):=by go_simp
 have z1:(((w.alloc (.cells #[.int .i64 V,.slice a R.length c] 24)).alloc (.cells #[.int .i64 0,.slice none 0 0] 24)).alloc (.cells #[.int .i64 V,.slice none 0 0] 24)).cell? ⟨w.heap.size+1,1,none⟩=some (.slice none 0 0):=by go_simp
 have c0:(((w.alloc (.cells #[.int .i64 V,.slice a R.length c] 24)).alloc (.cells #[.int .i64 0,.slice none 0 0] 24)).alloc (.cells #[.int .i64 V,.slice none 0 0] 24)).cell? ⟨w.heap.size+1+1,0,none⟩=some (.int .i64 V):=by go_simp
 have c1:(((w.alloc (.cells #[.int .i64 V,.slice a R.length c] 24)).alloc (.cells #[.int .i64 0,.slice none 0 0] 24)).alloc (.cells #[.int .i64 V,.slice none 0 0] 24)).cell? ⟨w.heap.size+1+1,1,none⟩=some (.slice none 0 0):=by go_simp
 have rz:Row (((w.alloc (.cells #[.int .i64 V,.slice a R.length c] 24)).alloc (.cells #[.int .i64 0,.slice none 0 0] 24)).alloc (.cells #[.int .i64 V,.slice none 0 0] 24)) (w.heap.size+1):=by have:=xQ3 b3 (xQ9 (w.alloc (.cells #[.int .i64 V,.slice a R.length c] 24)) #[.int .i64 0,.slice none 0 0] 24);simpa using this
 have rq:Row (((w.alloc (.cells #[.int .i64 V,.slice a R.length c] 24)).alloc (.cells #[.int .i64 0,.slice none 0 0] 24)).alloc (.cells #[.int .i64 V,.slice none 0 0] 24)) (w.heap.size+1+1):=by have:=xQ9 ((w.alloc (.cells #[.int .i64 V,.slice a R.length c] 24)).alloc (.cells #[.int .i64 0,.slice none 0 0] 24)) #[.int .i64 V,.slice none 0 0] 24;simpa using this
 have hBw:=b1.trans ((b2.trans (b3.mono b2.size)).mono b1.size)
 clear b1 b2 b3
 go_enter Tryz.func13,Tryz.ntmps13
 go_wp2_with fail
 obtain ⟨w2,hw2⟩:∃ w2,(((w.alloc (.cells #[.int .i64 V,.slice a R.length c] 24)).alloc (.cells #[.int .i64 0,.slice none 0 0] 24)).alloc (.cells #[.int .i64 V,.slice none 0 0] 24))=w2:=⟨_,rfl⟩
 rw [hw2] at m0 m1 z0 z1 c0 c1 rz rq hBw hsz ⊢
 clear hw2
 obtain ⟨q,hq⟩:∃ q,w.heap.size+1+1=q:=⟨_,rfl⟩
 rw [hq] at c0 c1 rq hsz
 try rw [hq]
 obtain ⟨rb,hrb⟩:∃ rb,w.heap.size+1=rb:=⟨_,rfl⟩
 rw [hrb] at z0 z1 rz hq
 try rw [hrb]
 have HQ:=xQ2 (show (w.heap.size≤q∧q < w2.heap.size)∧w.heap.size≤w2.heap.size∧w.heap.size≠q∧w.heap.size≤rb∧rb≠q∧rb < w2.heap.size by omega)
 clear hq hrb hsz
 have I0:TwM w w2 q V R 0 [] (.slice none 0 0) w2:=⟨⟨hBw,But.refl _ _,World.ownsRow_nil _ _ _ _,c0,c1,rq⟩,fun r hr=>absurd hr (by simp),rfl⟩
 have HZ:=xQ2 (show w2.cell? ⟨rb,0,none⟩=some (.int .i64 0)∧w2.cell? ⟨rb,1,none⟩=some (.slice none 0 0)∧Row w2 rb from ⟨z0,z1,rz⟩)
 have HM0:=xQ2 m0
 have HM1:=xQ2 m1
 clear c0 c1 rq z0 z1 rz hBw m0 m1
 go_loopw [4] (fun vi wr=>∃ (k:Nat) (S:List RowV) (vo:Value),k≤R.length∧vi=.int .i64 k∧TwM w w2 q V R k S vo wr) (fun vi _=>R.length - (intOf vi).toNat)
 case atStart=>exact ⟨0,[],_,Nat.zero_le _,rfl,I0⟩
 case round =>
  clear I0
  obtain ⟨k,S,vo,hk,rfl,hI⟩:=hrel
  have hown:=hI.tol.own
  have eS:S.take S.length=S:=List.take_length
  rw [eS] at hown
  clear eS
  obtain ⟨ar,cr,rfl,hcr,hcm,hTA⟩:=own_tab hown
  have c0:=hI.tol.c0
  have c1:=hI.tol.c1
  have m0:=hI.tol.but.cell HM0.out HQ.out.2.2.1
  have m1:=hI.tol.but.cell HM1.out HQ.out.2.2.1
  have hBr:=hI.tol.bel
  have hSk:S.length≤1048576:=by have:=congrArg List.length hI.sg;simp only [List.length_map,List.length_take] at this;omega
  by_cases hlt:k < R.length
  ·obtain ⟨s9,hs9⟩:∃ r,R[k]?=some r:=⟨R[k],List.getElem?_eq_getElem hlt⟩
   have hsm:=List.mem_of_getElem? hs9
   obtain ⟨bb,off,rfl,hbb,hcell⟩:=HAt.out (by intro e;rw [e] at hlt;simp at hlt)
   obtain ⟨d0,d1⟩:=hcell k s9 hs9
   replace d0:=xQ0 hBr d0
   replace d1:=xQ0 hBr d1
   have G1:=xQ2 (GN.out s9 hsm)
   have HOw:=xQ2 hown
   have HI:=xQ2 hI
   have PU:=xQ2 (fun wB w9 (hb:Below wr.heap.size wr wB) F he hF hFf gb cap hown hg hat=>HI.out.push (wB:=wB) (w9:=w9) (gb:=gb) (cap:=cap) (v:=s9.1) (X:=s9.2) (F:=F) HQ.out.1 HQ.out.2.1 hb hs9 he hF hFf hown hg hat)
   have hlt9:=fun j hj=>(HOw.out.lt j hj)
   have hbq:bb≠q∧w.heap.size≠q:=by have:=HQ.out;omega
   obtain ⟨x,X⟩:=s9
   obtain ⟨Xa,Xc,XL⟩:=X
   unfold FV.val at d1
   simp only at d0 d1 G1 PU
   try unfold FV.val at G1
   have i1:(0:Int)≤(k:Int):=by omega
   have i2:(k:Int) < (R.length:Int):=by omega
   clear hcell hs9 GN HAt hsm hI hTA hown
   go_wp2_with fail
   have bT:Below wr.heap.size wr wr:=Below.refl _ _
   have bD:Below wr.heap.size wr wr.drew:=(Below.refl _ _).drew
   have km0:=xQ0 bD m0
   have km1:=xQ0 bD m1
   have kd0:=xQ0 bD d0
   have kd1:=xQ0 bD d1
   replace bT:=bT.trans (bD.mono bT.size)
   refine wp_region_held_drew (S:=fun w'=>w'.cell? ⟨w.heap.size,0,none⟩=some (.int .i64 V)∧w'.cell? ⟨w.heap.size,1,none⟩=some (.slice (some ⟨bb,off,none⟩) R.length c)∧w'.cell? ⟨bb,off+k*2,none⟩=some (.int .i64 x)∧w'.cell? ⟨bb,off+k*2+1,none⟩=some (.slice Xa XL.length Xc)) (by kernel_rfl) ⟨km0,km1,kd0,kd1⟩ (fun hHeld=>?_)
   clear km0 km1 kd0 kd1
   generalize wr.drew=w4 at bD bT hHeld ⊢
   clear bD m0 m1 d0 d1
   refine tk 0 (v:=?_) rfl (Or.inl ⟨by rfl,?_⟩) ?_
   rotate_left
   ·intro w9 hSw
    go_simp
    try with_reducible rfl
   simp only [pA]
   refine tk 2 (v:=?_) rfl (Or.inl ⟨by rfl,?_⟩) ?_
   rotate_left
   ·intro w9 hSw
    go_simp
    try with_reducible rfl
   simp only [pA]
   refine tk 3 (v:=?_) rfl (Or.inl ⟨by rfl,?_⟩) ?_
   rotate_left
   ·intro w9 hSw
    go_simp
    try with_reducible rfl
   simp only [pA]
   refine tk 4 (v:=?_) rfl (Or.inl ⟨by rfl,?_⟩) ?_
   rotate_left
   ·intro w9 hSw
    go_simp
    try with_reducible rfl
   simp only [pA]
   refine tk 5 (v:=?_) rfl (Or.inl ⟨by rfl,?_⟩) ?_
   rotate_left
   ·intro w9 hSw
    go_simp
    try with_reducible rfl
   simp only [pA]
   refine tk 6 (v:=?_) rfl (Or.inl ⟨by rfl,?_⟩) ?_
   rotate_left
   ·intro w9 hSw
    go_simp
    try with_reducible rfl
   simp only [pA]
   refine tk 7 (v:=?_) rfl (Or.inl ⟨by rfl,?_⟩) ?_
   rotate_left
   ·intro w9 hSw
    go_simp
    try with_reducible rfl
   simp only [pA]
   refine tk 8 (v:=?_) rfl (Or.inl ⟨by rfl,?_⟩) ?_
   rotate_left
   ·intro w9 hSw
    go_simp
    try with_reducible rfl
   simp only [pA]
   refine tk 9 (v:=?_) rfl (Or.inl ⟨by rfl,?_⟩) ?_
   rotate_left
   ·intro w9 hSw
    go_simp
    try with_reducible rfl
   simp only [pA]
   refine tk 10 (v:=?_) rfl (Or.inl ⟨by rfl,?_⟩) ?_
   rotate_left
   ·intro w9 hSw
    go_simp
    try with_reducible rfl
   simp only [pA]
   refine tk 11 (v:=?_) rfl (Or.inl ⟨by rfl,?_⟩) ?_
   rotate_left
   ·intro w9 hSw
    go_simp
    try with_reducible rfl
   simp only [pA]
   refine tk 12 (v:=?_) rfl (Or.inl ⟨by rfl,?_⟩) ?_
   rotate_left
   ·intro w9 hSw
    go_simp
    try with_reducible rfl
   simp only [pA]
   refine tk 13 (v:=?_) rfl (Or.inl ⟨by rfl,?_⟩) ?_
   rotate_left
   ·intro w9 hSw
    go_simp
    try with_reducible rfl
   simp only [pA]
   refine wpAnyH_ready (rs:=[1,14]) (by kernel_rfl) (by simp) ?_
   refine consT rfl (fun KK hKK=>?_) ?_
   ·skip
    have cq:=xQ0 bT c1
    go_simp
    clear cq
    refine hKK.out _ _ hHeld ?_
    clear hHeld
    intro hHeld
    clear hKK KK
    try simp only [pA]
    refine wpAnyH_ready (rs:=[14]) (by kernel_rfl) (by simp) ?_
    refine xX1 rfl (fun KK hKK=>?_)
    have hs5:=bT.size
    go_simp
    refine (G1.out _ (hBr.trans (bT.mono hBr.size))).mono ?_
    rintro e w5 ⟨⟨Fa,Fc,FL⟩,rfl,hFk,hFf,hfo,hnn,bN⟩
    have bC:=bN
    replace bT:=bT.trans (bC.mono bT.size)
    replace hHeld:=(⟨xQ0 bC hHeld.1,xQ0 bC hHeld.2.1,xQ0 bC hHeld.2.2.1,xQ0 bC hHeld.2.2.2⟩:_∧_∧_∧_)
    clear bC
    go_wp2_with fail
    replace hFf:=hFf.mono hs5
    clear bN hs5 hnn
    unfold FV.val
    simp only
    refine hKK.out _ _ hHeld ?_
    clear hHeld
    intro hHeld
    clear hKK KK
    try simp only [pA]
    refine tk 15 (v:=?_) rfl (Or.inl ⟨by rfl,?_⟩) ?_
    rotate_left
    ·intro w9 hSw
     go_simp
     try with_reducible rfl
    simp only [pA]
    refine wpAnyH_ready (rs:=[16]) (by kernel_rfl) (by simp) ?_
    refine xX1 rfl (fun KK hKK=>?_)
    go_simp
    have hnew:=heap_alloc_new w5 (.cells #[.int .i64 x,.slice Fa FL.length Fc] 65)
    have b3:=xQ1 (w:=w5) (.cells #[.int .i64 x,.slice Fa FL.length Fc] 65)
    generalize w5.alloc (.cells #[.int .i64 x,.slice Fa FL.length Fc] 65)=w6 at hnew b3 ⊢
    replace bT:=bT.trans (b3.mono bT.size)
    replace hFk:=hFk.later b3
    replace hHeld:=(⟨xQ0 b3 hHeld.1,xQ0 b3 hHeld.2.1,xQ0 b3 hHeld.2.2.1,xQ0 b3 hHeld.2.2.2⟩:_∧_∧_∧_)
    clear b3
    refine hKK.out _ _ hHeld ?_
    clear hHeld
    intro hHeld
    clear hKK KK
    try simp only [pA]
    refine wpAnyH_ready (rs:=[17]) (by kernel_rfl) (by simp) ?_
    refine xX1 rfl (fun KK hKK=>?_)
    have hO3:=xQ6 HOw.out bT
    have s3:=bT.size
    have s4:=HI.out.tol.but.size
    refine step_append_lies _ (by rfl) _ _ _ (by rfl) w2.heap.size 65 i0 _ 2 32 Tryz.underlying22 hi0 hz0 hz1 hz2 rfl (by omega) (.slice ar S.length cr) S.length (xJ4 S) (by rfl) hO3 ⟨w5.heap.size,0,none⟩ 1 1 [.int .i64 x,.slice Fa FL.length Fc] (by rfl) (by rfl) (World.news_of_block (cs:=#[.int .i64 x,.slice Fa FL.length Fc]) (t:=65) (fr:=(0,0)) hnew) (by simp [Value.oneCell']) (by omega) (by simp only [maxLen];omega) (by omega) (by omega) w6.heap.size rfl ?_
    intro gb cap w9 hown4 hgrow hat hlt4
    obtain ⟨p1,p2,p3⟩:=PU.out w6 w9 bT ⟨Fa,Fc,FL⟩ hfo hFk hFf gb cap hown4 hgrow hat
    replace p3:=xQ2 p3
    have far:∀ {b o:Nat} {u:Value},b < w2.heap.size→w6.cell? ⟨b,o,none⟩=some u→w9.cell? ⟨b,o,none⟩=some u:=fun hb hu=>hgrow.cell hu (fun e=>by have:=(hlt9 _ e.symm).1;simp only at this;omega)
    have hh:=HQ.out
    refine hKK.out _ _ ⟨far (by omega) hHeld.1,far (by omega) hHeld.2.1,far (by omega) hHeld.2.2.1,far (by omega) hHeld.2.2.2⟩ ?_
    clear hHeld
    intro hHeld
    clear hKK KK
    try simp only [pA]
    clear hh far hown4 hgrow hat hlt4 hO3 hnew
    refine tk 18 (v:=?_) rfl (Or.inl ⟨by rfl,?_⟩) ?_
    rotate_left
    ·intro w9 hSw
     go_simp
     try with_reducible rfl
    simp only [pA]
    refine wpAnyH_ready (rs:=[19]) (by kernel_rfl) (by simp) ?_
    refine xX1 rfl (fun KK hKK=>?_)
    have fz:=fun o=>p2.frozen o
    clear p2
    have hH2:=(⟨far1 (q:=q) (o:=1) (u:=.slice (some ⟨gb,0,none⟩) (S.length+1) cap) hHeld.1 hbq.2,far1 (q:=q) (o:=1) (u:=.slice (some ⟨gb,0,none⟩) (S.length+1) cap) hHeld.2.1 hbq.2,far1 (q:=q) (o:=1) (u:=.slice (some ⟨gb,0,none⟩) (S.length+1) cap) hHeld.2.2.1 hbq.1,far1 (q:=q) (o:=1) (u:=.slice (some ⟨gb,0,none⟩) (S.length+1) cap) hHeld.2.2.2 hbq.1⟩:_∧_∧_∧_)
    go_simp
    refine hKK.out _ _ hH2 ?_
    clear hHeld
    intro hHeld
    clear hKK KK
    try simp only [pA]
    clear hH2 hHeld fz p1
    refine wpAnyH_done (by kernel_rfl) ?_ _
    go_wp2
    go_roundw
    case rel=>exact ⟨k+1,_,_,by omega,by go_num,p3.out⟩
    case measure=>simp only [intOf];omega
   refine consT rfl (fun KK hKK=>?_) ?_
   ·skip
    have hs5:=bT.size
    go_simp
    refine (G1.out _ (hBr.trans (bT.mono hBr.size))).mono ?_
    rintro e w5 ⟨⟨Fa,Fc,FL⟩,rfl,hFk,hFf,hfo,hnn,bN⟩
    have bC:=bN
    replace bT:=bT.trans (bC.mono bT.size)
    replace hHeld:=(⟨xQ0 bC hHeld.1,xQ0 bC hHeld.2.1,xQ0 bC hHeld.2.2.1,xQ0 bC hHeld.2.2.2⟩:_∧_∧_∧_)
    clear bC
    go_wp2_with fail
    replace hFf:=hFf.mono hs5
    clear bN hs5 hnn
    unfold FV.val
    simp only
    refine hKK.out _ _ hHeld ?_
    clear hHeld
    intro hHeld
    clear hKK KK
    try simp only [pA]
    refine tk 15 (v:=?_) rfl (Or.inl ⟨by rfl,?_⟩) ?_
    rotate_left
    ·intro w9 hSw
     go_simp
     try with_reducible rfl
    simp only [pA]
    refine wpAnyH_ready (rs:=[1,16]) (by kernel_rfl) (by simp) ?_
    refine consT rfl (fun KK hKK=>?_) ?_
    ·skip
     have cq:=xQ0 bT c1
     go_simp
     clear cq
     refine hKK.out _ _ hHeld ?_
     clear hHeld
     intro hHeld
     clear hKK KK
     try simp only [pA]
     refine wpAnyH_ready (rs:=[16]) (by kernel_rfl) (by simp) ?_
     refine xX1 rfl (fun KK hKK=>?_)
     go_simp
     have hnew:=heap_alloc_new w5 (.cells #[.int .i64 x,.slice Fa FL.length Fc] 65)
     have b3:=xQ1 (w:=w5) (.cells #[.int .i64 x,.slice Fa FL.length Fc] 65)
     generalize w5.alloc (.cells #[.int .i64 x,.slice Fa FL.length Fc] 65)=w6 at hnew b3 ⊢
     replace bT:=bT.trans (b3.mono bT.size)
     replace hFk:=hFk.later b3
     replace hHeld:=(⟨xQ0 b3 hHeld.1,xQ0 b3 hHeld.2.1,xQ0 b3 hHeld.2.2.1,xQ0 b3 hHeld.2.2.2⟩:_∧_∧_∧_)
     clear b3
     refine hKK.out _ _ hHeld ?_
     clear hHeld
     intro hHeld
     clear hKK KK
     try simp only [pA]
     refine wpAnyH_ready (rs:=[17]) (by kernel_rfl) (by simp) ?_
     refine xX1 rfl (fun KK hKK=>?_)
     have hO3:=xQ6 HOw.out bT
     have s3:=bT.size
     have s4:=HI.out.tol.but.size
     refine step_append_lies _ (by rfl) _ _ _ (by rfl) w2.heap.size 65 i0 _ 2 32 Tryz.underlying22 hi0 hz0 hz1 hz2 rfl (by omega) (.slice ar S.length cr) S.length (xJ4 S) (by rfl) hO3 ⟨w5.heap.size,0,none⟩ 1 1 [.int .i64 x,.slice Fa FL.length Fc] (by rfl) (by rfl) (World.news_of_block (cs:=#[.int .i64 x,.slice Fa FL.length Fc]) (t:=65) (fr:=(0,0)) hnew) (by simp [Value.oneCell']) (by omega) (by simp only [maxLen];omega) (by omega) (by omega) w6.heap.size rfl ?_
     intro gb cap w9 hown4 hgrow hat hlt4
     obtain ⟨p1,p2,p3⟩:=PU.out w6 w9 bT ⟨Fa,Fc,FL⟩ hfo hFk hFf gb cap hown4 hgrow hat
     replace p3:=xQ2 p3
     have far:∀ {b o:Nat} {u:Value},b < w2.heap.size→w6.cell? ⟨b,o,none⟩=some u→w9.cell? ⟨b,o,none⟩=some u:=fun hb hu=>hgrow.cell hu (fun e=>by have:=(hlt9 _ e.symm).1;simp only at this;omega)
     have hh:=HQ.out
     refine hKK.out _ _ ⟨far (by omega) hHeld.1,far (by omega) hHeld.2.1,far (by omega) hHeld.2.2.1,far (by omega) hHeld.2.2.2⟩ ?_
     clear hHeld
     intro hHeld
     clear hKK KK
     try simp only [pA]
     clear hh far hown4 hgrow hat hlt4 hO3 hnew
     refine tk 18 (v:=?_) rfl (Or.inl ⟨by rfl,?_⟩) ?_
     rotate_left
     ·intro w9 hSw
      go_simp
      try with_reducible rfl
     simp only [pA]
     refine wpAnyH_ready (rs:=[19]) (by kernel_rfl) (by simp) ?_
     refine xX1 rfl (fun KK hKK=>?_)
     have fz:=fun o=>p2.frozen o
     clear p2
     have hH2:=(⟨far1 (q:=q) (o:=1) (u:=.slice (some ⟨gb,0,none⟩) (S.length+1) cap) hHeld.1 hbq.2,far1 (q:=q) (o:=1) (u:=.slice (some ⟨gb,0,none⟩) (S.length+1) cap) hHeld.2.1 hbq.2,far1 (q:=q) (o:=1) (u:=.slice (some ⟨gb,0,none⟩) (S.length+1) cap) hHeld.2.2.1 hbq.1,far1 (q:=q) (o:=1) (u:=.slice (some ⟨gb,0,none⟩) (S.length+1) cap) hHeld.2.2.2 hbq.1⟩:_∧_∧_∧_)
     go_simp
     refine hKK.out _ _ hH2 ?_
     clear hHeld
     intro hHeld
     clear hKK KK
     try simp only [pA]
     clear hH2 hHeld fz p1
     refine wpAnyH_done (by kernel_rfl) ?_ _
     go_wp2
     go_roundw
     case rel=>exact ⟨k+1,_,_,by omega,by go_num,p3.out⟩
     case measure=>simp only [intOf];omega
    refine consT rfl (fun KK hKK=>?_) ?_
    ·skip
     go_simp
     have hnew:=heap_alloc_new w5 (.cells #[.int .i64 x,.slice Fa FL.length Fc] 65)
     have b3:=xQ1 (w:=w5) (.cells #[.int .i64 x,.slice Fa FL.length Fc] 65)
     generalize w5.alloc (.cells #[.int .i64 x,.slice Fa FL.length Fc] 65)=w6 at hnew b3 ⊢
     replace bT:=bT.trans (b3.mono bT.size)
     replace hFk:=hFk.later b3
     replace hHeld:=(⟨xQ0 b3 hHeld.1,xQ0 b3 hHeld.2.1,xQ0 b3 hHeld.2.2.1,xQ0 b3 hHeld.2.2.2⟩:_∧_∧_∧_)
     clear b3
     refine hKK.out _ _ hHeld ?_
     clear hHeld
     intro hHeld
     clear hKK KK
     try simp only [pA]
     refine wpAnyH_ready (rs:=[1]) (by kernel_rfl) (by simp) ?_
     refine xX1 rfl (fun KK hKK=>?_)
     have cq:=xQ0 bT c1
     go_simp
     clear cq
     refine hKK.out _ _ hHeld ?_
     clear hHeld
     intro hHeld
     clear hKK KK
     try simp only [pA]
     refine wpAnyH_ready (rs:=[17]) (by kernel_rfl) (by simp) ?_
     refine xX1 rfl (fun KK hKK=>?_)
     have hO3:=xQ6 HOw.out bT
     have s3:=bT.size
     have s4:=HI.out.tol.but.size
     refine step_append_lies _ (by rfl) _ _ _ (by rfl) w2.heap.size 65 i0 _ 2 32 Tryz.underlying22 hi0 hz0 hz1 hz2 rfl (by omega) (.slice ar S.length cr) S.length (xJ4 S) (by rfl) hO3 ⟨w5.heap.size,0,none⟩ 1 1 [.int .i64 x,.slice Fa FL.length Fc] (by rfl) (by rfl) (World.news_of_block (cs:=#[.int .i64 x,.slice Fa FL.length Fc]) (t:=65) (fr:=(0,0)) hnew) (by simp [Value.oneCell']) (by omega) (by simp only [maxLen];omega) (by omega) (by omega) w6.heap.size rfl ?_
     intro gb cap w9 hown4 hgrow hat hlt4
     obtain ⟨p1,p2,p3⟩:=PU.out w6 w9 bT ⟨Fa,Fc,FL⟩ hfo hFk hFf gb cap hown4 hgrow hat
     replace p3:=xQ2 p3
     have far:∀ {b o:Nat} {u:Value},b < w2.heap.size→w6.cell? ⟨b,o,none⟩=some u→w9.cell? ⟨b,o,none⟩=some u:=fun hb hu=>hgrow.cell hu (fun e=>by have:=(hlt9 _ e.symm).1;simp only at this;omega)
     have hh:=HQ.out
     refine hKK.out _ _ ⟨far (by omega) hHeld.1,far (by omega) hHeld.2.1,far (by omega) hHeld.2.2.1,far (by omega) hHeld.2.2.2⟩ ?_
     clear hHeld
     intro hHeld
     clear hKK KK
     try simp only [pA]
     clear hh far hown4 hgrow hat hlt4 hO3 hnew
     refine tk 18 (v:=?_) rfl (Or.inl ⟨by rfl,?_⟩) ?_
     rotate_left
     ·intro w9 hSw
      go_simp
      try with_reducible rfl
     simp only [pA]
     refine wpAnyH_ready (rs:=[19]) (by kernel_rfl) (by simp) ?_
     refine xX1 rfl (fun KK hKK=>?_)
     have fz:=fun o=>p2.frozen o
     clear p2
     have hH2:=(⟨far1 (q:=q) (o:=1) (u:=.slice (some ⟨gb,0,none⟩) (S.length+1) cap) hHeld.1 hbq.2,far1 (q:=q) (o:=1) (u:=.slice (some ⟨gb,0,none⟩) (S.length+1) cap) hHeld.2.1 hbq.2,far1 (q:=q) (o:=1) (u:=.slice (some ⟨gb,0,none⟩) (S.length+1) cap) hHeld.2.2.1 hbq.1,far1 (q:=q) (o:=1) (u:=.slice (some ⟨gb,0,none⟩) (S.length+1) cap) hHeld.2.2.2 hbq.1⟩:_∧_∧_∧_)
     go_simp
     refine hKK.out _ _ hH2 ?_
     clear hHeld
     intro hHeld
     clear hKK KK
     try simp only [pA]
     clear hH2 hHeld fz p1
     refine wpAnyH_done (by kernel_rfl) ?_ _
     go_wp2
     go_roundw
     case rel=>exact ⟨k+1,_,_,by omega,by go_num,p3.out⟩
     case measure=>simp only [intOf];omega
    exact AllReadyH.nil
   exact AllReadyH.nil
  ·obtain rfl:k=R.length:=by omega
   have j0:¬ (R.length:Int) < (R.length:Int):=by omega
   have hsg:=hI.sg
   rw [List.take_length] at hsg
   have HNk:=xQ2 (fun r hr=>(hI.nk r hr).1)
   have HNf:=xQ2 (fun r hr=>(hI.nk r hr).2.1)
   have HSg:=xQ2 hsg
   have HRW:=xQ2 (fun ad (e:ar=some ad)=>show w2.heap.size≤ad.block from by rw [e] at hown;exact (hown.lt ad.block rfl).1)
   have z0:=hI.tol.but.cell HZ.out.1 HQ.out.2.2.2.2.1
   have z1:=hI.tol.but.cell HZ.out.2.1 HQ.out.2.2.2.2.1
   have zR:Row wr rb:=by obtain ⟨cur,t,hc⟩:=HZ.out.2.2;exact ⟨cur,t,(hI.tol.but.block _ (Array.getElem?_eq_some_iff.1 hc).1 HQ.out.2.2.2.2.1).trans hc⟩
   have fz:=fun o=>zR.frozen o
   have HX:=xQ2 (show TwA w V R (.returned (Value.agg #[.int .i64 V,.slice ar S.length cr])) ((wr.setCell ⟨rb,0,none⟩ (.int .i64 V)).setCell ⟨rb,1,none⟩ (.slice ar S.length cr)) from by
     have hq5:=HQ.out
     have hB:Below w.heap.size w ((wr.setCell ⟨rb,0,none⟩ (.int .i64 V)).setCell ⟨rb,1,none⟩ (.slice ar S.length cr)):=(hI.tol.bel.setCell hq5.2.2.2.1 _).setCell hq5.2.2.2.1 _
     have hne:∀ ad,ar=some ad→S≠[]→ad.block≠rb:=fun ad e _=>by have h1:=HRW.out ad e;omega
     refine ⟨S,ar,cr,rfl,hB,⟨(hTA.far hne).far hne,fun r hr=>?_,fun r hr=>?_⟩,hcr,HSg.out⟩
     ·have h7:=(HNf.out r hr).off hq5.2.2.2.2.2
      exact ((HNk.out r hr).setq h7).setq h7
     ·obtain ⟨r',hr',e1,_⟩:=sgR_mem HSg.out hr
      rw [e1]
      exact HWf.out r' hr')
   rw [hTQ.out] at HX
   clear hI hown hTA zR HRW HNk HNf hsg
   go_wp2
   first | exact HX.out | (refine bodyPost_ret (v:=.agg #[.int .i64 V,.slice ar S.length cr]) (by rw [xQ5 rfl];go_simp) rfl ?_;exact HX.out)
theorem NrmT.snoc {T M:Tb} {V:Int} {g g':Fo} (h:NrmT T M) (hb:∀ r∈T,r.1 < V) (hg:g'=nfm g):NrmT (T ++ [(V,g)]) (M ++ [(V,g')]):=by
 have hlt:∀ r∈M,r.1 < V:=fun r hr=>by
  have h1:=h.same r.1
  rw [lk_of_mem (v:=r.1) (f:=r.2) h.rise.once hr] at h1
  cases hf:lk T r.1 with
  | none=>rw [hf] at h1;cases h1
  | some f=>exact hb (r.1,f) (lk_mem hf)
 refine ⟨List.pairwise_append.2 ⟨h.rise,List.pairwise_singleton _ _,fun a ha b hb2=>?_⟩,fun v=>?_⟩
 ·obtain rfl:=List.mem_singleton.1 hb2
  exact hlt a ha
 ·rw [lk_append,lk_append,h.same,hg]
  cases lk T v with
  | some f=>rfl
  | none =>
   show lk [(V,nfm g)] v=(lk [(V,g)] v).map nfm
   simp only [lk]
   split <;> rfl
theorem rising.snoc {S:List RowV} {V:Int} {F:FV} (h:rising (tb (S ++ [(V,F)]))):rising (S ++ [(V,F)]):=by
 unfold rising at h ⊢
 unfold tb at h
 rw [List.pairwise_map] at h
 exact h
theorem Bk2.grown {w w':World} {row:Option Nat} {c:Nat} {z:Int} {a:Option Addr} {n m:Nat} (h:Bk2 w c z a n m) (hg:w.grownBy w' row) (hne:some c≠row):Bk2 w' c z a n m:=by
 obtain ⟨t,ht⟩:=h
 exact ⟨t,(hg.block c (Array.getElem?_eq_some_iff.1 ht).1 hne).trans ht⟩
theorem TNk.snoc {w w9:World} {base:Nat} {t:TypeId} {v:Value} {S:List RowV} {V:Int} {F:FV} {gb cap:Nat} (hS:∀ r∈S,r.2.nk w∧∀ b,v.ownBlock=some b→r.2.off b) (hw:∀ r∈S,wfI r.1) (hF:F.nk w) (ho:∀ b,v.ownBlock=some b→F.off b) (hV:wfI V)
  (hown:w9.ownsRow base t 2 (.slice (some ⟨gb,0,none⟩) (S.length+1) cap) (S.length+1) (xJ4 S ++ cells2 (V,F))) (hg:w.grownBy w9 v.ownBlock):TNk w9 (some ⟨gb,0,none⟩) (S ++ [(V,F)])∧S.length+1≤cap:=by
 have hl:(S ++ [(V,F)]).length=S.length+1:=by simp
 have e:xJ4 (S ++ [(V,F)])=xJ4 S ++ cells2 (V,F):=by rw [cellsR_append];simp [xJ4]
 have h1:w9.ownsRow base t 2 (.slice (some ⟨gb,0,none⟩) (S.length+1) cap) (S ++ [(V,F)]).length (xJ4 (S ++ [(V,F)])):=by rw [hl,e];exact hown
 obtain ⟨a,c,he,hc,_,hA⟩:=own_tab h1
 rw [hl] at he hc
 injection he with e1 e2 e3
 subst e1 e3
 refine ⟨⟨hA,fun r hr=>?_,fun r hr=>?_⟩,hc⟩
 ·rcases List.mem_append.1 hr with hr | hr
  ·exact (hS r hr).1.grown hg (hS r hr).2
  ·obtain rfl:=List.mem_singleton.1 hr
   exact hF.grown hg ho
 ·rcases List.mem_append.1 hr with hr | hr
  ·exact hw r hr
  ·obtain rfl:=List.mem_singleton.1 hr
   exact hV
set_option maxHeartbeats 16000000 in
set_option maxRecDepth 100000 in
theorem rDefine_is (V:Int) (a:Option Addr) (c:Nat) (R:List RowV) (X:FV) (w:World) (hT:TIn w a R) (hc:R.length≤c) (hw:∀ r∈R,wfo r.2.fo) (hX:X.sm w) (hwX:wfo X.fo) (hb:bulT R+bul X.L≤1048576) :
  Calls Tryz.prog 22 #[.agg #[.int .i64 V,.slice a R.length c],X.val] w (DfA w V (tb R) X.fo R.length):=by
 obtain ⟨i0,hi0,hz0,hz1,hz2⟩:=info_parts info_Row
 obtain ⟨TQ,hTQ⟩:∃ TQ,DfA w V (tb R) X.fo R.length=TQ:=⟨_,rfl⟩
 rw [hTQ]
 replace hTQ:=xQ2 hTQ
 have hlen:3*R.length≤1048576:=by have:=bulT_len R;omega
 have GE:=xQ2 (fun w' (hb9:Below w.heap.size w w')=>rExpressT_is V a c R X w' (hT.later hb9) hc hw (hX.later hb9) hwX hb)
 have GS:=xQ2 (fun w' (hb9:Below w.heap.size w w') (h:mayBe V (tb R))=>rsortedO_is V a c R w' ⟨hT.later hb9,by omega⟩ hc h)
 clear hT hw hX hwX hb
 obtain ⟨f,hf⟩:∃ f,X.fo=f:=⟨_,rfl⟩
 rw [hf] at hTQ GE
 clear hf
 obtain ⟨Xv,hXv⟩:∃ v,X.val=v:=⟨_,rfl⟩
 rw [hXv] at GE ⊢
 clear hXv
 have b1:=xQ1 (w:=w) (.cells #[.int .i64 V,.slice a R.length c] 24)
 have b2:=xQ1 (w:=w.alloc (.cells #[.int .i64 V,.slice a R.length c] 24)) (.cells #[.int .i64 0,.slice none 0 0] 24)
 have m0:((w.alloc (.cells #[.int .i64 V,.slice a R.length c] 24)).alloc (.cells #[.int .i64 0,.slice none 0 0] 24)).cell? ⟨w.heap.size,0,none⟩=some (.int .i64 V):=by go_simp
 have m1:((w.alloc (.cells #[.int .i64 V,.slice a R.length c] 24)).alloc (.cells #[.int .i64 0,.slice none 0 0] 24)).cell? ⟨w.heap.size,1,none⟩=some (.slice a R.length c):=by go_simp
 have k2:Bk2 ((w.alloc (.cells #[.int .i64 V,.slice a R.length c] 24)).alloc (.cells #[.int .i64 0,.slice none 0 0] 24)) (w.heap.size+1) 0 none 0 0:=by have:=Bk2.new (w.alloc (.cells #[.int .i64 V,.slice a R.length c] 24)) 0 none 0 0 24;simpa using this
 have hsz:((w.alloc (.cells #[.int .i64 V,.slice a R.length c] 24)).alloc (.cells #[.int .i64 0,.slice none 0 0] 24)).heap.size=w.heap.size+1+1:=by simp
 have hBw:=b1.trans (b2.mono b1.size)
 clear b1 b2
 go_enter Tryz.func22,Tryz.ntmps22
 go_wp2_with fail
 obtain ⟨wA,hwA⟩:∃ wA,((w.alloc (.cells #[.int .i64 V,.slice a R.length c] 24)).alloc (.cells #[.int .i64 0,.slice none 0 0] 24))=wA:=⟨_,rfl⟩
 rw [hwA] at m0 m1 hBw k2 hsz ⊢
 clear hwA
 obtain ⟨rb,hrb⟩:∃ rb,w.heap.size+1=rb:=⟨_,rfl⟩
 rw [hrb] at k2 hsz
 try rw [hrb]
 have HQ:=xQ2 (show w.heap.size≤rb∧rb < wA.heap.size∧w.heap.size≠rb by omega)
 clear hrb hsz
 refine (GE.out _ hBw).mono ?_
 rintro e w1 ⟨b1,⟨hmb,rfl⟩ | ⟨hmb,hin,rfl⟩ | ⟨hmb,hin,F,rfl,hfo,hnk⟩⟩
 ·skip
  replace m0:=xQ0 b1 m0
  replace m1:=xQ0 b1 m1
  replace k2:=k2.later b1
  replace hBw:=hBw.trans (b1.mono hBw.size)
  have hs1:=b1.size
  clear b1 GE
  have z0:=k2.cell0
  have z1:=k2.cell1
  have fz:=fun o=>k2.row.frozen o
  have HX:=xQ2 (show ∀ w',Below w.heap.size w w'→DfA w V (tb R) f R.length (.returned (.tuple #[noTb,.int .i64 0,.int .i64 70])) w' from fun w' hb=>Or.inl ⟨Or.inl ⟨hmb,rfl⟩,hb⟩)
  rw [hTQ.out] at HX
  clear hmb k2 GS
  go_wp2
  first | exact HX.out _ (by first | exact hBw | (refine Below.setCell (Below.setCell hBw ?_ _) ?_ _ <;> exact HQ.out.1)) | (refine bodyPost_ret (v:=.tuple #[noTb,.int .i64 0,.int .i64 70]) (by rw [xZ3 rfl];go_simp) rfl ?_;exact HX.out _ (by first | exact hBw | (refine Below.setCell (Below.setCell hBw ?_ _) ?_ _ <;> exact HQ.out.1)))
 ·skip
  replace m0:=xQ0 b1 m0
  replace m1:=xQ0 b1 m1
  replace k2:=k2.later b1
  replace hBw:=hBw.trans (b1.mono hBw.size)
  have hs1:=b1.size
  clear b1 GE
  have z0:=k2.cell0
  have z1:=k2.cell1
  have fz:=fun o=>k2.row.frozen o
  have HX:=xQ2 (show ∀ w',Below w.heap.size w w'→DfA w V (tb R) f R.length (.returned (.tuple #[noTb,.int .i64 0,.int .i64 61])) w' from fun w' hb=>Or.inl ⟨Or.inr (Or.inl ⟨hmb,hin,rfl⟩),hb⟩)
  rw [hTQ.out] at HX
  clear hmb hin k2 GS
  go_wp2
  first | exact HX.out _ (by first | exact hBw | (refine Below.setCell (Below.setCell hBw ?_ _) ?_ _ <;> exact HQ.out.1)) | (refine bodyPost_ret (v:=.tuple #[noTb,.int .i64 0,.int .i64 61]) (by rw [xZ3 rfl];go_simp) rfl ?_;exact HX.out _ (by first | exact hBw | (refine Below.setCell (Below.setCell hBw ?_ _) ?_ _ <;> exact HQ.out.1)))
 ·skip
  replace m0:=xQ0 b1 m0
  replace m1:=xQ0 b1 m1
  replace k2:=k2.later b1
  replace hBw:=hBw.trans (b1.mono hBw.size)
  have hs1:=b1.size
  clear b1 GE
  have HMB:=xQ2 hmb
  have HIn:=xQ2 hin
  have hV:=xQ2 (show 0≤V∧V≤65536 from ⟨hmb.lo,hmb.hi⟩)
  clear hmb hin
  by_cases hv:V=65536
  ·have z0:=k2.cell0
   have z1:=k2.cell1
   have fz:=fun o=>k2.row.frozen o
   have HVV:=xQ2 hv
   rw [hv] at m0
   have HX:=xQ2 (show ∀ w',Below w.heap.size w w'→DfA w V (tb R) f R.length (.returned (.tuple #[noTb,.int .i64 0,.int .i64 2])) w' from fun w' hb=>Or.inl ⟨Or.inr (Or.inr ⟨HMB.out,HIn.out,HVV.out,rfl⟩),hb⟩)
   rw [hTQ.out] at HX
   clear hv k2 GS hfo hnk
   go_wp2
   first | exact HX.out _ (by first | exact hBw | (refine Below.setCell (Below.setCell hBw ?_ _) ?_ _ <;> exact HQ.out.1)) | (refine bodyPost_ret (v:=.tuple #[noTb,.int .i64 0,.int .i64 2]) (by rw [xZ3 rfl];go_simp) rfl ?_;exact HX.out _ (by first | exact hBw | (refine Below.setCell (Below.setCell hBw ?_ _) ?_ _ <;> exact HQ.out.1)))
  ·have HVN:=xQ2 hv
   have hVs:=hV.out
   have hq3:rb < w1.heap.size:=k2.lt
   have G2:=xQ2 (GS.out w1 hBw HMB.out)
   have HFo:=xQ2 hfo
   clear GS hfo
   obtain ⟨Fa,Fc,FL⟩:=F
   unfold FV.val
   simp only
   go_wp2_with fail
   refine G2.out.mono ?_
   rintro e w2 ⟨ar,cr,S,base,rfl,⟨⟨ar2,cr2,he2,hn,hl,hf⟩,hb2,hr⟩,hN,hSl,hbs0,hbs1,hown,hfm⟩
   obtain ⟨e1,e2⟩:ar=ar2∧cr=cr2:=by simp at he2;exact he2
   subst e1 e2
   have hq8:=hBw.size
   have hFoff:∀ b,(Value.slice ar S.length cr).ownBlock=some b→FV.off ⟨Fa,Fc,FL⟩ b:=fun b hb=>hnk.ok.off (by have:=(hown.lt b hb).1;omega)
   have hlt9:=fun j hj=>hown.lt j hj
   replace m0:=xQ0 hb2 m0
   replace k2:=k2.later hb2
   replace hnk:=hnk.later hb2
   replace hBw:=hBw.trans (hb2.mono hBw.size)
   have hs2:=hb2.size
   clear hb2 G2 he2 m1
   have HSl:=xQ2 hSl
   have hSm:S.length≤349525:=by omega
   clear hSl
   have bY:=xQ1 (w:=w2) (.cells #[.int .i64 (V+1),.slice ar S.length cr] 24)
   have kZ:=Bk2.new w2 (V+1) ar S.length cr 24
   have hq4:rb < w2.heap.size:=k2.lt
   have hq5:=hBw.size
   have hwr:IntKind.i64.wrap (V+1)=V+1:=by rw [IntKind.wrap_i64];omega
   obtain ⟨wZ,hwZ⟩:∃ wZ,w2.alloc (.cells #[.int .i64 (V+1),.slice ar S.length cr] 24)=wZ:=⟨_,rfl⟩
   rw [hwZ] at bY kZ
   have m3:=xQ0 bY m0
   have k3:=k2.later bY
   have hnk3:=hnk.later bY
   have hB3:=hBw.trans (bY.mono hBw.size)
   have hO3:=xQ6 hown bY
   have hfm3:=fun r hr=>((hfm r hr).1.later bY)
   have HOff:=xQ2 (fun r hr=>(hfm r hr).2)
   have HWf:=xQ2 hn.wf
   have HFm:=xQ2 hfm3
   have HFoff:=xQ2 hFoff
   have HLT:=xQ2 hlt9
   have hsz:=bY.size
   have hszZ:wZ.heap.size=w2.heap.size+1:=by rw [←hwZ];simp
   clear bY hn hown hfm hfm3 hFoff hlt9 hnk hBw k2
   have x0:=kZ.cell0
   have x1:=kZ.cell1
   have hnew:=heap_alloc_new wZ (.cells #[.int .i64 V,.slice Fa FL.length Fc] 65)
   have bX:=xQ1 (w:=wZ) (.cells #[.int .i64 V,.slice Fa FL.length Fc] 65)
   obtain ⟨wX,hwX⟩:∃ wX,wZ.alloc (.cells #[.int .i64 V,.slice Fa FL.length Fc] 65)=wX:=⟨_,rfl⟩
   rw [hwX] at hnew bX
   rw [hszZ] at hnew
   have hszX:wX.heap.size=wZ.heap.size+1:=by rw [←hwX];simp
   have m4:=xQ0 bX m3
   have x2:=xQ0 bX x0
   have x3:=xQ0 bX x1
   have k4:=k3.later bX
   have kX:=kZ.later bX
   have hO4:=xQ6 hO3 bX
   have hB4:=hB3.trans (bX.mono hB3.size)
   have hbl:(S.length+1)*32≤140737488355328:=by omega
   have hkm:S.length+1≤maxLen:=by simp only [maxLen];omega
   have hbs:base≤wX.heap.size:=by omega
   have hwV:wfI V:=by have:=hV.out;exact wfI_of (by omega) (by omega)
   have PF:=xQ2 (fun w9 gb cap (hown4:World.ownsRow w9 base 65 2 (.slice (some ⟨gb,0,none⟩) (S.length+1) cap) (S.length+1) (xJ4 S ++ cells2 (V,⟨Fa,Fc,FL⟩))) (hg:wX.grownBy w9 (Value.slice ar S.length cr).ownBlock) (hat:(Value.slice ar S.length cr).ownBlock=some gb∨gb=wX.heap.size)=>show (TNk w9 (some ⟨gb,0,none⟩) (S ++ [(V,⟨Fa,Fc,FL⟩)])∧S.length+1≤cap)∧Bk2 w9 w2.heap.size (V+1) ar S.length cr∧Bk2 w9 rb 0 none 0 0∧w9.cell? ⟨w.heap.size,0,none⟩=some (.int .i64 V)∧Below w.heap.size w w9∧gb≠w2.heap.size∧w1.heap.size≤gb from by
     have hlt:=fun j hj=>HLT.out j hj
     have hq:=HQ.out
     have ne:∀ c,c < base∨c=w2.heap.size→some c≠(Value.slice ar S.length cr).ownBlock:=fun c hc e=>by have:=hlt c e.symm;omega
     refine ⟨TNk.snoc (fun r hr=>⟨(HFm.out r hr).later bX,HOff.out r hr⟩) HWf.out (hnk3.later bX) HFoff.out hwV hown4 hg,kX.grown hg (ne _ (Or.inr rfl)),k4.grown hg (ne _ (Or.inl (by omega))),hg.cell m4 (ne w.heap.size (Or.inl (by omega))),hB4.trans (xX0 hB4.size (fun j hj=>by have:=hlt j hj;omega) hg),?_,?_⟩
     ·rcases hat with h | h
      ·have:=hlt gb h;omega
      ·omega
     ·rcases hat with h | h
      ·have:=hlt gb h;omega
      ·omega)
   clear HFm HOff HWf HFoff HLT hnk3
   go_wp2_with (first | (rw [hwZ]) | (at_builtin;(try rw [hwX]);refine wpList_append_lies _ (by rfl) _ _ _ (by rfl) base 65 i0 _ 2 32 Tryz.underlying22 hi0 hz0 hz1 hz2 rfl (by omega) (.slice ar S.length cr) S.length (xJ4 S) (by rfl) hO4 ⟨w2.heap.size+1,0,none⟩ 1 1 [.int .i64 V,.slice Fa FL.length Fc] (by rfl) (by rfl) (World.news_of_block (cs:=#[.int .i64 V,.slice Fa FL.length Fc]) (t:=65) (fr:=(0,0)) hnew) (by simp [Value.oneCell']) (by omega) hkm hbl hbs wX.heap.size rfl ?_;intro gb cap w9 hown4 hgrow hat hlt4;have KI:=xQ2 (PF.out w9 gb cap hown4 hgrow hat);have y0:=KI.out.2.1.cell0;have y1:=KI.out.2.1.cell1;have fy:=fun o=>KI.out.2.1.row.frozen o;clear hown4 hgrow hat hlt4 PF hO3 hO4 hnew))
   obtain ⟨S2,hS2⟩:∃ S2,S ++ [(V,(⟨Fa,Fc,FL⟩:FV))]=S2:=⟨_,rfl⟩
   have hl2:S2.length=S.length+1:=by rw [←hS2];simp
   have hNS:NrmT (tb R ++ [(V,exF (tb R) f)]) (tb S2):=by
     have h1:=hN.snoc (V:=V) (g:=exF (tb R) f) (g':=FV.fo ⟨Fa,Fc,FL⟩) (fun r hr=>(HMB.out.basic r hr).2) (by rw [exF_self];exact HFo.out)
     rw [←hS2,tb_append];exact h1
   have hr2:rising S2:=by
     have h1:=hNS.rise;unfold rising tb at h1;rw [List.pairwise_map] at h1;exact h1
   have hSl2:S2.length≤R.length+1:=by rw [hl2];have:=HSl.out;omega
   have KJ:=KI.out
   rw [hS2,←hl2] at KJ
   obtain ⟨⟨hn9,hcap⟩,kx,k9,n9,hB9,hg1,hg2⟩:=KJ
   clear KI
   obtain ⟨cy,hcy⟩:∃ cy,w2.heap.size=cy:=⟨_,rfl⟩
   rw [←hl2]
   clear hl2 hS2
   rw [hcy] at hq4 hq5 kx hg1 ⊢
   have hr1:rb≠cy:=by omega
   have hw1:w.heap.size≠cy:=by have:=HQ.out;omega
   have hgn:∀ ad,some (⟨gb,0,none⟩:Addr)=some ad→S2≠[]→ad.block≠cy:=fun ad e _=>by injection e with e;rw [←e];exact hg1
   have hgf:∀ ad,some (⟨gb,0,none⟩:Addr)=some ad→S2≠[]→w1.heap.size≤ad.block:=fun ad e _=>by injection e with e;rw [←e];exact hg2
   have kZ2:=kx.setA (b:=some ⟨gb,0,none⟩) (k:=S2.length) (l:=cap)
   have k32:=k9.other (o:=1) (u:=.slice (some ⟨gb,0,none⟩) S2.length cap) hr1
   have n0:=far1 (q:=cy) (o:=1) (u:=.slice (some ⟨gb,0,none⟩) S2.length cap) n9 hw1
   have hn2:=hn9.set (o:=1) (u:=.slice (some ⟨gb,0,none⟩) S2.length cap) kx hgn
   have hB2:Below w.heap.size w (w9.setCell ⟨cy,1,none⟩ (.slice (some ⟨gb,0,none⟩) S2.length cap)):=hB9.setCell (show w.heap.size≤cy from hq5) _
   clear hn9 kx k9 n9 hB9 y0 y1 fy kZ k3 hB3 kX k4 hB4 m3 m4 x0 x1 x2 x3
   generalize (w9.setCell ⟨cy,1,none⟩ (.slice (some ⟨gb,0,none⟩) S2.length cap))=wQ at kZ2 k32 n0 hn2 hB2 ⊢
   have x0:=kZ2.cell0
   have x1:=kZ2.cell1
   have bD:Below wQ.heap.size wQ wQ.drew:=(Below.refl _ _).drew
   have kn0:=xQ0 bD n0
   have kx0:=xQ0 bD x0
   have kx1:=xQ0 bD x1
   replace hB2:=hB2.trans (bD.mono hB2.size)
   replace k32:=k32.later bD
   replace hn2:=hn2.later bD
   refine wp_region_held_drew (S:=fun w'=>w'.cell? ⟨w.heap.size,0,none⟩=some (.int .i64 V)∧w'.cell? ⟨cy,0,none⟩=some (.int .i64 (V+1))∧w'.cell? ⟨cy,1,none⟩=some (.slice (some ⟨gb,0,none⟩) S2.length cap)) (by kernel_rfl) ⟨kn0,kx0,kx1⟩ (fun hHeld=>?_)
   clear kn0 kx0 kx1
   generalize wQ.drew=w5 at bD k32 hn2 hB2 hHeld ⊢
   clear bD n0 x0 x1
   refine tk 0 (v:=?_) rfl (Or.inl ⟨by rfl,?_⟩) ?_
   rotate_left
   ·intro w9 hSw
    go_simp
    try with_reducible rfl
   simp only [pA]
   refine tk 1 (v:=?_) rfl (Or.inl ⟨by rfl,?_⟩) ?_
   rotate_left
   ·intro w9 hSw
    go_simp
    try with_reducible rfl
   simp only [pA]
   refine tk 2 (v:=?_) rfl (Or.inl ⟨by rfl,?_⟩) ?_
   rotate_left
   ·intro w9 hSw
    go_simp
    try with_reducible rfl
   simp only [pA]
   refine wpAnyH_ready (rs:=[3]) (by kernel_rfl) (by simp) ?_
   refine xX1 rfl (fun KK hKK=>?_)
   have HX:=xQ2 (show DfA w V (tb R) f R.length (.returned (.tuple #[.agg #[.int .i64 (V+1),.slice (some ⟨gb,0,none⟩) S2.length cap],.int .i64 V,.int .i64 0])) ((w5.setCell ⟨rb,0,none⟩ (.int .i64 (V+1))).setCell ⟨rb,1,none⟩ (.slice (some ⟨gb,0,none⟩) S2.length cap)) from Or.inr ⟨HMB.out,HIn.out,HVN.out,_,S2,rfl,TbA.store hn2 hcap hgf hq8 hB2 hr2 k32 hq3 HQ.out.1,hNS,hSl2⟩)
   rw [hTQ.out] at HX
   have z0:=k32.cell0
   have z1:=k32.cell1
   have fz:=fun o=>k32.row.frozen o
   have hcr:cy≠rb:=by omega
   have g0:=far1 (q:=rb) (o:=1) (u:=.slice (some ⟨gb,0,none⟩) S2.length cap) (far1 (q:=rb) (o:=0) (u:=.int .i64 (V+1)) hHeld.1 HQ.out.2.2) HQ.out.2.2
   have g1:=far1 (q:=rb) (o:=1) (u:=.slice (some ⟨gb,0,none⟩) S2.length cap) (far1 (q:=rb) (o:=0) (u:=.int .i64 (V+1)) hHeld.2.1 hcr) hcr
   have g2:=far1 (q:=rb) (o:=1) (u:=.slice (some ⟨gb,0,none⟩) S2.length cap) (far1 (q:=rb) (o:=0) (u:=.int .i64 (V+1)) hHeld.2.2 hcr) hcr
   have hH2:=(⟨g0,g1,g2⟩:_∧_∧_)
   clear g0 g1 g2
   have hy0:((w5.setCell ⟨rb,0,none⟩ (.int .i64 (V+1))).setCell ⟨rb,1,none⟩ (.slice (some ⟨gb,0,none⟩) S2.length cap)).cell? ⟨rb,0,none⟩=some (.int .i64 (V+1)):=(World.cell?_setCell_other _ _ _ _ (fun e=>by simp at e)).trans (World.cell?_setCell_same _ _ _ z0)
   have hy1:((w5.setCell ⟨rb,0,none⟩ (.int .i64 (V+1))).setCell ⟨rb,1,none⟩ (.slice (some ⟨gb,0,none⟩) S2.length cap)).cell? ⟨rb,1,none⟩=some (.slice (some ⟨gb,0,none⟩) S2.length cap):=World.cell?_setCell_same _ _ _ ((World.cell?_setCell_other _ _ _ _ (fun e=>by simp at e)).trans z1)
   clear hn2 hcap hgf hr2 k32 hB2 kZ2 hNS
   go_simp
   refine hKK.out _ _ hH2 ?_
   clear hHeld
   intro hHeld
   clear hKK KK
   try simp only [pA]
   clear hH2 z0 z1 fz
   generalize ((w5.setCell ⟨rb,0,none⟩ (.int .i64 (V+1))).setCell ⟨rb,1,none⟩ (.slice (some ⟨gb,0,none⟩) S2.length cap))=w7 at HX hy0 hy1 hHeld ⊢
   refine tk 4 (v:=?_) rfl (Or.inl ⟨by rfl,?_⟩) ?_
   rotate_left
   ·intro w9 hSw
    go_simp
    try with_reducible rfl
   simp only [pA]
   refine tk 5 (v:=?_) rfl (Or.inl ⟨by rfl,?_⟩) ?_
   rotate_left
   ·intro w9 hSw
    go_simp
    try with_reducible rfl
   simp only [pA]
   refine wpAnyH_done (by kernel_rfl) ?_ _
   go_wp2
   first | exact HX.out | (refine bodyPost_ret (v:=.tuple #[.agg #[.int .i64 (V+1),.slice (some ⟨gb,0,none⟩) S2.length cap],.int .i64 V,.int .i64 0]) (by rw [xZ3 rfl];go_simp) rfl ?_;exact HX.out)
open Go.ChangeShapes Go.WideShapes Go.ChangeAt Go.RowKit Go.Deep
set_option maxRecDepth 100000 in
theorem open_Int2B {H:Type} {enc:TypeId × Value→H} {W:World} {c0 c1:Value} {d:DataW H} {p:List MemPlace}
  (h:DataW.Trod enc Tryz.prog W 0 (fun _=>true) true 72 (.agg #[c0,c1]) d p)
  (hsz:(d.weights Tryz.prog 72).all (·≤reachBytes)=true) :
  ∃ s a len cap X,c0=.bool s∧c1=.slice a len cap∧Seg W a X len∧len≤cap∧len≤35184372087808∧len+3≤Rows.uptoBulk d:=by
 obtain ⟨fuel,hf⟩:=h
 obtain ⟨y0,y1,n,hx,hl,h0,h1⟩:=trod_struct2 Tryz.underlying72 hf
 simp only [Value.cells,List.drop_zero,cells_bool,cells_nat] at h0 h1
 change DataW.trod enc _ _ _ _ _ n 4 [c0]=_ at h0
 change DataW.trod enc _ _ _ _ _ n 70 [c1]=_ at h1
 obtain ⟨b',hb,hx0⟩:=DataW.trod_bool Tryz.underlying4 h0
 simp only [List.cons.injEq,and_true] at hb
 subst hb hx0
 simp only [Prod.mk.injEq] at hx
 obtain ⟨rfl,rfl⟩:=hx
 have hc1:∃ a len cap,c1=.slice a len cap:=by
  rcases open_ints xZ8 Tryz.underlying123 (by kernel_rfl) h1 with ⟨hcs,_⟩ | ⟨x,l,c,zs,hcs,_⟩
  ·simp at hcs;exact ⟨_,_,_,hcs⟩
  ·simp at hcs;exact ⟨_,_,_,hcs⟩
 obtain ⟨a,len,cap,rfl⟩:=hc1
 obtain ⟨y1d,y1p⟩:=y1
 obtain ⟨X,hS,hc,hb,hu⟩:=open_nat (len:=len) (cap:=cap) (a:=a) (d:=y1d) (p:=y1p) xZ8 ⟨n,h1⟩ (fun elems spare e=>by
  have e':y1d=.slice elems spare:=e
  subst e'
  have hu:=Tryz.underlying72
  simp only [DataW.weights,hu,DataW.weightsEach,List.map] at hsz
  simp only [List.all_append,Bool.and_eq_true] at hsz
  have h2:=hsz.2.1
  simp only [xZ8] at h2
  simp only [List.all_cons,Bool.and_eq_true,decide_eq_true_eq] at h2
  exact h2.1)
 exact ⟨b',a,len,cap,X,rfl,rfl,hS,hc,hb,by simp only [Rows.uptoBulk,Rows.uptoBulkAll] at hu ⊢;omega⟩
set_option maxRecDepth 100000 in
theorem open_Rat3B {H:Type} {enc:TypeId × Value→H} {W:World} {c0 c1 c2:Value} {d:DataW H} {p:List MemPlace} {fuel:Nat}
  (hf:DataW.trod enc Tryz.prog W 0 (fun _=>true) true fuel 74 [c0,c1,c2]=some (d,p))
  (hsz:(d.weights Tryz.prog 74).all (·≤reachBytes)=true) :
  ∃ q:RatV,c0=.bool q.s∧c1=.slice q.a q.n q.c∧c2=.slice q.b q.m q.e∧q.ok W∧q.n+q.m+5≤Rows.uptoBulk d:=by
 obtain ⟨y0,y1,n,hx,hl,h0,h1⟩:=trod_struct2 Tryz.underlying74 hf
 simp only [List.drop_zero,cells_Int,cells_nat] at h0 h1
 change DataW.trod enc _ _ _ _ _ n 72 [c0,c1]=_ at h0
 change DataW.trod enc _ _ _ _ _ n 70 [c2]=_ at h1
 simp only [Prod.mk.injEq] at hx
 obtain ⟨rfl,rfl⟩:=hx
 have hc2:∃ a len cap,c2=.slice a len cap:=by
  rcases open_ints xZ8 Tryz.underlying123 (by kernel_rfl) h1 with ⟨hcs,_⟩ | ⟨x,l,c,zs,hcs,_⟩
  ·simp at hcs;exact ⟨_,_,_,hcs⟩
  ·simp at hcs;exact ⟨_,_,_,hcs⟩
 obtain ⟨b,m,e,rfl⟩:=hc2
 obtain ⟨y0d,y0p⟩:=y0
 obtain ⟨y1d,y1p⟩:=y1
 have hu:=Tryz.underlying74
 simp only [DataW.weights,hu,DataW.weightsEach,List.map] at hsz
 simp only [List.all_append,Bool.and_eq_true] at hsz
 obtain ⟨s,a,len,cap,X,rfl,rfl,hS,hc,hb,hu0⟩:=open_Int2B (c0:=c0) (c1:=c1) (d:=y0d) (p:=y0p) ⟨n,h0⟩ hsz.1
 obtain ⟨Y,hT,hd,hk,hu1⟩:=open_nat (len:=m) (cap:=e) (a:=b) (d:=y1d) (p:=y1p) xZ8 ⟨n,h1⟩ (fun elems spare e=>by
  have e':y1d=.slice elems spare:=e
  subst e'
  have h2:=hsz.2.1
  simp only [DataW.weights,xZ8] at h2
  simp only [List.all_cons,Bool.and_eq_true,decide_eq_true_eq] at h2
  exact h2.1)
 exact ⟨⟨s,a,len,cap,X,b,m,e,Y⟩,rfl,rfl,rfl,⟨hS,hc,Nat.le_trans hb (by omega),hT,hd,Nat.le_trans hk (by omega)⟩,by simp only [Rows.uptoBulk,Rows.uptoBulkAll] at hu0 hu1 ⊢;omega⟩
set_option maxRecDepth 100000 in
theorem open_Mono4B {H:Type} {enc:TypeId × Value→H} {W:World} {k c0 c1 c2:Value} {d:DataW H} {p:List MemPlace} {fuel:Nat}
  (hf:DataW.trod enc Tryz.prog W 0 (fun _=>true) true fuel 76 [k,c0,c1,c2]=some (d,p))
  (hsz:(d.weights Tryz.prog 76).all (·≤reachBytes)=true) :
  ∃ (v:Int) (q:RatV),k=.int .i64 v∧(Lit.int .i64 v).wf=true∧c0=.bool q.s∧c1=.slice q.a q.n q.c∧c2=.slice q.b q.m q.e∧q.ok W∧q.n+q.m+7≤Rows.uptoBulk d:=by
 obtain ⟨y0,y1,n,hx,hl,h0,h1⟩:=trod_struct2 Tryz.underlying76 hf
 simp only [List.drop_zero,cells_int,cells_Rat] at h0 h1
 change DataW.trod enc _ _ _ _ _ n 3 [k]=_ at h0
 change DataW.trod enc _ _ _ _ _ n 74 [c0,c1,c2]=_ at h1
 simp only [Prod.mk.injEq] at hx
 obtain ⟨rfl,rfl⟩:=hx
 obtain ⟨v,hv,hx0,hw⟩:=DataW.trod_int Tryz.underlying3 h0
 simp only [List.cons.injEq,and_true] at hv
 subst hv
 obtain ⟨y0d,y0p⟩:=y0
 obtain ⟨y1d,y1p⟩:=y1
 simp only [Prod.mk.injEq] at hx0
 obtain ⟨rfl,rfl⟩:=hx0
 have hu:=Tryz.underlying76
 simp only [DataW.weights,hu,DataW.weightsEach,List.map] at hsz
 simp only [List.all_append,Bool.and_eq_true] at hsz
 obtain ⟨q,r0,r1,r2,hok,hbk⟩:=open_Rat3B h1 hsz.2.1
 exact ⟨v,q,rfl,hw,r0,r1,r2,hok,by simp only [Rows.uptoBulk,Rows.uptoBulkAll] at hbk ⊢;omega⟩
theorem bul_append:∀ (L M:List Mo),bul (L ++ M)=bul L+bul M
 | [],M=>by simp [bul]
 | p :: L,M=>by simp only [List.cons_append,bul,bul_append L M];omega
theorem bul_mos {H:Type} {D:Nat→DataW H} {v:Nat→Int} {q:Nat→RatV}:∀ (n:Nat),(∀ i,i < n→(q i).n+(q i).m+7≤Rows.uptoBulk (D i))→bul (mos v q n)≤Rows.uptoBulkAll ((List.range n).map D)
 | 0,_=>by simp [mos,bul]
 | n+1,h=>by
  have h1:=bul_mos (v:=v) n fun i hi=>h i (by omega)
  have h2:=h n (by omega)
  unfold mos at h1 ⊢
  rw [List.range_succ,List.map_append,List.map_append,bulkAll_append,bul_append]
  simp only [List.map,bul,Rows.uptoBulkAll]
  omega
set_option maxRecDepth 100000 in
theorem open_FormB {H:Type} {enc:TypeId × Value→H} {W:World} {cs:List Value} {d:DataW H} {p:List MemPlace} {fuel:Nat}
  (hf:DataW.trod enc Tryz.prog W 0 (fun _=>true) true fuel 35 cs=some (d,p))
  (hsz:(d.weights Tryz.prog 35).all (·≤reachBytes)=true) :
  ∃ F:FV,cs=[F.val]∧F.ok W∧wfo F.fo∧bul F.L+1≤Rows.uptoBulk d:=by
 rcases open_slice Tryz.underlying35 hf with ⟨rfl,hx⟩ | ⟨a,len,cap,m,n,D,Pl,rfl,hb,hl,hm,hmm,hx,hel⟩
 ·simp only [Prod.mk.injEq] at hx
  obtain ⟨rfl,rfl⟩:=hx
  exact ⟨⟨none,0,[]⟩,rfl,⟨fun h=>absurd rfl h,fun p hp=>by simp at hp,Nat.le_refl _⟩,fun p hp=>by simp [FV.fo,fo] at hp,by simp [bul,Rows.uptoBulk]⟩
 ·simp only [Prod.mk.injEq] at hx
  obtain ⟨rfl,rfl⟩:=hx
  have hu:=Tryz.underlying35
  simp only [DataW.weights,hu] at hsz
  simp only [List.all_cons,List.all_append,Bool.and_eq_true,decide_eq_true_eq,bytes_Mono,List.length_map,List.length_range] at hsz
  obtain ⟨hs0,hs1,_⟩:=hsz
  simp only [if_true] at hmm
  have each:∀ i,i < len→∃ z:Int × RatV,(W.cell? (a.add (i*4))=some (.int .i64 z.1)∧W.cell? (a.add (i*4+1))=some (.bool z.2.s)∧W.cell? (a.add (i*4+2))=some (.slice z.2.a z.2.n z.2.c)∧W.cell? (a.add (i*4+3))=some (.slice z.2.b z.2.m z.2.e)) ∧
    ((Lit.int .i64 z.1).wf=true∧z.2.ok W)∧z.2.n+z.2.m+7≤Rows.uptoBulk (D i):=by
   intro i hi
   obtain ⟨cs',h1,h2⟩:=hel i (by omega)
   rw [cells_Mono] at h1
   obtain ⟨_,hlen,hcell⟩:=World.cells?_some h1
   match cs',hlen with
   | [k,c0,c1,c2],_ =>
    obtain ⟨v,q,rfl,hw,rfl,rfl,rfl,hok,hbk⟩:=open_Mono4B h2 (weightsAll_mem hs1 (List.mem_map.2 ⟨i,List.mem_range.2 hi,rfl⟩))
    have e0:=hcell 0 (by omega)
    have e1:=hcell 1 (by omega)
    have e2:=hcell 2 (by omega)
    have e3:=hcell 3 (by omega)
    rw [add_add] at e0 e1 e2 e3
    exact ⟨(v,q),⟨by simpa using e0,by simpa using e1,by simpa using e2,by simpa using e3⟩,⟨hw,hok⟩,hbk⟩
  obtain ⟨z,hq⟩:=choose_lt each
  have hF:FormAt W (some a) len (fun i=>(z i).1) (fun i=>(z i).2):=fun hn=>by
   obtain ⟨b,off,spot⟩:=a
   have h0:=(hq 0 hn).1.1
   have hspot:spot=none:=by simpa [Addr.add] using World.cell?_spot h0
   subst hspot
   have ea:∀ j,(Addr.mk b off none).add j=⟨b,off+j,none⟩:=fun j=>by unfold Addr.add;split <;> simp_all
   refine ⟨b,off,rfl,?_,fun i hi=>?_⟩
   ·rw [ea] at h0
    obtain ⟨cur,e,fr,hb,_⟩:=Sort.cells_of_cell? h0
    exact (Array.getElem?_eq_some_iff.1 hb).1
   ·have:=(hq i hi).1
    simp only [ea] at this
    exact ⟨this.1,this.2.1,this.2.2.1,this.2.2.2⟩
  refine ⟨⟨some a,cap,mos (fun i=>(z i).1) (fun i=>(z i).2) len⟩,by unfold FV.val;simp only [mos_length],⟨mos_at hF,fun p hp=>?_,by simp only [mos_length];exact hl⟩,fun p hp=>?_,?_⟩
  ·obtain ⟨i,hi,rfl⟩:=mos_mem hp
   exact (hq i hi).2.1.2
  ·unfold FV.fo fo at hp
   obtain ⟨r,hr,rfl⟩:=List.mem_map.1 hp
   obtain ⟨i,hi,rfl⟩:=mos_mem hr
   exact (hq i hi).2.1.1
  ·have:=bul_mos (D:=D) (v:=fun i=>(z i).1) (q:=fun i=>(z i).2) len fun i hi=>(hq i hi).2.2
   simp only [Rows.uptoBulk]
   omega
theorem cells_Form:Tryz.prog.cellsOf 35=1:=by kernel_rfl
theorem cells_Row:Tryz.prog.cellsOf 65=2:=by kernel_rfl
theorem bytes_Row:Tryz.prog.bytesOf 65=32:=by kernel_rfl
set_option maxRecDepth 100000 in
theorem open_Row2 {H:Type} {enc:TypeId × Value→H} {W:World} {c0 c1:Value} {d:DataW H} {p:List MemPlace} {fuel:Nat}
  (hf:DataW.trod enc Tryz.prog W 0 (fun _=>true) true fuel 65 [c0,c1]=some (d,p))
  (hsz:(d.weights Tryz.prog 65).all (·≤reachBytes)=true) :
  ∃ r:RowV,c0=.int .i64 r.1∧c1=r.2.val∧wfI r.1∧r.2.ok W∧wfo r.2.fo∧bul r.2.L+3≤Rows.uptoBulk d:=by
 obtain ⟨y0,y1,n,hx,hl,h0,h1⟩:=trod_struct2 Tryz.underlying65 hf
 simp only [List.drop_zero,cells_int,cells_Form] at h0 h1
 change DataW.trod enc _ _ _ _ _ n 3 [c0]=_ at h0
 change DataW.trod enc _ _ _ _ _ n 35 [c1]=_ at h1
 simp only [Prod.mk.injEq] at hx
 obtain ⟨rfl,rfl⟩:=hx
 obtain ⟨v,hv,hx0,hw⟩:=DataW.trod_int Tryz.underlying3 h0
 simp only [List.cons.injEq,and_true] at hv
 subst hv
 obtain ⟨y0d,y0p⟩:=y0
 obtain ⟨y1d,y1p⟩:=y1
 simp only [Prod.mk.injEq] at hx0
 obtain ⟨rfl,rfl⟩:=hx0
 have hu:=Tryz.underlying65
 simp only [DataW.weights,hu,DataW.weightsEach,List.map] at hsz
 simp only [List.all_append,Bool.and_eq_true] at hsz
 obtain ⟨F,hF,hok,hwf,hb⟩:=open_FormB h1 hsz.2.1
 simp only [List.cons.injEq,and_true] at hF
 exact ⟨(v,F),rfl,hF,hw,hok,hwf,by simp only [Rows.uptoBulk,Rows.uptoBulkAll] at hb ⊢;omega⟩
theorem bulT_append:∀ (R S:List RowV),bulT (R ++ S)=bulT R+bulT S
 | [],S=>by simp [bulT]
 | r :: R,S=>by simp only [List.cons_append,bulT,bulT_append R S];omega
theorem bulT_le {H:Type} {D:Nat→DataW H} {z:Nat→RowV}:∀ (n:Nat),(∀ i,i < n→bul (z i).2.L+3≤Rows.uptoBulk (D i))→bulT ((List.range n).map z)≤Rows.uptoBulkAll ((List.range n).map D)
 | 0,_=>by simp [bulT]
 | n+1,h=>by
  have h1:=bulT_le n fun i hi=>h i (by omega)
  have h2:=h n (by omega)
  rw [List.range_succ,List.map_append,List.map_append,bulkAll_append,bulT_append]
  simp only [List.map,bulT,Rows.uptoBulkAll]
  omega
set_option maxRecDepth 100000 in
theorem open_RowsB {H:Type} {enc:TypeId × Value→H} {W:World} {cs:List Value} {d:DataW H} {p:List MemPlace} {fuel:Nat}
  (hf:DataW.trod enc Tryz.prog W 0 (fun _=>true) true fuel 22 cs=some (d,p))
  (hsz:(d.weights Tryz.prog 22).all (·≤reachBytes)=true) :
  ∃ (a:Option Addr) (c:Nat) (R:List RowV),cs=[.slice a R.length c]∧TIn W a R∧(∀ r∈R,wfo r.2.fo)∧R.length≤c∧bulT R+1≤Rows.uptoBulk d:=by
 rcases open_slice Tryz.underlying22 hf with ⟨rfl,hx⟩ | ⟨a,len,cap,m,n,D,Pl,rfl,hb,hl,hm,hmm,hx,hel⟩
 ·simp only [Prod.mk.injEq] at hx
  obtain ⟨rfl,rfl⟩:=hx
  exact ⟨none,0,[],rfl,⟨fun h=>absurd rfl h,fun p hp=>by simp at hp,fun p hp=>by simp at hp⟩,fun p hp=>by simp at hp,Nat.le_refl _,by simp [bulT,Rows.uptoBulk]⟩
 ·simp only [Prod.mk.injEq] at hx
  obtain ⟨rfl,rfl⟩:=hx
  have hu:=Tryz.underlying22
  simp only [DataW.weights,hu] at hsz
  simp only [List.all_cons,List.all_append,Bool.and_eq_true,decide_eq_true_eq,bytes_Row,List.length_map,List.length_range] at hsz
  obtain ⟨hs0,hs1,_⟩:=hsz
  simp only [if_true] at hmm
  have each:∀ i,i < len→∃ z:RowV,(W.cell? (a.add (i*2))=some (.int .i64 z.1)∧W.cell? (a.add (i*2+1))=some z.2.val)∧(wfI z.1∧z.2.ok W∧wfo z.2.fo)∧bul z.2.L+3≤Rows.uptoBulk (D i):=by
   intro i hi
   obtain ⟨cs',h1,h2⟩:=hel i (by omega)
   rw [cells_Row] at h1
   obtain ⟨_,hlen,hcell⟩:=World.cells?_some h1
   match cs',hlen with
   | [c0,c1],_ =>
    obtain ⟨r,rfl,rfl,hw,hok,hwf,hbk⟩:=open_Row2 h2 (weightsAll_mem hs1 (List.mem_map.2 ⟨i,List.mem_range.2 hi,rfl⟩))
    have e0:=hcell 0 (by omega)
    have e1:=hcell 1 (by omega)
    rw [add_add] at e0 e1
    exact ⟨r,⟨by simpa using e0,by simpa using e1⟩,⟨hw,hok,hwf⟩,hbk⟩
  obtain ⟨z,hq⟩:=choose_lt each
  have hmem:∀ r∈(List.range len).map z,∃ i,i < len∧r=z i:=fun r hr=>by
   obtain ⟨i,hi,rfl⟩:=List.mem_map.1 hr
   exact ⟨i,List.mem_range.1 hi,rfl⟩
  refine ⟨some a,cap,(List.range len).map z,by simp,⟨fun hn=>?_,fun r hr=>?_,fun r hr=>?_⟩,fun r hr=>?_,by simpa using hl,?_⟩
  ·have h0:0 < len:=by
    rcases Nat.eq_zero_or_pos len with e | e
    ·subst e;exact absurd rfl hn
    ·exact e
   obtain ⟨b,off,spot⟩:=a
   have hc0:=(hq 0 h0).1.1
   have hspot:spot=none:=by simpa [Addr.add] using World.cell?_spot hc0
   subst hspot
   have ea:∀ j,(Addr.mk b off none).add j=⟨b,off+j,none⟩:=fun j=>by unfold Addr.add;split <;> simp_all
   refine ⟨b,off,rfl,?_,fun i p hi=>?_⟩
   ·rw [ea] at hc0
    obtain ⟨cur,e,fr,hb,_⟩:=Sort.cells_of_cell? hc0
    exact (Array.getElem?_eq_some_iff.1 hb).1
   ·rw [List.getElem?_map] at hi
    have hin:i < len:=by
     rcases Nat.lt_or_ge i len with h1 | h1
     ·exact h1
     ·rw [List.getElem?_eq_none (by rw [List.length_range];exact h1)] at hi;cases hi
    rw [List.getElem?_range hin] at hi
    obtain rfl:=Option.some.inj hi
    have:=(hq i hin).1
    simp only [ea] at this
    exact this
  ·obtain ⟨i,hi,rfl⟩:=hmem r hr
   exact (hq i hi).2.1.2.1
  ·obtain ⟨i,hi,rfl⟩:=hmem r hr
   exact (hq i hi).2.1.1
  ·obtain ⟨i,hi,rfl⟩:=hmem r hr
   exact (hq i hi).2.1.2.2
  ·have:=bulT_le (D:=D) (z:=z) len fun i hi=>(hq i hi).2.2
   simp only [Rows.uptoBulk]
   omega
theorem cells_Tab:Tryz.prog.cellsOf 24=2:=by kernel_rfl
theorem cells_RowSl:Tryz.prog.cellsOf 22=1:=by kernel_rfl
set_option maxRecDepth 100000 in
theorem open_Tab {H:Type} {enc:TypeId × Value→H} {W:World} {r:Reach} {b0:Nat} {v:Value} {d:DataW H} {p:List MemPlace}
  (hv:Value.okWide Tryz.prog W r b0 24 v) (h:DataW.Trod enc Tryz.prog W 0 (fun _=>true) true 24 v d p)
  (hsz:(d.weights Tryz.prog 24).all (·≤reachBytes)=true) :
  ∃ (V:Int) (a:Option Addr) (c:Nat) (R:List RowV),v=.agg #[.int .i64 V,.slice a R.length c]∧wfI V∧TIn W a R∧(∀ r∈R,wfo r.2.fo)∧R.length≤c∧bulT R+3≤Rows.uptoBulk d:=by
 obtain ⟨cs,rfl,hcs⟩:=okWide_struct Tryz.underlying24 hv
 obtain ⟨fuel,hf⟩:=h
 rw [cells_Tab] at hcs
 obtain ⟨c0,c1,rfl⟩:∃ c0 c1,cs=#[c0,c1]:=by
  match cs,hcs with
  | ⟨[c0,c1]⟩,_=>exact ⟨c0,c1,rfl⟩
 obtain ⟨y0,y1,n,hx,hl,h0,h1⟩:=trod_struct2 Tryz.underlying24 hf
 simp only [Value.cells,List.drop_zero,cells_int,cells_RowSl] at h0 h1
 change DataW.trod enc _ _ _ _ _ n 3 [c0]=_ at h0
 change DataW.trod enc _ _ _ _ _ n 22 [c1]=_ at h1
 simp only [Prod.mk.injEq] at hx
 obtain ⟨rfl,rfl⟩:=hx
 obtain ⟨v,hv,hx0,hw⟩:=DataW.trod_int Tryz.underlying3 h0
 simp only [List.cons.injEq,and_true] at hv
 subst hv
 obtain ⟨y0d,y0p⟩:=y0
 obtain ⟨y1d,y1p⟩:=y1
 simp only [Prod.mk.injEq] at hx0
 obtain ⟨rfl,rfl⟩:=hx0
 have hu:=Tryz.underlying24
 simp only [DataW.weights,hu,DataW.weightsEach,List.map] at hsz
 simp only [List.all_append,Bool.and_eq_true] at hsz
 obtain ⟨a,c,R,hR,hT,hwf,hc,hb⟩:=open_RowsB h1 hsz.2.1
 simp only [List.cons.injEq,and_true] at hR
 subst hR
 exact ⟨v,a,c,R,rfl,hw,hT,hwf,hc,by simp only [Rows.uptoBulk,Rows.uptoBulkAll] at hb ⊢;omega⟩
end Go.Proofs.YtlklfkkbdcglbaaGreat
namespace Go.Proofs.YtlklfkkbdcglbaaGreat.tableauGrows
open Go.ChangeShapes Go.WideShapes Go.ChangeAt Go.RowKit Go.Proofs.YtlklfkkbdcglbaaGreat
set_option linter.unusedVariables false
theorem wfo_sg {S R:List RowV} (h:S.map sgR=R.map sgR) (hw:∀ r∈R,wfo r.2.fo):∀ r∈S,wfo r.2.fo:=fun r hr=>by
 obtain ⟨s,hs,_,e⟩:=sgR_mem h hr
 rw [e]
 exact hw s hs
theorem nil_nk (w:World):TNk w none []:=⟨fun hn=>absurd rfl hn,fun r hr=>absurd hr (by simp),fun r hr=>absurd hr (by simp)⟩
theorem nrm_short {T:Tb} {S:List RowV} (h:NrmT T (tb S)) (hT:∀ r∈T,(nfm r.2).length≤2097152):∀ r∈S,r.2.L.length≤2097152:=fun r hr=>by
 have h1:=h.same r.1
 have hm:(r.1,r.2.fo)∈tb S:=List.mem_map.2 ⟨r,hr,rfl⟩
 rw [lk_of_mem (v:=r.1) (f:=r.2.fo) h.rise.once hm] at h1
 cases hf:lk T r.1 with
 | none=>rw [hf] at h1;cases h1
 | some f =>
  rw [hf] at h1
  have e:r.2.fo=nfm f:=Option.some.inj h1
  have h2:=congrArg List.length e
  have h3:=hT (r.1,f) (lk_mem hf)
  unfold FV.fo at h2
  rw [xQ8] at h2
  simp only at h3
  omega
theorem tb_short {R:List RowV} (hb:bulT R≤1048576):∀ r∈tb R,(nfm r.2).length≤2097152:=fun r hr=>by
 obtain ⟨s,hs,rfl⟩:=List.mem_map.1 hr
 have h1:=xZ9 s.2.fo
 have h2:s.2.fo.length=s.2.L.length:=xQ8 _
 have h3:=bulT_mem hs
 have h4:=bul_len s.2.L
 show (nfm s.2.fo).length≤_
 omega
def AnsT (w:World) (V n code:Int) (M:Tb) (e:Ending) (w':World):Prop :=
 ∃ (a:Option Addr) (c:Nat) (S:List RowV),e=.returned (.tuple #[.agg #[.int .i64 V,.slice a S.length c],.int .i64 n,.int .i64 code])∧TNk w' a S∧S.length≤c∧S.length≤1048576∧(∀ r∈S,r.2.L.length≤2097152)∧(∀ ad,a=some ad→S≠[]→w.heap.size≤ad.block)∧Below w.heap.size w w'∧tb S=M
theorem ansT_bad {w w':World} {code:Int} (hb:Below w.heap.size w w'):AnsT w 0 0 code [] (.returned (.tuple #[noTb,.int .i64 0,.int .i64 code])) w' :=
 ⟨none,0,[],rfl,nil_nk _,Nat.le_refl _,by simp,fun r hr=>absurd hr (by simp),fun ad e=>(by cases e),hb,rfl⟩
theorem nrm_one (T:Tb):∃ M:Tb,∀ S,NrmT T S→S=M:=by
 by_cases h:∃ S,NrmT T S
 ·obtain ⟨S,hS⟩:=h
  exact ⟨S,fun Q hQ=>hQ.uniq hS⟩
 ·exact ⟨[],fun Q hQ=>absurd ⟨Q,hQ⟩ h⟩
theorem ansT_good {w w':World} {V n:Int} {T M:Tb} {v:Value} {S:List RowV} (hM:∀ S,NrmT T S→S=M) (h:TbA w V S v w') (hN:NrmT T (tb S)) (hl:S.length≤1048576) (hT:∀ r∈T,(nfm r.2).length≤2097152):AnsT w V n 0 M (.returned (.tuple #[v,.int .i64 n,.int .i64 0])) w':=by
 obtain ⟨⟨a,c,rfl,hn,hc,hf⟩,hb,hr⟩:=h
 exact ⟨a,c,S,rfl,hn,hc,hl,nrm_short hN hT,hf,hb,hM _ hN⟩
theorem gr_fix (V:Int) {R:List RowV} (hb:bulT R≤1048576):∃ (V1 n code:Int) (M:Tb),∀ w e w' k,k≤1048575→GrA w V (tb R) k e w'→AnsT w V1 n code M e w':=by
 obtain ⟨M,hM⟩:=nrm_one (tb R)
 by_cases hm:mayBe V (tb R)
 ·by_cases hv:V=65536
  ·refine ⟨0,0,2,[],?_⟩
   rintro w e w' k hk (⟨⟨h1,_⟩ | ⟨_,_,rfl⟩,hb⟩ | ⟨_,h1,_⟩)
   ·exact absurd hm h1
   ·exact ansT_bad hb
   ·exact absurd hv h1
  ·refine ⟨V+1,V,0,M,?_⟩
   rintro w e w' k hk (⟨⟨h1,_⟩ | ⟨_,h1,_⟩,_⟩ | ⟨_,_,v,S,rfl,h2,h3,h4⟩)
   ·exact absurd hm h1
   ·exact absurd h1 hv
   ·exact ansT_good hM h2 h3 (by omega) (tb_short hb)
 ·refine ⟨0,0,70,[],?_⟩
  rintro w e w' k hk (⟨⟨_,rfl⟩ | ⟨h1,_⟩,hb⟩ | ⟨h1,_⟩)
  ·exact ansT_bad hb
  ·exact absurd h1 hm
  ·exact absurd h1 hm
theorem df_fix (V:Int) {w0:World} {R:List RowV} {f:Fo} {B:Nat} (h:Exp w0 f B R):∃ (V1 n code:Int) (M:Tb),∀ w e w' k,k≤1048574→DfA w V (tb R) f k e w'→AnsT w V1 n code M e w':=by
 have hb:bulT R≤1048576:=by have:=h.b;omega
 obtain ⟨M,hM⟩:=nrm_one (tb R ++ [(V,exF (tb R) f)])
 by_cases hm:mayBe V (tb R)
 ·by_cases hi:inV V f
  ·by_cases hv:V=65536
   ·refine ⟨0,0,2,[],?_⟩
    rintro w e w' k hk (⟨⟨h1,_⟩ | ⟨_,h1,_⟩ | ⟨_,_,_,rfl⟩,hb⟩ | ⟨_,_,h1,_⟩)
    ·exact absurd hm h1
    ·exact absurd hi h1
    ·exact ansT_bad hb
    ·exact absurd hv h1
   ·refine ⟨V+1,V,0,M,?_⟩
    rintro w e w' k hk (⟨⟨h1,_⟩ | ⟨_,h1,_⟩ | ⟨_,_,h1,_⟩,_⟩ | ⟨_,_,_,v,S,rfl,h2,h3,h4⟩)
    ·exact absurd hm h1
    ·exact absurd hi h1
    ·exact absurd h1 hv
    ·refine ansT_good hM h2 h3 (by omega) fun r hr=>?_
     rcases List.mem_append.1 hr with hr | hr
     ·exact tb_short hb r hr
     ·obtain rfl:=List.mem_singleton.1 hr
      show (nfm (exF (tb R) f)).length≤_
      rw [exF_self,←acS_exF hm.once]
      have h5:=(ac_fits h.ok h.b h.wB h.len (tb R).length).2
      rw [List.take_length] at h5
      omega
  ·refine ⟨0,0,61,[],?_⟩
   rintro w e w' k hk (⟨⟨h1,_⟩ | ⟨_,_,rfl⟩ | ⟨_,h1,_⟩,hb⟩ | ⟨_,h1,_⟩)
   ·exact absurd hm h1
   ·exact ansT_bad hb
   ·exact absurd h1 hi
   ·exact absurd h1 hi
 ·refine ⟨0,0,70,[],?_⟩
  rintro w e w' k hk (⟨⟨_,rfl⟩ | ⟨h1,_⟩ | ⟨h1,_⟩,hb⟩ | ⟨h1,_⟩)
  ·exact ansT_bad hb
  ·exact absurd h1 hm
  ·exact absurd h1 hm
  ·exact absurd h1 hm
set_option maxHeartbeats 16000000 in
set_option maxRecDepth 100000 in
theorem walkM (V:Int) (a:Option Addr) (c:Nat) (R:List RowV) (X:FV) (w:World) (hT:TIn w a R) (hw:∀ r∈R,wfo r.2.fo) (hc:R.length≤c) (hX:X.ok w) (hwX:wfo X.fo) (hb:bulT R+bul X.L≤1048576) :
  Calls Tryz.prog 4 #[.agg #[.int .i64 V,.slice a R.length c],X.val] w fun e w'=>e=.returned (.bool true)∧Below w.heap.size w w':=by
 have hXs:X.sm w:=⟨hX,by omega⟩
 have hlen:3*R.length≤1048576:=by have:=bulT_len R;omega
 obtain ⟨V1,n1,c1,M1,HG⟩:=gr_fix V (R:=R) (by omega)
 obtain ⟨V2,n2,c2,M2,HD⟩:=df_fix V (show Exp w X.fo (bul X.L) R from ⟨hT.forms,hb,by have h1:=wts_bulk X.L hX.nums;have h2:=bul_bulkL X.L;show wts (fo X.L)≤_;omega,by have h1:=bul_len X.L;have h2:X.fo.length=X.L.length:=xQ8 _;omega⟩)
 have GT:=xQ2 (fun w' (hb9:Below w.heap.size w w')=>twin_is V a c R w' (hT.later hb9) hc (by omega))
 have GM:=xQ2 (fun w' (hb9:Below w.heap.size w w')=>memForm_is X w' (hX.later hb9) (by have:=bul_len X.L;omega))
 have GG:=xQ2 (fun w' a2 e2 (S:List RowV) (hS:TIn w' a2 S) (hl:S.length≤e2) (hs:S.map sgR=R.map sgR)=>show Calls Tryz.prog 18 #[.agg #[.int .i64 V,.slice a2 S.length e2]] w' (AnsT w' V1 n1 c1 M1) from by
   have e3:=sgR_bul hs;have e4:=sgR_length hs
   have h:=pGrow_is V a2 e2 S w' hS hl (by omega) (wfo_sg hs hw)
   rw [sgR_tb hs] at h
   exact h.mono fun e w2 h2=>HG _ _ _ _ (by omega) h2)
 have GR:=xQ2 (fun w' (hb9:Below w.heap.size w w')=>show Calls Tryz.prog 19 #[.agg #[.int .i64 V,.slice a R.length c]] w' (AnsT w' V1 n1 c1 M1) from (rGrow_is V a c R w' ⟨hT.later hb9,by omega⟩ hc).mono fun e w2 h2=>HG _ _ _ _ (by omega) h2)
 have GD:=xQ2 (fun w' a2 e2 (S:List RowV) (Y:FV) (hS:TIn w' a2 S) (hl:S.length≤e2) (hs:S.map sgR=R.map sgR) (hY:Y.ok w') (hy:Y.L.map sigM=X.L.map sigM)=>show Calls Tryz.prog 20 #[.agg #[.int .i64 V,.slice a2 S.length e2],Y.val] w' (AnsT w' V2 n2 c2 M2) from by
   have e1:Y.fo=X.fo:=sig_fo hy
   have e5:=sig_bul hy;have e3:=sgR_bul hs;have e4:=sgR_length hs
   have h:=pDefine_is V a2 e2 S Y w' hS hl (by omega) (wfo_sg hs hw) ⟨hY,by omega⟩ (by rw [e1];exact hwX) (fun w1 g hG FL hl2 hf2=>cost_fits (w':=w) hS (⟨hY,by omega⟩:Y.sm w') (by omega) w1 g hG FL hl2 hf2)
   rw [sgR_tb hs,e1] at h
   exact h.mono fun e w2 h2=>HD _ _ _ _ (by omega) h2)
 have GE:=xQ2 (fun w' (hb9:Below w.heap.size w w')=>show Calls Tryz.prog 22 #[.agg #[.int .i64 V,.slice a R.length c],X.val] w' (AnsT w' V2 n2 c2 M2) from (rDefine_is V a c R X w' (hT.later hb9) hc hw (hXs.later hb9) hwX hb).mono fun e w2 h2=>HD _ _ _ _ (by omega) h2)
 have GU1:=xQ2 (fun w' a3 e3 (S:List RowV) a4 e4 (Q:List RowV) (hS:TNk w' a3 S) (hQ:TNk w' a4 Q) (h3:S.length≤e3) (h4:Q.length≤e4) (hm:S.length≤1048576) (hf:∀ r∈S,r.2.L.length≤2097152) (hSn:tb S=M1) (hQn:tb Q=M1)=>alike_is V1 a3 e3 S a4 e4 Q w' hS hQ h3 h4 hm hf (hSn.trans hQn.symm))
 have GU2:=xQ2 (fun w' a3 e3 (S:List RowV) a4 e4 (Q:List RowV) (hS:TNk w' a3 S) (hQ:TNk w' a4 Q) (h3:S.length≤e3) (h4:Q.length≤e4) (hm:S.length≤1048576) (hf:∀ r∈S,r.2.L.length≤2097152) (hSn:tb S=M2) (hQn:tb Q=M2)=>alike_is V2 a3 e3 S a4 e4 Q w' hS hQ h3 h4 hm hf (hSn.trans hQn.symm))
 have GL:=xQ2 (fun w'=>lives_is w')
 clear hT hw hX hwX hb hXs HG HD hlen
 obtain ⟨Xv,hXv⟩:∃ v,X.val=v:=⟨_,rfl⟩
 rw [hXv] at GM GE ⊢
 clear hXv
 have hBw:=xQ1 (w:=w) (.cells #[.int .i64 V,.slice a R.length c] 24)
 have kX:=Bk2.new w V a R.length c 24
 go_enter Tryz.func4,Tryz.ntmps4
 have x0:=kX.cell0
 have x1:=kX.cell1
 go_wp2_with fail
 clear x0 x1
 obtain ⟨wA,hwA⟩:∃ wA,w.alloc (.cells #[.int .i64 V,.slice a R.length c] 24)=wA:=⟨_,rfl⟩
 rw [hwA] at hBw kX ⊢
 clear hwA
 refine (GT.out _ hBw).mono ?_
 rintro e u1 ⟨S0,a0,e0,rfl,bN,hS0,hl0,hs0⟩
 replace kX:=kX.later bN
 replace hBw:=hBw.trans (bN.mono hBw.size)
 clear bN
 go_wp2_with fail
 refine (GG.out _ a0 e0 S0 hS0 hl0 hs0).mono ?_
 rintro e u2 ⟨a1,e1,S1,rfl,h1,hc1,hm1,hs1,hf1,bN,hM1⟩
 replace hM1:=xQ2 hM1
 replace kX:=kX.later bN
 replace hBw:=hBw.trans (bN.mono hBw.size)
 clear bN
 clear GG hS0 hl0 hs0
 have k5:=Bk2.new u2 V1 a1 S1.length e1 24
 have bM:=xQ1 (w:=u2) (.cells #[.int .i64 V1,.slice a1 S1.length e1] 24)
 have hltb5:=kX.lt
 have hzb5:=hBw.size
 replace kX:=kX.later bM
 replace h1:=h1.later bM
 replace hBw:=hBw.trans (bM.mono hBw.size)
 clear bM
 have kXx:=kX.cell0
 have kXy:=kX.cell1
 have k5x:=k5.cell0
 have k5y:=k5.cell1
 obtain ⟨wB,hwB⟩:∃ wB,u2.alloc (.cells #[.int .i64 V1,.slice a1 S1.length e1] 24)=wB:=⟨_,rfl⟩
 rw [hwB] at kX h1 kXx kXy hBw k5 k5x k5y
 go_wp2_with (rw [hwB])
 clear hwB
 clear kXx kXy k5x k5y
 obtain ⟨b5,hb9⟩:∃ z,u2.heap.size=z:=⟨_,rfl⟩
 rw [hb9] at k5 hltb5 hzb5 ⊢
 clear hb9
 refine (GR.out _ hBw).mono ?_
 rintro e u3 ⟨a2,e2,S2,rfl,h2,hc2,hm2,hs2,hf2,bN,hM2⟩
 replace hM2:=xQ2 hM2
 replace kX:=kX.later bN
 replace h1:=h1.later bN
 replace k5:=k5.later bN
 replace hBw:=hBw.trans (bN.mono hBw.size)
 clear bN
 clear GR
 have k8:=Bk2.new u3 V1 a2 S2.length e2 24
 have bM:=xQ1 (w:=u3) (.cells #[.int .i64 V1,.slice a2 S2.length e2] 24)
 have hltb8:=kX.lt
 have hzb8:=hBw.size
 have hltk:=k5.lt
 replace kX:=kX.later bM
 replace h1:=h1.later bM
 replace k5:=k5.later bM
 replace h2:=h2.later bM
 replace hBw:=hBw.trans (bM.mono hBw.size)
 clear bM
 have kXx:=kX.cell0
 have kXy:=kX.cell1
 have k5x:=k5.cell0
 have k5y:=k5.cell1
 have k8x:=k8.cell0
 have k8y:=k8.cell1
 obtain ⟨wC,hwB⟩:∃ wB,u3.alloc (.cells #[.int .i64 V1,.slice a2 S2.length e2] 24)=wB:=⟨_,rfl⟩
 rw [hwB] at kX h1 k5 h2 kXx kXy k5x k5y hBw k8 k8x k8y
 go_wp2_with (rw [hwB])
 clear hwB
 clear kXx kXy k5x k5y k8x k8y
 obtain ⟨b8,hb9⟩:∃ z,u3.heap.size=z:=⟨_,rfl⟩
 rw [hb9] at k8 hltb8 hzb8 hltk ⊢
 clear hb9
 refine (GU1.out _ a1 e1 S1 a2 e2 S2 h1 h2 hc1 hc2 hm1 hs1 hM1.out hM2.out).mono ?_
 rintro e u4 ⟨rfl,bN⟩
 replace kX:=kX.later bN
 replace k5:=k5.later bN
 replace k8:=k8.later bN
 replace hBw:=hBw.trans (bN.mono hBw.size)
 clear bN
 clear GU1 h1 h2 hc1 hc2 hm1 hs1 hM1 hM2 hf1 hf2 hm2 hs2
 have kXx:=kX.cell0
 have kXy:=kX.cell1
 have k5x:=k5.cell0
 have k5y:=k5.cell1
 have k8x:=k8.cell0
 have k8y:=k8.cell1
 go_wp2_with fail
 clear kXx kXy k5x k5y k8x k8y
 refine (GT.out _ hBw).mono ?_
 rintro e u5 ⟨S0,a0,e0,rfl,bN,hS0,hl0,hs0⟩
 replace kX:=kX.later bN
 replace k5:=k5.later bN
 replace k8:=k8.later bN
 replace hBw:=hBw.trans (bN.mono hBw.size)
 clear bN
 clear GT
 go_wp2_with fail
 refine (GM.out _ hBw).mono ?_
 rintro e u6 ⟨Y,rfl,hY,_,hy,_,bN⟩
 replace kX:=kX.later bN
 replace k5:=k5.later bN
 replace k8:=k8.later bN
 replace hS0:=hS0.later bN
 replace hBw:=hBw.trans (bN.mono hBw.size)
 clear bN
 clear GM
 have eY:Y.val=.slice Y.a Y.L.length Y.c:=rfl
 go_wp2_with fail
 have q5:=k5.lt
 have q8:=k8.lt
 refine (GD.out _ a0 e0 S0 Y hS0 hl0 hs0 hY hy).mono ?_
 rintro e u7 ⟨a3,e3,S3,rfl,h3,hc3,hm3,hs3,hf3,bN,hM3⟩
 replace hM3:=xQ2 hM3
 clear GD hS0 hl0 hs0 hY hy eY
 have ne5:∀ ad,a3=some ad→S3≠[]→ad.block≠b5:=fun ad e h=>by have h2:=hf3 ad e h;omega
 have ne8:∀ ad,a3=some ad→S3≠[]→ad.block≠b8:=fun ad e h=>by have h2:=hf3 ad e h;omega
 replace kX:=kX.later bN
 replace k5:=k5.later bN
 replace k8:=k8.later bN
 replace hBw:=hBw.trans (bN.mono hBw.size)
 clear bN
 clear hf3 q5 q8
 have e1:w.heap.size≠b5:=by omega
 have e2:w.heap.size≠b8:=by omega
 have e4:b5≠b8:=by omega
 have t0:=k5.cell0
 have t1:=k5.cell1
 have fz:=fun o=>k5.row.frozen o
 have p5:=(k5.setP (y:=V2)).setA (b:=a3) (k:=S3.length) (l:=e3)
 have pX:=(kX.other (o:=0) (u:=.int .i64 V2) e1).other (o:=1) (u:=.slice a3 S3.length e3) e1
 have p8:=(k8.other (o:=0) (u:=.int .i64 V2) (Ne.symm e4)).other (o:=1) (u:=.slice a3 S3.length e3) (Ne.symm e4)
 have g3:TNk ((u7.setCell ⟨b5,0,none⟩ (.int .i64 V2)).setCell ⟨b5,1,none⟩ (.slice a3 S3.length e3)) a3 S3:=(h3.set k5 ne5).set (k5.set (b:=none) (k:=0) (l:=0)) ne5
 have hB2:Below w.heap.size w ((u7.setCell ⟨b5,0,none⟩ (.int .i64 V2)).setCell ⟨b5,1,none⟩ (.slice a3 S3.length e3)):=(hBw.setCell hzb5 _).setCell hzb5 _
 have pXx:=pX.cell0
 have pXy:=pX.cell1
 have p5x:=p5.cell0
 have p5y:=p5.cell1
 have p8x:=p8.cell0
 have p8y:=p8.cell1
 clear h3 hBw kX k5 k8
 go_wp2_with fail
 clear t0 t1 fz pXx pXy p5x p5y p8x p8y ne5
 generalize ((u7.setCell ⟨b5,0,none⟩ (.int .i64 V2)).setCell ⟨b5,1,none⟩ (.slice a3 S3.length e3))=u8 at pX p5 p8 g3 hB2 ⊢
 have q8:=p8.lt
 refine (GE.out _ hB2).mono ?_
 rintro e u9 ⟨a4,e5,S4,rfl,h4,hc4,hm4,hs4,hf4,bN,hM4⟩
 replace hM4:=xQ2 hM4
 clear GE
 have ne4:∀ ad,a4=some ad→S4≠[]→ad.block≠b8:=fun ad e h=>by have h2:=hf4 ad e h;omega
 replace pX:=pX.later bN
 replace p5:=p5.later bN
 replace p8:=p8.later bN
 replace g3:=g3.later bN
 replace hB2:=hB2.trans (bN.mono hB2.size)
 clear bN hf4 q8
 have t0:=p8.cell0
 have t1:=p8.cell1
 have fz:=fun o=>p8.row.frozen o
 have r8:=(p8.setP (y:=V2)).setA (b:=a4) (k:=S4.length) (l:=e5)
 have r5:=(p5.other (o:=0) (u:=.int .i64 V2) e4).other (o:=1) (u:=.slice a4 S4.length e5) e4
 have g4:TNk ((u9.setCell ⟨b8,0,none⟩ (.int .i64 V2)).setCell ⟨b8,1,none⟩ (.slice a4 S4.length e5)) a4 S4:=(h4.set p8 ne4).set (p8.set (b:=none) (k:=0) (l:=0)) ne4
 have g5:TNk ((u9.setCell ⟨b8,0,none⟩ (.int .i64 V2)).setCell ⟨b8,1,none⟩ (.slice a4 S4.length e5)) a3 S3:=(g3.set p8 ne8).set (p8.set (b:=none) (k:=0) (l:=0)) ne8
 have hB3:Below w.heap.size w ((u9.setCell ⟨b8,0,none⟩ (.int .i64 V2)).setCell ⟨b8,1,none⟩ (.slice a4 S4.length e5)):=(hB2.setCell hzb8 _).setCell hzb8 _
 have r5x:=r5.cell0
 have r5y:=r5.cell1
 have r8x:=r8.cell0
 have r8y:=r8.cell1
 clear h4 g3 hB2 pX p5 p8
 go_wp2_with fail
 clear t0 t1 fz r5x r5y r8x r8y ne4 ne8 r5 r8
 generalize ((u9.setCell ⟨b8,0,none⟩ (.int .i64 V2)).setCell ⟨b8,1,none⟩ (.slice a4 S4.length e5))=uA at g4 g5 hB3 ⊢
 refine (GU2.out _ a3 e3 S3 a4 e5 S4 g5 g4 hc3 hc4 hm3 hs3 hM3.out hM4.out).mono ?_
 rintro e uB ⟨rfl,bN⟩
 replace hB3:=hB3.trans (bN.mono hB3.size)
 clear bN GU2 g4 g5 hc3 hc4 hm3 hs3 hM3 hM4 hm4 hs4
 go_wp2_with fail
 refine (GL.out _).mono ?_
 rintro e uC ⟨rfl,bN⟩
 replace hB3:=hB3.trans (bN.mono hB3.size)
 clear bN GL
 go_wp2
 first | exact ⟨rfl,hB3⟩ | (go_ret;exact ⟨rfl,hB3⟩)
theorem walk (V:Int) (a:Option Addr) (c:Nat) (R:List RowV) (fa:Option Addr) (fc:Nat) (fL:List Mo) (w:World) (hV:wfI V) (hT:TIn w a R) (hw:∀ r∈R,wfo r.2.fo) (hc:R.length≤c) (hbu:bulT R≤1048576) (hX:FV.ok w ⟨fa,fc,fL⟩) (hwX:wfo (FV.fo ⟨fa,fc,fL⟩)) (hb:bulT R+bul fL≤1048576) :
  Calls Tryz.prog 4 #[.agg #[.int .i64 V,.slice a R.length c],.slice fa fL.length fc] w fun e w'=>e=.returned (.bool true)∧Below w.heap.size w w':=walkM V a c R ⟨fa,fc,fL⟩ w hT hw hc hX hwX hb
set_option maxRecDepth 100000 in
theorem contract (H:Type) (enc:TypeId × Value→H) (W:World) (base:Nat) (args:Array Value) (ds gs:List (DataW H)) (before:List MemPlace)
  (hval:∀ (j:Nat) t v,Tryz.f4.params[j]?=some t→args[j]?=some v→Value.okWide Tryz.prog W .any base t v)
  (hW:DataW.Whole enc Tryz.prog Tryz.f4.params.toList Rows.tableauGrowsSpec.vars false W args.toList ds gs before)
  (hsz:(DataW.weightsEach Tryz.prog (Tryz.f4.params.toList ++ Rows.tableauGrowsSpec.plain.varTypes Tryz.prog) (ds ++ gs)).all (·≤reachBytes)=true) (hk:Rows.uptoSmall H (ds ++ gs)=true) :
  Calls Tryz.prog 4 args W fun e W'=>∃ v,e=.returned v∧Rows.tableauGrowsSpec.post enc Tryz.prog Tryz.f4 false true false false W args v W':=by
 have hW':=hW
 obtain ⟨p,q,hA0,hV,rfl,hfz,hnd⟩:=hW
 have hA:DataW.TrodAll enc Tryz.prog W 0 (fun _=>true) true Tryz.f4.params.toList args.toList ds p:=hA0
 rw [Tryz.params4] at hA hval hsz
 obtain ⟨v0,vs0,d0,ds0,p0,q0,hargs,rfl,rfl,h0,r0⟩:=trodAll_cons hA
 obtain ⟨v1,vs1,d1,ds1,p1,q1,rfl,rfl,rfl,h1,r1⟩:=trodAll_cons r0
 obtain ⟨rfl,rfl,rfl⟩:=trodAll_nil r1
 obtain rfl:args=#[v0,v1]:=by cases args;simp_all
 obtain ⟨rfl,rfl⟩:=trodVars_none hV
 have lt0:∀ x∈p0,x.block < W.heap.size:=by obtain ⟨m,hm⟩:=h0;exact DataW.trod_lt m _ _ _ hm
 obtain ⟨tv0,ta0,tc0,tR0,rfl,hTv0,hT0,hTw0,hTc0,hTu0⟩:=open_Tab (hval 0 24 v0 rfl rfl) h0 (sized_at 0 hsz rfl rfl)
 have lt1:∀ x∈p1,x.block < W.heap.size:=by obtain ⟨m,hm⟩:=h1;exact DataW.trod_lt m _ _ _ hm
 obtain ⟨xa1,xl1,xc1,rfl⟩:=okWide_slice Tryz.underlying35 (hval 1 35 v1 rfl rfl)
 obtain ⟨fu1,hm1⟩:=id h1
 obtain ⟨⟨fa1,fc1,fL1⟩,hcs1,hF1,hFw1,hFu1⟩:=open_FormB hm1 (sized_at 1 hsz rfl rfl)
 simp [Value.cells,FV.val] at hcs1
 obtain ⟨rfl,rfl,rfl⟩:=hcs1
 replace hFu1:bul fL1+1≤Rows.uptoBulk d1:=hFu1
 clear hA0
 have hbulk:=of_decide_eq_true hk
 simp only [List.append_nil,Rows.uptoBulkAll] at hbulk
 simp only [List.append_nil] at hW'
 refine (walk tv0 ta0 tc0 tR0 xa1 xc1 fL1 W hTv0 hT0 hTw0 hTc0 (by omega) hF1 hFw1 (by omega)).mono fun e W' ⟨he,bel⟩=>?_
 subst he
 exact ⟨_,rfl,_,_,_,[],_,[],hW',trodAll_mk1 (shut_bool Tryz.underlying4 _),(trodAll_cons_mk (Below.trod laidOut (by kernel_rfl) (of_decide_eq_true (by kernel_rfl)) h0 bel lt0) (trodAll_cons_mk (Below.trod laidOut (by kernel_rfl) (of_decide_eq_true (by kernel_rfl)) h1 bel lt1) trodAll_mk0)),rfl,bel.frame _,fun h=>by cases h⟩
set_option maxRecDepth 100000 in
theorem lifted (os:Os) (started:os.Started) (H:Type) (enc:TypeId × Value→H) (F:Stop.Interp) :
  ReturnsInHanded {} Tryz.checked os 4 .any ((Rows.OpenSpec.upto Rows.tableauGrowsSpec).pre6 enc Tryz.prog Tryz.f4 Rows.tableauGrowsUptoRow.domain false) (((Rows.OpenSpec.upto Rows.tableauGrowsSpec).at F).post enc Tryz.prog Tryz.f4 false true false false):=by
 refine returnsInHanded_of_cond_sized (C:=Tryz.checked) (s:=Rows.OpenSpec.upto Rows.tableauGrowsSpec) (k:=Rows.uptoSmall) rfl own started (by kernel_rfl) Tryz.func4
  (OpenSpec.witness (enc:=enc) (C:=Tryz.checked) (s:=Rows.OpenSpec.upto Rows.tableauGrowsSpec) (k:=Rows.uptoSmall) rfl false ⟨#[],#[.agg #[.int .i64 0,.slice none 0 0],.slice none 0 0],[]⟩ 8 (by kernel_rfl) (by kernel_rfl) (by kernel_rfl)
   (x:=([.agg [.lit (.int .i64 0),.nil],.nil],[],[])) (by kernel_rfl) rfl (by kernel_rfl)) ?_
 intro W base args ds gs before hval hW _ hk hsz _
 exact contract H enc W base args ds gs before hval hW hsz hk
theorem over:Rows.tableauGrowsUptoRow.holds Tryz.pinned (Rows.OpenSpec.upto Rows.tableauGrowsSpec) :=
 OpenClaim.holds_of_cond 4 Tryz.f4 rfl rfl rfl rfl rfl rfl rfl ⟨rfl,rfl,rfl,rfl,rfl⟩ rfl rfl rfl rfl rfl (by kernel_rfl) Tryz.func4 (by kernel_rfl)
  (of_decide_eq_true (by kernel_rfl)) (by unfold Func.isWrapper;first | (rw [if_pos (by decide +kernel)];kernel_rfl) | (rw [if_neg (by decide +kernel)];exact ⟨rfl,rfl⟩))
  (fun os started H enc _ F=>lifted os started H enc F)
end Go.Proofs.YtlklfkkbdcglbaaGreat.tableauGrows
namespace Go.Proofs.YtlklfkkbdcglbaaGreat
theorem tableauGrows_holds:Rows.TableauGrowsUptoSaid:=tableauGrows.over
#print axioms tableauGrows_holds
end Go.Proofs.YtlklfkkbdcglbaaGreat
