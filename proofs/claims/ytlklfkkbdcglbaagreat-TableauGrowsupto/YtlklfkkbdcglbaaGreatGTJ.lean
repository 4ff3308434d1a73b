import Derived.Test.YtlklfkkbdcglbaaGreatGTG
set_option linter.unusedSimpArgs false
namespace Go.Proofs.YtlklfkkbdcglbaaGreat
open Go.RowKit
set_option linter.unusedVariables false
def oneQ (p q:Option Addr):RatV:=⟨false,p,1,1,1,q,1,1,1⟩
theorem oneQ_eq (p q:Option Addr):oneQ p q=RatV.of (1:Rat).num (1:Rat).den p q:=by
 show oneQ p q=RatV.of (1:Int) (1:Nat) p q
 unfold oneQ RatV.of
 rw [show am 1=1 from rfl,ln_one]
 rfl
theorem oneQ_val (p q:Option Addr):(oneQ p q).val=1:=by rw [oneQ_eq];exact val_ofR 1 p q
theorem oneQ_low (p q:Option Addr):(oneQ p q).low:=by rw [oneQ_eq];exact ofR_low 1 p q
structure OneQ (w:World) (B:Nat) (Q:RatV):Prop where
 ok:Q.ok w
 low:Q.low
 frm:Q.frm B
 val:Q.val=1
 n:Q.n=1
 m:Q.m=1
theorem OneQ.later {w w':World} {B:Nat} {Q:RatV} (h:OneQ w B Q) (hb:Below w.heap.size w w'):OneQ w' B Q:=⟨okR_kc h.ok (Kc.of hb),h.low,h.frm,h.val,h.n,h.m⟩
theorem OneQ.of {w:World} {B:Nat} {p q:Option Addr} (s1:Seg w p 1 1) (s2:Seg w q 1 1) (f1:∀ ad,p=some ad→B≤ad.block) (f2:∀ ad,q=some ad→B≤ad.block):OneQ w B (oneQ p q) :=
 ⟨⟨s1,Nat.le_refl _,by show 1≤_;omega,s2,Nat.le_refl _,by show 1≤_;omega⟩,oneQ_low p q,⟨fun _=>f1,fun _=>f2⟩,oneQ_val p q,rfl,rfl⟩
def MoA (v:Int) (w:World) (e:Ending) (w':World):Prop:=∃ Q:RatV,e=.returned (.agg #[.int .i64 v,.bool Q.s,.slice Q.a Q.n Q.c,.slice Q.b Q.m Q.e])∧OneQ w' w.heap.size Q∧Below w.heap.size w w'
set_option maxHeartbeats 4000000 in
set_option maxRecDepth 100000 in
theorem mono1_is (v:Int) (w:World):Calls Tryz.prog 51 #[.int .i64 v,.int .i64 1] w (MoA v w):=by
 obtain ⟨TQ,hTQ⟩:∃ TQ,MoA v w=TQ:=⟨_,rfl⟩
 rw [hTQ]
 replace hTQ:=xQ2 hTQ
 have G:=xQ2 (fun w'=>(show Calls Tryz.prog 64 #[.int .i64 1] w' fun e w''=>∃ p q,e=.returned (.agg #[.bool false,.slice p 1 1,.slice q 1 1])∧New w' w'' p 1 1∧New w' w'' q 1 1 from by have h:=vqWhole_is 1 w' (by omega) (by omega);rw [show ng 1=false from rfl,show am 1=1 from rfl,ln_one] at h;exact h))
 have b1:=xQ1 (w:=w) (.cells #[.int .i64 0,.bool false,.slice none 0 0,.slice none 0 0] 76)
 have r1:=four_new w (.int .i64 0) (.bool false) (.slice none 0 0) (.slice none 0 0) 76
 go_enter Tryz.func51,Tryz.ntmps51
 go_wp2_with fail
 obtain ⟨wA,hwA⟩:∃ wA,w.alloc (.cells #[.int .i64 0,.bool false,.slice none 0 0,.slice none 0 0] 76)=wA:=⟨_,rfl⟩
 rw [hwA] at b1 r1 ⊢
 clear hwA
 refine (G.out _).mono ?_
 rintro e w1 ⟨p,q,rfl,n1,n2⟩
 have hB:=b1.trans (n1.below.mono b1.size)
 replace r1:=r1.later n1.below
 have HX:=xQ2 (show MoA v w (.returned (.agg #[.int .i64 v,.bool false,.slice p 1 1,.slice q 1 1])) (set4 w1 w.heap.size (.int .i64 v) (.bool false) (.slice p 1 1) (.slice q 1 1)) from ⟨oneQ p q,rfl,OneQ.of (r1.seg (u0:=.int .i64 v) (u1:=.bool false) (u2:=.slice p 1 1) (u3:=.slice q 1 1) (by simp) (by simp) (by simp) (by simp) n1.seg) (r1.seg (u0:=.int .i64 v) (u1:=.bool false) (u2:=.slice p 1 1) (u3:=.slice q 1 1) (by simp) (by simp) (by simp) (by simp) n2.seg) (fun ad e=>Nat.le_trans b1.size (n1.fr (by omega) ad e)) (fun ad e=>Nat.le_trans b1.size (n2.fr (by omega) ad e)),below_set4 (u0:=.int .i64 v) (u1:=.bool false) (u2:=.slice p 1 1) (u3:=.slice q 1 1) hB (Nat.le_refl _)⟩)
 rw [hTQ.out] at HX
 have vN2:=r1.put (u0:=.int .i64 v) (u1:=.bool false) (u2:=.slice p 1 1) (u3:=.slice q 1 1)
 have z0:=r1.1.1
 have z1:=r1.1.2.1
 have z2:=r1.1.2.2.1
 have z3:=r1.1.2.2.2
 have fz:=fun o=>r1.2.frozen o
 clear n1 n2 hB b1 r1 G
 have y0:=vN2.1.1
 have y1:=vN2.1.2.1
 have y2:=vN2.1.2.2.1
 have y3:=vN2.1.2.2.2
 clear vN2
 unfold set4 at HX y0 y1 y2 y3
 go_wp2_with fail
 clear z0 z1 z2 z3 fz
 generalize ((((w1.setCell ⟨w.heap.size,0,none⟩ (.int .i64 v)).setCell ⟨w.heap.size,1,none⟩ (.bool false)).setCell ⟨w.heap.size,2,none⟩ (.slice p 1 1)).setCell ⟨w.heap.size,3,none⟩ (.slice q 1 1))=w9 at HX y0 y1 y2 y3 ⊢
 go_wp2
 first | exact HX.out | (refine bodyPost_ret (v:=.agg #[.int .i64 v,.bool false,.slice p 1 1,.slice q 1 1]) (by rw [xQ5 rfl];go_simp) rfl ?_;exact HX.out)
theorem nfm_ab:nfm [((1:Int),(1:Rat)),(0,1)]=[(0,1),(1,1)]:=(nfm_uniq ⟨by simp,fun p hp=>by simp at hp;rcases hp with rfl | rfl <;> exact (by decide)⟩ fun x=>by simp only [co];grind).symm
theorem exL_nil:∀ l:Fo,exL [] l=l
 | []=>rfl
 | p :: l=>by
  simp only [exL,exL_nil l]
  show fmap (fun r=>p.2*r) [(p.1,1)] ++ l=p :: l
  simp [fmap,Rat.mul_one]
theorem exF_two:exF [] [((1:Int),(1:Rat)),(0,1)]=[(0,1),(1,1)]:=by
 unfold exF
 rw [exL_nil,nfm_ab,←nfm_ab]
 exact (nfm_self (xJ8 _)).symm
theorem one_len {q:RatV} (h:q.low) (hv:q.val=1):q.n=1∧q.m=1:=by
 have e:=low_val h
 rw [hv] at e
 rw [e]
 exact ⟨ln_one,ln_one⟩
theorem cost_ones {g:Int→Option FV}:∀ {FL:List Mo},(∀ p∈FL,g p.1=none)→(∀ p∈FL,p.2.low)→(∀ p∈FL,p.2.val=1)→costL g FL=7*FL.length
 | [],_,_,_=>rfl
 | p :: FL,h1,h2,h3=>by
  have e:=one_len (h2 p List.mem_cons_self) (h3 p List.mem_cons_self)
  simp only [costL,cost_ones (fun q hq=>h1 q (List.mem_cons_of_mem _ hq)) (fun q hq=>h2 q (List.mem_cons_of_mem _ hq)) (fun q hq=>h3 q (List.mem_cons_of_mem _ hq)),cost1,h1 p List.mem_cons_self,e.1,e.2,List.length_cons]
  omega
theorem cost_two {w1:World} {g:Int→Option FV} (hG:RF w1 g []) {FL:List Mo} (hl:∀ p∈FL,p.2.low) (hf:fo FL=nfm [((1:Int),(1:Rat)),(0,1)]):costL g FL≤2097152:=by
 rw [nfm_ab] at hf
 have hlen:FL.length=2:=by have:=congrArg List.length hf;rw [xQ8] at this;simpa using this
 rw [cost_ones (fun p hp=>hG.miss.2 rfl) hl fun p hp=>?_,hlen]
 ·omega
 ·have:(p.1,p.2.val)∈fo FL:=List.mem_map.2 ⟨p,hp,rfl⟩
  rw [hf] at this
  simp at this
  rcases this with h | h <;> exact h.2
theorem two_at {w:World} {b:Nat} {x y:Int} {P Q:RatV} {t:TypeId} (h:w.heap[b]?=some (.cells #[.int .i64 x,.bool P.s,.slice P.a P.n P.c,.slice P.b P.m P.e,.int .i64 y,.bool Q.s,.slice Q.a Q.n Q.c,.slice Q.b Q.m Q.e] t (0,0))):FAt w (some ⟨b,0,none⟩) [(x,P),(y,Q)]:=fun _=>by
 refine ⟨b,0,rfl,(Array.getElem?_eq_some_iff.1 h).1,fun i p hi=>?_⟩
 match i with
 | 0 =>
  simp only [List.getElem?_cons_zero,Option.some.injEq] at hi
  subst hi
  refine ⟨?_,?_,?_,?_⟩ <;> simp [World.cell?,h]
 | 1 =>
  simp only [List.getElem?_cons_succ,List.getElem?_cons_zero,Option.some.injEq] at hi
  subst hi
  refine ⟨?_,?_,?_,?_⟩ <;> simp [World.cell?,h]
 | i+2=>simp at hi
theorem two_nk {w:World} {b:Nat} {x y:Int} {P Q:RatV} {B C:Nat} (h:FAt w (some ⟨b,0,none⟩) [(x,P),(y,Q)]) (hP:OneQ w B P) (hQ:OneQ w C Q):FV.nk w ⟨some ⟨b,0,none⟩,2,[(x,P),(y,Q)]⟩:=by
 refine ⟨⟨h,Nat.le_refl _,fun h=>(by cases h)⟩,fun p hp=>?_⟩
 simp at hp
 rcases hp with rfl | rfl
 ·exact ⟨hP.ok,hP.low⟩
 ·exact ⟨hQ.ok,hQ.low⟩
theorem two_fo {b:Nat} {x y:Int} {P Q:RatV} {w:World} {B C:Nat} (hP:OneQ w B P) (hQ:OneQ w C Q):(FV.mk (some ⟨b,0,none⟩) 2 [(x,P),(y,Q)]).fo=[(x,1),(y,1)]:=by
 show [(x,P.val),(y,Q.val)]=_
 rw [hP.val,hQ.val]
theorem two_sm {w:World} {b:Nat} {x y:Int} {P Q:RatV} {B C:Nat} (h:FAt w (some ⟨b,0,none⟩) [(x,P),(y,Q)]) (hP:OneQ w B P) (hQ:OneQ w C Q):FV.sm w ⟨some ⟨b,0,none⟩,2,[(x,P),(y,Q)]⟩ :=
 ⟨(two_nk h hP hQ).ok,by simp only [bul,hP.n,hP.m,hQ.n,hQ.m];omega⟩
theorem row_at {w:World} {b:Nat} {x:Int} {F:FV} {t:TypeId} (h:w.heap[b]?=some (.cells #[.int .i64 x,F.val] t (0,0))):TAt w (some ⟨b,0,none⟩) [(x,F)]:=fun _=>by
 refine ⟨b,0,rfl,(Array.getElem?_eq_some_iff.1 h).1,fun i p hi=>?_⟩
 match i with
 | 0 =>
  simp only [List.getElem?_cons_zero,Option.some.injEq] at hi
  subst hi
  refine ⟨?_,?_⟩ <;> simp [World.cell?,h]
 | i+1=>simp at hi
def DfB (w:World) (e:Ending) (w':World):Prop:=∃ (a:Option Addr) (c:Nat) (S:List RowV),e=.returned (.tuple #[.agg #[.int .i64 3,.slice a S.length c],.int .i64 2,.int .i64 0])∧TNk w' a S∧S.length≤c∧S.length≤1∧tb S=[(2,[(0,1),(1,1)])]∧Below w.heap.size w w'∧∀ ad,a=some ad→S≠[]→w.heap.size≤ad.block
theorem define2_is {w:World} {b:Nat} {P Q:RatV} {B C:Nat} (h:FAt w (some ⟨b,0,none⟩) [(1,P),(0,Q)]) (hP:OneQ w B P) (hQ:OneQ w C Q) :
  Calls Tryz.prog 20 #[.agg #[.int .i64 2,.slice none 0 0],.slice (some ⟨b,0,none⟩) 2 2] w (DfB w):=by
 have hfo:=two_fo (b:=b) (x:=1) (y:=0) hP hQ
 have hmb:mayBe 2 (tb ([]:List RowV)):=⟨by omega,by omega,List.Pairwise.nil,fun r hr=>absurd hr (by simp [tb]),fun r hr=>absurd hr (by simp [tb])⟩
 have hin:inV 2 (FV.mk (some ⟨b,0,none⟩) 2 [(1,P),(0,Q)]).fo:=by
  rw [hfo]
  unfold inV
  rw [nfm_ab]
  intro p hp
  simp at hp
  rcases hp with rfl | rfl <;> simp
 have H:=pDefine_is 2 none 0 [] ⟨some ⟨b,0,none⟩,2,[(1,P),(0,Q)]⟩ w ⟨fun hn=>absurd rfl hn,fun r hr=>absurd hr (by simp),fun r hr=>absurd hr (by simp)⟩ (Nat.le_refl _) (by simp [bulT]) (fun r hr=>absurd hr (by simp)) (two_sm h hP hQ)
  (by rw [hfo];intro p hp;simp at hp;rcases hp with rfl | rfl <;> exact wfI_of (by omega) (by omega))
  (fun w1 g hG FL hl hf=>by rw [hfo] at hf;exact cost_two hG hl hf)
 refine H.mono ?_
 rintro e w' (⟨(⟨h1,_⟩ | ⟨_,h1,_⟩ | ⟨_,_,h1,_⟩),_⟩ | ⟨_,_,_,v,S,rfl,⟨⟨a,c,rfl,hn,hl,hf⟩,hb,hr⟩,hN,hSl⟩)
 ·exact absurd hmb h1
 ·exact absurd hin h1
 ·exact absurd h1 (by decide)
 ·refine ⟨a,c,S,rfl,hn,hl,hSl,?_,hb,hf⟩
  refine hN.uniq ⟨List.pairwise_singleton _ _,fun v=>?_⟩
  rw [hfo]
  show lk [(2,[(0,1),(1,1)])] v=(lk [(2,exF [] [((1:Int),(1:Rat)),(0,1)])] v).map nfm
  rw [exF_two]
  simp only [lk]
  split
  ·show some _=some (nfm _)
   rw [←nfm_ab,←nfm_self (xJ8 _)]
  ·rfl
theorem new7 (w:World) (cs:Array Value) (t:TypeId):(w.alloc (.cells cs t)).heap[w.heap.size]?=some (.cells cs t (0,0)):=World.alloc_heap_new w _
theorem row_nk {w:World} {b:Nat} {x:Int} {F:FV} (h:TAt w (some ⟨b,0,none⟩) [(x,F)]) (hF:F.nk w) (hx:wfI x):TNk w (some ⟨b,0,none⟩) [(x,F)] :=
 ⟨h,fun r hr=>by obtain rfl:=List.mem_singleton.1 hr;exact hF,fun r hr=>by obtain rfl:=List.mem_singleton.1 hr;exact hx⟩
theorem short_S {S:List RowV} (h:tb S=[(2,[(0,1),(1,1)])]):∀ r∈S,r.2.L.length≤2097152:=fun r hr=>by
 have h1:(r.1,r.2.fo)∈tb S:=List.mem_map.2 ⟨r,hr,rfl⟩
 rw [h] at h1
 simp at h1
 have h2:=congrArg List.length h1.2
 unfold FV.fo at h2
 rw [xQ8] at h2
 simp at h2
 omega
set_option maxHeartbeats 16000000 in
set_option maxRecDepth 100000 in
theorem lives_is (w:World):Calls Tryz.prog 17 #[] w fun e w'=>e=.returned (.bool true)∧Below w.heap.size w w':=by
 have GN:=xQ2 (fun w'=>pNew_is 2 w')
 rw [show newV 2=2 from rfl,show newE 2=0 from rfl] at GN
 have GM:=xQ2 (fun v w'=>mono1_is v w')
 have GD:=xQ2 (fun w' b P Q B C (h:FAt w' (some ⟨b,0,none⟩) [(1,P),(0,Q)]) (hP:OneQ w' B P) (hQ:OneQ w' C Q)=>define2_is h hP hQ)
 have GA:=xQ2 (fun w' a c (S:List RowV) (hS:TNk w' a S) (hc:S.length≤c) (h1:S.length≤1) (hs:tb S=[(2,[(0,1),(1,1)])]) b F (hR:TNk w' (some ⟨b,0,none⟩) [(2,F)]) (hf:F.fo=[(0,1),(1,1)])=>alike_is 3 a c S (some ⟨b,0,none⟩) 1 [(2,F)] w' hS hR hc (Nat.le_refl _) (by omega) (short_S hs) (by rw [hs];show _=[((2:Int),F.fo)];rw [hf]))
 go_enter Tryz.func17,Tryz.ntmps17
 go_wp2_with fail
 refine (GN.out w).mono ?_
 rintro e w1 ⟨rfl,b1⟩
 clear GN
 have bA:=xQ1 (w:=w1) (.cells #[.int .i64 2,.slice none 0 0] 24)
 have kb:=Bk2.new w1 2 none 0 0 24
 have hBw:=b1.trans (bA.mono b1.size)
 have hrb:=b1.size
 clear b1 bA
 go_wp2_with fail
 obtain ⟨wA,hwA⟩:∃ wA,w1.alloc (.cells #[.int .i64 2,.slice none 0 0] 24)=wA:=⟨_,rfl⟩
 rw [hwA] at kb hBw ⊢
 clear hwA
 obtain ⟨rb,hr⟩:∃ rb,w1.heap.size=rb:=⟨_,rfl⟩
 rw [hr] at kb hrb ⊢
 clear hr
 try go_wp2_with fail
 have bD:Below wA.heap.size wA wA.drew:=(Below.refl _ _).drew
 replace hBw:=hBw.trans (bD.mono hBw.size)
 replace kb:=kb.later bD
 refine wp_region_held_drew (S:=fun w'=>True) (by kernel_rfl) trivial (fun hHeld=>?_)
 generalize wA.drew=w4 at bD kb hBw hHeld ⊢
 clear bD
 refine wpAnyH_ready (rs:=[0,1]) (by kernel_rfl) (by simp) ?_
 refine consT rfl (fun KK hKK=>?_) ?_
 ·skip
  have z0:=kb.cell0
  have z1:=kb.cell1
  go_simp
  clear z0 z1
  refine hKK.out _ _ hHeld ?_
  clear hHeld
  intro hHeld
  clear hKK KK
  try simp only [pA]
  refine wpAnyH_ready (rs:=[1]) (by kernel_rfl) (by simp) ?_
  refine xX1 rfl (fun KK hKK=>?_)
  go_simp
  refine (GM.out 1 _).mono ?_
  rintro e w5 ⟨P,rfl,qP,bN⟩
  have bC:=bN
  replace hBw:=hBw.trans (bC.mono hBw.size)
  replace kb:=kb.later bC
  clear bC
  go_wp2_with fail
  clear bN
  refine hKK.out _ _ hHeld ?_
  clear hHeld
  intro hHeld
  clear hKK KK
  try simp only [pA]
  refine wpAnyH_ready (rs:=[2]) (by kernel_rfl) (by simp) ?_
  refine xX1 rfl (fun KK hKK=>?_)
  go_simp
  refine (GM.out 0 _).mono ?_
  rintro e w6 ⟨Q,rfl,qQ,bN⟩
  have bC:=bN
  replace hBw:=hBw.trans (bC.mono hBw.size)
  replace kb:=kb.later bC
  replace qP:=qP.later bC
  clear bC
  go_wp2_with fail
  clear bN
  refine hKK.out _ _ hHeld ?_
  clear hHeld
  intro hHeld
  clear hKK KK
  try simp only [pA]
  refine wpAnyH_ready (rs:=[3]) (by kernel_rfl) (by simp) ?_
  refine xX1 rfl (fun KK hKK=>?_)
  go_simp
  have hat:=two_at (new7 w6 #[.int .i64 1,.bool P.s,.slice P.a P.n P.c,.slice P.b P.m P.e,.int .i64 0,.bool Q.s,.slice Q.a Q.n Q.c,.slice Q.b Q.m Q.e] 76)
  have b3:=xQ1 (w:=w6) (.cells #[.int .i64 1,.bool P.s,.slice P.a P.n P.c,.slice P.b P.m P.e,.int .i64 0,.bool Q.s,.slice Q.a Q.n Q.c,.slice Q.b Q.m Q.e] 76)
  generalize w6.alloc (.cells #[.int .i64 1,.bool P.s,.slice P.a P.n P.c,.slice P.b P.m P.e,.int .i64 0,.bool Q.s,.slice Q.a Q.n Q.c,.slice Q.b Q.m Q.e] 76)=w7 at hat b3 ⊢
  replace hBw:=hBw.trans (b3.mono hBw.size)
  replace kb:=kb.later b3
  replace qP:=qP.later b3
  replace qQ:=qQ.later b3
  clear b3
  refine hKK.out _ _ hHeld ?_
  clear hHeld
  intro hHeld
  clear hKK KK
  try simp only [pA]
  refine wpAnyH_ready (rs:=[4]) (by kernel_rfl) (by simp) ?_
  refine xX1 rfl (fun KK hKK=>?_)
  have h7:=kb.lt
  go_simp
  refine (GD.out _ _ _ _ _ _ hat qP qQ).mono ?_
  rintro e w8 ⟨a,c,S,rfl,hn,hc,h1,hs,b8,hf⟩
  have bC:=b8
  replace hBw:=hBw.trans (bC.mono hBw.size)
  replace kb:=kb.later bC
  replace qP:=qP.later bC
  replace qQ:=qQ.later bC
  replace hat:=hat.later bC
  clear bC
  go_wp2_with fail
  have hne:∀ ad,a=some ad→S≠[]→ad.block≠rb:=fun ad e h=>by have h2:=hf ad e h;omega
  clear b8 h7 hf hat qP qQ GD
  refine hKK.out _ _ hHeld ?_
  clear hHeld
  intro hHeld
  clear hKK KK
  try simp only [pA]
  refine tk 5 (v:=?_) rfl (Or.inl ⟨by rfl,?_⟩) ?_
  rotate_left
  ·intro w9 hSw
   go_simp
   try with_reducible rfl
  simp only [pA]
  refine tk 6 (v:=?_) rfl (Or.inl ⟨by rfl,?_⟩) ?_
  rotate_left
  ·intro w9 hSw
   go_simp
   try with_reducible rfl
  simp only [pA]
  refine tk 7 (v:=?_) rfl (Or.inl ⟨by rfl,?_⟩) ?_
  rotate_left
  ·intro w9 hSw
   go_simp
   try with_reducible rfl
  simp only [pA]
  refine tk 8 (v:=?_) rfl (Or.inl ⟨by rfl,?_⟩) ?_
  rotate_left
  ·intro w9 hSw
   go_simp
   try with_reducible rfl
  simp only [pA]
  refine wpAnyH_ready (rs:=[9]) (by kernel_rfl) (by simp) ?_
  refine xX1 rfl (fun KK hKK=>?_)
  have z0:=kb.cell0
  have z1:=kb.cell1
  have fz:=fun o=>kb.row.frozen o
  have hy0:((w8.setCell ⟨rb,0,none⟩ (.int .i64 3)).setCell ⟨rb,1,none⟩ (.slice a S.length c)).cell? ⟨rb,0,none⟩=some (.int .i64 3):=(World.cell?_setCell_other _ _ _ _ (fun e=>by simp at e)).trans (World.cell?_setCell_same _ _ _ z0)
  have hy1:((w8.setCell ⟨rb,0,none⟩ (.int .i64 3)).setCell ⟨rb,1,none⟩ (.slice a S.length c)).cell? ⟨rb,1,none⟩=some (.slice a S.length c):=World.cell?_setCell_same _ _ _ ((World.cell?_setCell_other _ _ _ _ (fun e=>by simp at e)).trans z1)
  replace hn:TNk ((w8.setCell ⟨rb,0,none⟩ (.int .i64 3)).setCell ⟨rb,1,none⟩ (.slice a S.length c)) a S:=(hn.set kb hne).set (kb.set (b:=none) (k:=0) (l:=0)) hne
  replace hBw:Below w.heap.size w ((w8.setCell ⟨rb,0,none⟩ (.int .i64 3)).setCell ⟨rb,1,none⟩ (.slice a S.length c)):=(hBw.setCell hrb _).setCell hrb _
  clear kb hne
  go_simp
  refine hKK.out _ _ hHeld ?_
  clear hHeld
  intro hHeld
  clear hKK KK
  try simp only [pA]
  clear z0 z1 fz
  generalize ((w8.setCell ⟨rb,0,none⟩ (.int .i64 3)).setCell ⟨rb,1,none⟩ (.slice a S.length c))=w9 at hy0 hy1 hn hBw ⊢
  refine tk 10 (v:=?_) rfl (Or.inl ⟨by rfl,?_⟩) ?_
  rotate_left
  ·intro w9 hSw
   go_simp
   try with_reducible rfl
  simp only [pA]
  refine tk 11 (v:=?_) rfl (Or.inl ⟨by rfl,?_⟩) ?_
  rotate_left
  ·intro w9 hSw
   go_simp
   try with_reducible rfl
  simp only [pA]
  refine wpAnyH_done (by kernel_rfl) ?_ _
  try clear hHeld
  go_wp2_with fail
  have bD:Below w9.heap.size w9 w9.drew:=(Below.refl _ _).drew
  have khy0:=xQ0 bD hy0
  have khy1:=xQ0 bD hy1
  replace hBw:=hBw.trans (bD.mono hBw.size)
  replace hn:=hn.later bD
  refine wp_region_held_drew (S:=fun w'=>w'.cell? ⟨rb,0,none⟩=some (.int .i64 3)∧w'.cell? ⟨rb,1,none⟩=some (.slice a S.length c)) (by kernel_rfl) ⟨khy0,khy1⟩ (fun hHeld=>?_)
  clear khy0 khy1
  generalize w9.drew=v4 at bD hn hBw hHeld ⊢
  clear bD hy0 hy1
  refine tk 0 (v:=?_) rfl (Or.inl ⟨by rfl,?_⟩) ?_
  rotate_left
  ·intro w9 hSw
   go_simp
   try with_reducible rfl
  simp only [pA]
  refine tk 1 (v:=?_) rfl (Or.inl ⟨by rfl,?_⟩) ?_
  rotate_left
  ·intro w9 hSw
   go_simp
   try with_reducible rfl
  simp only [pA]
  refine tk 2 (v:=?_) rfl (Or.inl ⟨by rfl,?_⟩) ?_
  rotate_left
  ·intro w9 hSw
   go_simp
   try with_reducible rfl
  simp only [pA]
  refine tk 3 (v:=?_) rfl (Or.inl ⟨by rfl,?_⟩) ?_
  rotate_left
  ·intro w9 hSw
   go_simp
   try with_reducible rfl
  simp only [pA]
  refine tk 4 (v:=?_) rfl (Or.inl ⟨by rfl,?_⟩) ?_
  rotate_left
  ·intro w9 hSw
   go_simp
   try with_reducible rfl
  simp only [pA]
  refine tk 5 (v:=?_) rfl (Or.inl ⟨by rfl,?_⟩) ?_
  rotate_left
  ·intro w9 hSw
   go_simp
   try with_reducible rfl
  simp only [pA]
  refine tk 6 (v:=?_) rfl (Or.inl ⟨by rfl,?_⟩) ?_
  rotate_left
  ·intro w9 hSw
   go_simp
   try with_reducible rfl
  simp only [pA]
  refine tk 7 (v:=?_) rfl (Or.inl ⟨by rfl,?_⟩) ?_
  rotate_left
  ·intro w9 hSw
   go_simp
   try with_reducible rfl
  simp only [pA]
  refine wpAnyH_ready (rs:=[8]) (by kernel_rfl) (by simp) ?_
  refine xX1 rfl (fun KK hKK=>?_)
  go_simp
  refine (GM.out 0 _).mono ?_
  rintro e v5 ⟨P,rfl,qP,bN⟩
  have bC:=bN
  replace hBw:=hBw.trans (bC.mono hBw.size)
  replace hn:=hn.later bC
  replace hHeld:=(⟨xQ0 bC hHeld.1,xQ0 bC hHeld.2⟩:_∧_)
  clear bC
  go_wp2_with fail
  clear bN
  refine hKK.out _ _ hHeld ?_
  clear hHeld
  intro hHeld
  clear hKK KK
  try simp only [pA]
  refine wpAnyH_ready (rs:=[9]) (by kernel_rfl) (by simp) ?_
  refine xX1 rfl (fun KK hKK=>?_)
  go_simp
  refine (GM.out 1 _).mono ?_
  rintro e v6 ⟨Q,rfl,qQ,bN⟩
  have bC:=bN
  replace hBw:=hBw.trans (bC.mono hBw.size)
  replace hn:=hn.later bC
  replace qP:=qP.later bC
  replace hHeld:=(⟨xQ0 bC hHeld.1,xQ0 bC hHeld.2⟩:_∧_)
  clear bC
  go_wp2_with fail
  clear bN
  refine hKK.out _ _ hHeld ?_
  clear hHeld
  intro hHeld
  clear hKK KK
  try simp only [pA]
  refine wpAnyH_ready (rs:=[10]) (by kernel_rfl) (by simp) ?_
  refine xX1 rfl (fun KK hKK=>?_)
  go_simp
  have hat:=two_at (new7 v6 #[.int .i64 0,.bool P.s,.slice P.a P.n P.c,.slice P.b P.m P.e,.int .i64 1,.bool Q.s,.slice Q.a Q.n Q.c,.slice Q.b Q.m Q.e] 76)
  have b3:=xQ1 (w:=v6) (.cells #[.int .i64 0,.bool P.s,.slice P.a P.n P.c,.slice P.b P.m P.e,.int .i64 1,.bool Q.s,.slice Q.a Q.n Q.c,.slice Q.b Q.m Q.e] 76)
  generalize v6.alloc (.cells #[.int .i64 0,.bool P.s,.slice P.a P.n P.c,.slice P.b P.m P.e,.int .i64 1,.bool Q.s,.slice Q.a Q.n Q.c,.slice Q.b Q.m Q.e] 76)=v7 at hat b3 ⊢
  replace hBw:=hBw.trans (b3.mono hBw.size)
  replace hn:=hn.later b3
  replace qP:=qP.later b3
  replace qQ:=qQ.later b3
  replace hHeld:=(⟨xQ0 b3 hHeld.1,xQ0 b3 hHeld.2⟩:_∧_)
  clear b3
  refine hKK.out _ _ hHeld ?_
  clear hHeld
  intro hHeld
  clear hKK KK
  try simp only [pA]
  have hFk:=two_nk hat qP qQ
  have hFo:=two_fo (b:=v6.heap.size) (x:=0) (y:=1) qP qQ
  clear hat qP qQ
  refine tk 11 (v:=?_) rfl (Or.inl ⟨by rfl,?_⟩) ?_
  rotate_left
  ·intro w9 hSw
   go_simp
   try with_reducible rfl
  simp only [pA]
  refine wpAnyH_ready (rs:=[12]) (by kernel_rfl) (by simp) ?_
  refine xX1 rfl (fun KK hKK=>?_)
  go_simp
  have hrw:TAt _ (some ⟨v7.heap.size,0,none⟩) [((2:Int),(⟨some ⟨v6.heap.size,0,none⟩,2,[(0,P),(1,Q)]⟩:FV))]:=row_at (new7 v7 #[.int .i64 2,.slice (some ⟨v6.heap.size,0,none⟩) 2 2] 65)
  have b3:=xQ1 (w:=v7) (.cells #[.int .i64 2,.slice (some ⟨v6.heap.size,0,none⟩) 2 2] 65)
  generalize v7.alloc (.cells #[.int .i64 2,.slice (some ⟨v6.heap.size,0,none⟩) 2 2] 65)=v8 at hrw b3 ⊢
  replace hBw:=hBw.trans (b3.mono hBw.size)
  replace hn:=hn.later b3
  replace hFk:=hFk.later b3
  replace hHeld:=(⟨xQ0 b3 hHeld.1,xQ0 b3 hHeld.2⟩:_∧_)
  clear b3
  refine hKK.out _ _ hHeld ?_
  clear hHeld
  intro hHeld
  clear hKK KK
  try simp only [pA]
  have hRk:=row_nk hrw hFk (wfI_of (by omega) (by omega))
  clear hrw hFk
  refine tk 13 (v:=?_) rfl (Or.inl ⟨by rfl,?_⟩) ?_
  rotate_left
  ·intro w9 hSw
   go_simp
   try with_reducible rfl
  simp only [pA]
  refine wpAnyH_ready (rs:=[14]) (by kernel_rfl) (by simp) ?_
  refine xX1 rfl (fun KK hKK=>?_)
  go_simp
  refine (GA.out _ a c S hn hc h1 hs _ _ hRk hFo).mono ?_
  rintro e v9 ⟨rfl,b9⟩
  have bC:=b9
  replace hBw:=hBw.trans (bC.mono hBw.size)
  replace hn:=hn.later bC
  replace hRk:=hRk.later bC
  replace hHeld:=(⟨xQ0 bC hHeld.1,xQ0 bC hHeld.2⟩:_∧_)
  clear bC
  go_wp2_with fail
  clear b9
  refine hKK.out _ _ hHeld ?_
  clear hHeld
  intro hHeld
  clear hKK KK
  try simp only [pA]
  refine tk 15 (v:=?_) rfl (Or.inl ⟨by rfl,?_⟩) ?_
  rotate_left
  ·intro w9 hSw
   go_simp
   try with_reducible rfl
  simp only [pA]
  refine tk 16 (v:=?_) rfl (Or.inl ⟨by rfl,?_⟩) ?_
  rotate_left
  ·intro w9 hSw
   go_simp
   try with_reducible rfl
  simp only [pA]
  refine wpAnyH_done (by kernel_rfl) ?_ _
  go_wp2
  first | exact ⟨rfl,hBw⟩ | (go_ret;exact ⟨rfl,hBw⟩)
 refine consT rfl (fun KK hKK=>?_) ?_
 ·skip
  go_simp
  refine (GM.out 1 _).mono ?_
  rintro e w5 ⟨P,rfl,qP,bN⟩
  have bC:=bN
  replace hBw:=hBw.trans (bC.mono hBw.size)
  replace kb:=kb.later bC
  clear bC
  go_wp2_with fail
  clear bN
  refine hKK.out _ _ hHeld ?_
  clear hHeld
  intro hHeld
  clear hKK KK
  try simp only [pA]
  refine wpAnyH_ready (rs:=[0,2]) (by kernel_rfl) (by simp) ?_
  refine consT rfl (fun KK hKK=>?_) ?_
  ·skip
   have z0:=kb.cell0
   have z1:=kb.cell1
   go_simp
   clear z0 z1
   refine hKK.out _ _ hHeld ?_
   clear hHeld
   intro hHeld
   clear hKK KK
   try simp only [pA]
   refine wpAnyH_ready (rs:=[2]) (by kernel_rfl) (by simp) ?_
   refine xX1 rfl (fun KK hKK=>?_)
   go_simp
   refine (GM.out 0 _).mono ?_
   rintro e w6 ⟨Q,rfl,qQ,bN⟩
   have bC:=bN
   replace hBw:=hBw.trans (bC.mono hBw.size)
   replace kb:=kb.later bC
   replace qP:=qP.later bC
   clear bC
   go_wp2_with fail
   clear bN
   refine hKK.out _ _ hHeld ?_
   clear hHeld
   intro hHeld
   clear hKK KK
   try simp only [pA]
   refine wpAnyH_ready (rs:=[3]) (by kernel_rfl) (by simp) ?_
   refine xX1 rfl (fun KK hKK=>?_)
   go_simp
   have hat:=two_at (new7 w6 #[.int .i64 1,.bool P.s,.slice P.a P.n P.c,.slice P.b P.m P.e,.int .i64 0,.bool Q.s,.slice Q.a Q.n Q.c,.slice Q.b Q.m Q.e] 76)
   have b3:=xQ1 (w:=w6) (.cells #[.int .i64 1,.bool P.s,.slice P.a P.n P.c,.slice P.b P.m P.e,.int .i64 0,.bool Q.s,.slice Q.a Q.n Q.c,.slice Q.b Q.m Q.e] 76)
   generalize w6.alloc (.cells #[.int .i64 1,.bool P.s,.slice P.a P.n P.c,.slice P.b P.m P.e,.int .i64 0,.bool Q.s,.slice Q.a Q.n Q.c,.slice Q.b Q.m Q.e] 76)=w7 at hat b3 ⊢
   replace hBw:=hBw.trans (b3.mono hBw.size)
   replace kb:=kb.later b3
   replace qP:=qP.later b3
   replace qQ:=qQ.later b3
   clear b3
   refine hKK.out _ _ hHeld ?_
   clear hHeld
   intro hHeld
   clear hKK KK
   try simp only [pA]
   refine wpAnyH_ready (rs:=[4]) (by kernel_rfl) (by simp) ?_
   refine xX1 rfl (fun KK hKK=>?_)
   have h7:=kb.lt
   go_simp
   refine (GD.out _ _ _ _ _ _ hat qP qQ).mono ?_
   rintro e w8 ⟨a,c,S,rfl,hn,hc,h1,hs,b8,hf⟩
   have bC:=b8
   replace hBw:=hBw.trans (bC.mono hBw.size)
   replace kb:=kb.later bC
   replace qP:=qP.later bC
   replace qQ:=qQ.later bC
   replace hat:=hat.later bC
   clear bC
   go_wp2_with fail
   have hne:∀ ad,a=some ad→S≠[]→ad.block≠rb:=fun ad e h=>by have h2:=hf ad e h;omega
   clear b8 h7 hf hat qP qQ GD
   refine hKK.out _ _ hHeld ?_
   clear hHeld
   intro hHeld
   clear hKK KK
   try simp only [pA]
   refine tk 5 (v:=?_) rfl (Or.inl ⟨by rfl,?_⟩) ?_
   rotate_left
   ·intro w9 hSw
    go_simp
    try with_reducible rfl
   simp only [pA]
   refine tk 6 (v:=?_) rfl (Or.inl ⟨by rfl,?_⟩) ?_
   rotate_left
   ·intro w9 hSw
    go_simp
    try with_reducible rfl
   simp only [pA]
   refine tk 7 (v:=?_) rfl (Or.inl ⟨by rfl,?_⟩) ?_
   rotate_left
   ·intro w9 hSw
    go_simp
    try with_reducible rfl
   simp only [pA]
   refine tk 8 (v:=?_) rfl (Or.inl ⟨by rfl,?_⟩) ?_
   rotate_left
   ·intro w9 hSw
    go_simp
    try with_reducible rfl
   simp only [pA]
   refine wpAnyH_ready (rs:=[9]) (by kernel_rfl) (by simp) ?_
   refine xX1 rfl (fun KK hKK=>?_)
   have z0:=kb.cell0
   have z1:=kb.cell1
   have fz:=fun o=>kb.row.frozen o
   have hy0:((w8.setCell ⟨rb,0,none⟩ (.int .i64 3)).setCell ⟨rb,1,none⟩ (.slice a S.length c)).cell? ⟨rb,0,none⟩=some (.int .i64 3):=(World.cell?_setCell_other _ _ _ _ (fun e=>by simp at e)).trans (World.cell?_setCell_same _ _ _ z0)
   have hy1:((w8.setCell ⟨rb,0,none⟩ (.int .i64 3)).setCell ⟨rb,1,none⟩ (.slice a S.length c)).cell? ⟨rb,1,none⟩=some (.slice a S.length c):=World.cell?_setCell_same _ _ _ ((World.cell?_setCell_other _ _ _ _ (fun e=>by simp at e)).trans z1)
   replace hn:TNk ((w8.setCell ⟨rb,0,none⟩ (.int .i64 3)).setCell ⟨rb,1,none⟩ (.slice a S.length c)) a S:=(hn.set kb hne).set (kb.set (b:=none) (k:=0) (l:=0)) hne
   replace hBw:Below w.heap.size w ((w8.setCell ⟨rb,0,none⟩ (.int .i64 3)).setCell ⟨rb,1,none⟩ (.slice a S.length c)):=(hBw.setCell hrb _).setCell hrb _
   clear kb hne
   go_simp
   refine hKK.out _ _ hHeld ?_
   clear hHeld
   intro hHeld
   clear hKK KK
   try simp only [pA]
   clear z0 z1 fz
   generalize ((w8.setCell ⟨rb,0,none⟩ (.int .i64 3)).setCell ⟨rb,1,none⟩ (.slice a S.length c))=w9 at hy0 hy1 hn hBw ⊢
   refine tk 10 (v:=?_) rfl (Or.inl ⟨by rfl,?_⟩) ?_
   rotate_left
   ·intro w9 hSw
    go_simp
    try with_reducible rfl
   simp only [pA]
   refine tk 11 (v:=?_) rfl (Or.inl ⟨by rfl,?_⟩) ?_
   rotate_left
   ·intro w9 hSw
    go_simp
    try with_reducible rfl
   simp only [pA]
   refine wpAnyH_done (by kernel_rfl) ?_ _
   try clear hHeld
   go_wp2_with fail
   have bD:Below w9.heap.size w9 w9.drew:=(Below.refl _ _).drew
   have khy0:=xQ0 bD hy0
   have khy1:=xQ0 bD hy1
   replace hBw:=hBw.trans (bD.mono hBw.size)
   replace hn:=hn.later bD
   refine wp_region_held_drew (S:=fun w'=>w'.cell? ⟨rb,0,none⟩=some (.int .i64 3)∧w'.cell? ⟨rb,1,none⟩=some (.slice a S.length c)) (by kernel_rfl) ⟨khy0,khy1⟩ (fun hHeld=>?_)
   clear khy0 khy1
   generalize w9.drew=v4 at bD hn hBw hHeld ⊢
   clear bD hy0 hy1
   refine tk 0 (v:=?_) rfl (Or.inl ⟨by rfl,?_⟩) ?_
   rotate_left
   ·intro w9 hSw
    go_simp
    try with_reducible rfl
   simp only [pA]
   refine tk 1 (v:=?_) rfl (Or.inl ⟨by rfl,?_⟩) ?_
   rotate_left
   ·intro w9 hSw
    go_simp
    try with_reducible rfl
   simp only [pA]
   refine tk 2 (v:=?_) rfl (Or.inl ⟨by rfl,?_⟩) ?_
   rotate_left
   ·intro w9 hSw
    go_simp
    try with_reducible rfl
   simp only [pA]
   refine tk 3 (v:=?_) rfl (Or.inl ⟨by rfl,?_⟩) ?_
   rotate_left
   ·intro w9 hSw
    go_simp
    try with_reducible rfl
   simp only [pA]
   refine tk 4 (v:=?_) rfl (Or.inl ⟨by rfl,?_⟩) ?_
   rotate_left
   ·intro w9 hSw
    go_simp
    try with_reducible rfl
   simp only [pA]
   refine tk 5 (v:=?_) rfl (Or.inl ⟨by rfl,?_⟩) ?_
   rotate_left
   ·intro w9 hSw
    go_simp
    try with_reducible rfl
   simp only [pA]
   refine tk 6 (v:=?_) rfl (Or.inl ⟨by rfl,?_⟩) ?_
   rotate_left
   ·intro w9 hSw
    go_simp
    try with_reducible rfl
   simp only [pA]
   refine tk 7 (v:=?_) rfl (Or.inl ⟨by rfl,?_⟩) ?_
   rotate_left
   ·intro w9 hSw
    go_simp
    try with_reducible rfl
   simp only [pA]
   refine wpAnyH_ready (rs:=[8]) (by kernel_rfl) (by simp) ?_
   refine xX1 rfl (fun KK hKK=>?_)
   go_simp
   refine (GM.out 0 _).mono ?_
   rintro e v5 ⟨P,rfl,qP,bN⟩
   have bC:=bN
   replace hBw:=hBw.trans (bC.mono hBw.size)
   replace hn:=hn.later bC
   replace hHeld:=(⟨xQ0 bC hHeld.1,xQ0 bC hHeld.2⟩:_∧_)
   clear bC
   go_wp2_with fail
   clear bN
   refine hKK.out _ _ hHeld ?_
   clear hHeld
   intro hHeld
   clear hKK KK
   try simp only [pA]
   refine wpAnyH_ready (rs:=[9]) (by kernel_rfl) (by simp) ?_
   refine xX1 rfl (fun KK hKK=>?_)
   go_simp
   refine (GM.out 1 _).mono ?_
   rintro e v6 ⟨Q,rfl,qQ,bN⟩
   have bC:=bN
   replace hBw:=hBw.trans (bC.mono hBw.size)
   replace hn:=hn.later bC
   replace qP:=qP.later bC
   replace hHeld:=(⟨xQ0 bC hHeld.1,xQ0 bC hHeld.2⟩:_∧_)
   clear bC
   go_wp2_with fail
   clear bN
   refine hKK.out _ _ hHeld ?_
   clear hHeld
   intro hHeld
   clear hKK KK
   try simp only [pA]
   refine wpAnyH_ready (rs:=[10]) (by kernel_rfl) (by simp) ?_
   refine xX1 rfl (fun KK hKK=>?_)
   go_simp
   have hat:=two_at (new7 v6 #[.int .i64 0,.bool P.s,.slice P.a P.n P.c,.slice P.b P.m P.e,.int .i64 1,.bool Q.s,.slice Q.a Q.n Q.c,.slice Q.b Q.m Q.e] 76)
   have b3:=xQ1 (w:=v6) (.cells #[.int .i64 0,.bool P.s,.slice P.a P.n P.c,.slice P.b P.m P.e,.int .i64 1,.bool Q.s,.slice Q.a Q.n Q.c,.slice Q.b Q.m Q.e] 76)
   generalize v6.alloc (.cells #[.int .i64 0,.bool P.s,.slice P.a P.n P.c,.slice P.b P.m P.e,.int .i64 1,.bool Q.s,.slice Q.a Q.n Q.c,.slice Q.b Q.m Q.e] 76)=v7 at hat b3 ⊢
   replace hBw:=hBw.trans (b3.mono hBw.size)
   replace hn:=hn.later b3
   replace qP:=qP.later b3
   replace qQ:=qQ.later b3
   replace hHeld:=(⟨xQ0 b3 hHeld.1,xQ0 b3 hHeld.2⟩:_∧_)
   clear b3
   refine hKK.out _ _ hHeld ?_
   clear hHeld
   intro hHeld
   clear hKK KK
   try simp only [pA]
   have hFk:=two_nk hat qP qQ
   have hFo:=two_fo (b:=v6.heap.size) (x:=0) (y:=1) qP qQ
   clear hat qP qQ
   refine tk 11 (v:=?_) rfl (Or.inl ⟨by rfl,?_⟩) ?_
   rotate_left
   ·intro w9 hSw
    go_simp
    try with_reducible rfl
   simp only [pA]
   refine wpAnyH_ready (rs:=[12]) (by kernel_rfl) (by simp) ?_
   refine xX1 rfl (fun KK hKK=>?_)
   go_simp
   have hrw:TAt _ (some ⟨v7.heap.size,0,none⟩) [((2:Int),(⟨some ⟨v6.heap.size,0,none⟩,2,[(0,P),(1,Q)]⟩:FV))]:=row_at (new7 v7 #[.int .i64 2,.slice (some ⟨v6.heap.size,0,none⟩) 2 2] 65)
   have b3:=xQ1 (w:=v7) (.cells #[.int .i64 2,.slice (some ⟨v6.heap.size,0,none⟩) 2 2] 65)
   generalize v7.alloc (.cells #[.int .i64 2,.slice (some ⟨v6.heap.size,0,none⟩) 2 2] 65)=v8 at hrw b3 ⊢
   replace hBw:=hBw.trans (b3.mono hBw.size)
   replace hn:=hn.later b3
   replace hFk:=hFk.later b3
   replace hHeld:=(⟨xQ0 b3 hHeld.1,xQ0 b3 hHeld.2⟩:_∧_)
   clear b3
   refine hKK.out _ _ hHeld ?_
   clear hHeld
   intro hHeld
   clear hKK KK
   try simp only [pA]
   have hRk:=row_nk hrw hFk (wfI_of (by omega) (by omega))
   clear hrw hFk
   refine tk 13 (v:=?_) rfl (Or.inl ⟨by rfl,?_⟩) ?_
   rotate_left
   ·intro w9 hSw
    go_simp
    try with_reducible rfl
   simp only [pA]
   refine wpAnyH_ready (rs:=[14]) (by kernel_rfl) (by simp) ?_
   refine xX1 rfl (fun KK hKK=>?_)
   go_simp
   refine (GA.out _ a c S hn hc h1 hs _ _ hRk hFo).mono ?_
   rintro e v9 ⟨rfl,b9⟩
   have bC:=b9
   replace hBw:=hBw.trans (bC.mono hBw.size)
   replace hn:=hn.later bC
   replace hRk:=hRk.later bC
   replace hHeld:=(⟨xQ0 bC hHeld.1,xQ0 bC hHeld.2⟩:_∧_)
   clear bC
   go_wp2_with fail
   clear b9
   refine hKK.out _ _ hHeld ?_
   clear hHeld
   intro hHeld
   clear hKK KK
   try simp only [pA]
   refine tk 15 (v:=?_) rfl (Or.inl ⟨by rfl,?_⟩) ?_
   rotate_left
   ·intro w9 hSw
    go_simp
    try with_reducible rfl
   simp only [pA]
   refine tk 16 (v:=?_) rfl (Or.inl ⟨by rfl,?_⟩) ?_
   rotate_left
   ·intro w9 hSw
    go_simp
    try with_reducible rfl
   simp only [pA]
   refine wpAnyH_done (by kernel_rfl) ?_ _
   go_wp2
   first | exact ⟨rfl,hBw⟩ | (go_ret;exact ⟨rfl,hBw⟩)
  refine consT rfl (fun KK hKK=>?_) ?_
  ·skip
   go_simp
   refine (GM.out 0 _).mono ?_
   rintro e w6 ⟨Q,rfl,qQ,bN⟩
   have bC:=bN
   replace hBw:=hBw.trans (bC.mono hBw.size)
   replace kb:=kb.later bC
   replace qP:=qP.later bC
   clear bC
   go_wp2_with fail
   clear bN
   refine hKK.out _ _ hHeld ?_
   clear hHeld
   intro hHeld
   clear hKK KK
   try simp only [pA]
   refine wpAnyH_ready (rs:=[0,3]) (by kernel_rfl) (by simp) ?_
   refine consT rfl (fun KK hKK=>?_) ?_
   ·skip
    have z0:=kb.cell0
    have z1:=kb.cell1
    go_simp
    clear z0 z1
    refine hKK.out _ _ hHeld ?_
    clear hHeld
    intro hHeld
    clear hKK KK
    try simp only [pA]
    refine wpAnyH_ready (rs:=[3]) (by kernel_rfl) (by simp) ?_
    refine xX1 rfl (fun KK hKK=>?_)
    go_simp
    have hat:=two_at (new7 w6 #[.int .i64 1,.bool P.s,.slice P.a P.n P.c,.slice P.b P.m P.e,.int .i64 0,.bool Q.s,.slice Q.a Q.n Q.c,.slice Q.b Q.m Q.e] 76)
    have b3:=xQ1 (w:=w6) (.cells #[.int .i64 1,.bool P.s,.slice P.a P.n P.c,.slice P.b P.m P.e,.int .i64 0,.bool Q.s,.slice Q.a Q.n Q.c,.slice Q.b Q.m Q.e] 76)
    generalize w6.alloc (.cells #[.int .i64 1,.bool P.s,.slice P.a P.n P.c,.slice P.b P.m P.e,.int .i64 0,.bool Q.s,.slice Q.a Q.n Q.c,.slice Q.b Q.m Q.e] 76)=w7 at hat b3 ⊢
    replace hBw:=hBw.trans (b3.mono hBw.size)
    replace kb:=kb.later b3
    replace qP:=qP.later b3
    replace qQ:=qQ.later b3
    clear b3
    refine hKK.out _ _ hHeld ?_
    clear hHeld
    intro hHeld
    clear hKK KK
    try simp only [pA]
    refine wpAnyH_ready (rs:=[4]) (by kernel_rfl) (by simp) ?_
    refine xX1 rfl (fun KK hKK=>?_)
    have h7:=kb.lt
    go_simp
    refine (GD.out _ _ _ _ _ _ hat qP qQ).mono ?_
    rintro e w8 ⟨a,c,S,rfl,hn,hc,h1,hs,b8,hf⟩
    have bC:=b8
    replace hBw:=hBw.trans (bC.mono hBw.size)
    replace kb:=kb.later bC
    replace qP:=qP.later bC
    replace qQ:=qQ.later bC
    replace hat:=hat.later bC
    clear bC
    go_wp2_with fail
    have hne:∀ ad,a=some ad→S≠[]→ad.block≠rb:=fun ad e h=>by have h2:=hf ad e h;omega
    clear b8 h7 hf hat qP qQ GD
    refine hKK.out _ _ hHeld ?_
    clear hHeld
    intro hHeld
    clear hKK KK
    try simp only [pA]
    refine tk 5 (v:=?_) rfl (Or.inl ⟨by rfl,?_⟩) ?_
    rotate_left
    ·intro w9 hSw
     go_simp
     try with_reducible rfl
    simp only [pA]
    refine tk 6 (v:=?_) rfl (Or.inl ⟨by rfl,?_⟩) ?_
    rotate_left
    ·intro w9 hSw
     go_simp
     try with_reducible rfl
    simp only [pA]
    refine tk 7 (v:=?_) rfl (Or.inl ⟨by rfl,?_⟩) ?_
    rotate_left
    ·intro w9 hSw
     go_simp
     try with_reducible rfl
    simp only [pA]
    refine tk 8 (v:=?_) rfl (Or.inl ⟨by rfl,?_⟩) ?_
    rotate_left
    ·intro w9 hSw
     go_simp
     try with_reducible rfl
    simp only [pA]
    refine wpAnyH_ready (rs:=[9]) (by kernel_rfl) (by simp) ?_
    refine xX1 rfl (fun KK hKK=>?_)
    have z0:=kb.cell0
    have z1:=kb.cell1
    have fz:=fun o=>kb.row.frozen o
    have hy0:((w8.setCell ⟨rb,0,none⟩ (.int .i64 3)).setCell ⟨rb,1,none⟩ (.slice a S.length c)).cell? ⟨rb,0,none⟩=some (.int .i64 3):=(World.cell?_setCell_other _ _ _ _ (fun e=>by simp at e)).trans (World.cell?_setCell_same _ _ _ z0)
    have hy1:((w8.setCell ⟨rb,0,none⟩ (.int .i64 3)).setCell ⟨rb,1,none⟩ (.slice a S.length c)).cell? ⟨rb,1,none⟩=some (.slice a S.length c):=World.cell?_setCell_same _ _ _ ((World.cell?_setCell_other _ _ _ _ (fun e=>by simp at e)).trans z1)
    replace hn:TNk ((w8.setCell ⟨rb,0,none⟩ (.int .i64 3)).setCell ⟨rb,1,none⟩ (.slice a S.length c)) a S:=(hn.set kb hne).set (kb.set (b:=none) (k:=0) (l:=0)) hne
    replace hBw:Below w.heap.size w ((w8.setCell ⟨rb,0,none⟩ (.int .i64 3)).setCell ⟨rb,1,none⟩ (.slice a S.length c)):=(hBw.setCell hrb _).setCell hrb _
    clear kb hne
    go_simp
    refine hKK.out _ _ hHeld ?_
    clear hHeld
    intro hHeld
    clear hKK KK
    try simp only [pA]
    clear z0 z1 fz
    generalize ((w8.setCell ⟨rb,0,none⟩ (.int .i64 3)).setCell ⟨rb,1,none⟩ (.slice a S.length c))=w9 at hy0 hy1 hn hBw ⊢
    refine tk 10 (v:=?_) rfl (Or.inl ⟨by rfl,?_⟩) ?_
    rotate_left
    ·intro w9 hSw
     go_simp
     try with_reducible rfl
    simp only [pA]
    refine tk 11 (v:=?_) rfl (Or.inl ⟨by rfl,?_⟩) ?_
    rotate_left
    ·intro w9 hSw
     go_simp
     try with_reducible rfl
    simp only [pA]
    refine wpAnyH_done (by kernel_rfl) ?_ _
    try clear hHeld
    go_wp2_with fail
    have bD:Below w9.heap.size w9 w9.drew:=(Below.refl _ _).drew
    have khy0:=xQ0 bD hy0
    have khy1:=xQ0 bD hy1
    replace hBw:=hBw.trans (bD.mono hBw.size)
    replace hn:=hn.later bD
    refine wp_region_held_drew (S:=fun w'=>w'.cell? ⟨rb,0,none⟩=some (.int .i64 3)∧w'.cell? ⟨rb,1,none⟩=some (.slice a S.length c)) (by kernel_rfl) ⟨khy0,khy1⟩ (fun hHeld=>?_)
    clear khy0 khy1
    generalize w9.drew=v4 at bD hn hBw hHeld ⊢
    clear bD hy0 hy1
    refine tk 0 (v:=?_) rfl (Or.inl ⟨by rfl,?_⟩) ?_
    rotate_left
    ·intro w9 hSw
     go_simp
     try with_reducible rfl
    simp only [pA]
    refine tk 1 (v:=?_) rfl (Or.inl ⟨by rfl,?_⟩) ?_
    rotate_left
    ·intro w9 hSw
     go_simp
     try with_reducible rfl
    simp only [pA]
    refine tk 2 (v:=?_) rfl (Or.inl ⟨by rfl,?_⟩) ?_
    rotate_left
    ·intro w9 hSw
     go_simp
     try with_reducible rfl
    simp only [pA]
    refine tk 3 (v:=?_) rfl (Or.inl ⟨by rfl,?_⟩) ?_
    rotate_left
    ·intro w9 hSw
     go_simp
     try with_reducible rfl
    simp only [pA]
    refine tk 4 (v:=?_) rfl (Or.inl ⟨by rfl,?_⟩) ?_
    rotate_left
    ·intro w9 hSw
     go_simp
     try with_reducible rfl
    simp only [pA]
    refine tk 5 (v:=?_) rfl (Or.inl ⟨by rfl,?_⟩) ?_
    rotate_left
    ·intro w9 hSw
     go_simp
     try with_reducible rfl
    simp only [pA]
    refine tk 6 (v:=?_) rfl (Or.inl ⟨by rfl,?_⟩) ?_
    rotate_left
    ·intro w9 hSw
     go_simp
     try with_reducible rfl
    simp only [pA]
    refine tk 7 (v:=?_) rfl (Or.inl ⟨by rfl,?_⟩) ?_
    rotate_left
    ·intro w9 hSw
     go_simp
     try with_reducible rfl
    simp only [pA]
    refine wpAnyH_ready (rs:=[8]) (by kernel_rfl) (by simp) ?_
    refine xX1 rfl (fun KK hKK=>?_)
    go_simp
    refine (GM.out 0 _).mono ?_
    rintro e v5 ⟨P,rfl,qP,bN⟩
    have bC:=bN
    replace hBw:=hBw.trans (bC.mono hBw.size)
    replace hn:=hn.later bC
    replace hHeld:=(⟨xQ0 bC hHeld.1,xQ0 bC hHeld.2⟩:_∧_)
    clear bC
    go_wp2_with fail
    clear bN
    refine hKK.out _ _ hHeld ?_
    clear hHeld
    intro hHeld
    clear hKK KK
    try simp only [pA]
    refine wpAnyH_ready (rs:=[9]) (by kernel_rfl) (by simp) ?_
    refine xX1 rfl (fun KK hKK=>?_)
    go_simp
    refine (GM.out 1 _).mono ?_
    rintro e v6 ⟨Q,rfl,qQ,bN⟩
    have bC:=bN
    replace hBw:=hBw.trans (bC.mono hBw.size)
    replace hn:=hn.later bC
    replace qP:=qP.later bC
    replace hHeld:=(⟨xQ0 bC hHeld.1,xQ0 bC hHeld.2⟩:_∧_)
    clear bC
    go_wp2_with fail
    clear bN
    refine hKK.out _ _ hHeld ?_
    clear hHeld
    intro hHeld
    clear hKK KK
    try simp only [pA]
    refine wpAnyH_ready (rs:=[10]) (by kernel_rfl) (by simp) ?_
    refine xX1 rfl (fun KK hKK=>?_)
    go_simp
    have hat:=two_at (new7 v6 #[.int .i64 0,.bool P.s,.slice P.a P.n P.c,.slice P.b P.m P.e,.int .i64 1,.bool Q.s,.slice Q.a Q.n Q.c,.slice Q.b Q.m Q.e] 76)
    have b3:=xQ1 (w:=v6) (.cells #[.int .i64 0,.bool P.s,.slice P.a P.n P.c,.slice P.b P.m P.e,.int .i64 1,.bool Q.s,.slice Q.a Q.n Q.c,.slice Q.b Q.m Q.e] 76)
    generalize v6.alloc (.cells #[.int .i64 0,.bool P.s,.slice P.a P.n P.c,.slice P.b P.m P.e,.int .i64 1,.bool Q.s,.slice Q.a Q.n Q.c,.slice Q.b Q.m Q.e] 76)=v7 at hat b3 ⊢
    replace hBw:=hBw.trans (b3.mono hBw.size)
    replace hn:=hn.later b3
    replace qP:=qP.later b3
    replace qQ:=qQ.later b3
    replace hHeld:=(⟨xQ0 b3 hHeld.1,xQ0 b3 hHeld.2⟩:_∧_)
    clear b3
    refine hKK.out _ _ hHeld ?_
    clear hHeld
    intro hHeld
    clear hKK KK
    try simp only [pA]
    have hFk:=two_nk hat qP qQ
    have hFo:=two_fo (b:=v6.heap.size) (x:=0) (y:=1) qP qQ
    clear hat qP qQ
    refine tk 11 (v:=?_) rfl (Or.inl ⟨by rfl,?_⟩) ?_
    rotate_left
    ·intro w9 hSw
     go_simp
     try with_reducible rfl
    simp only [pA]
    refine wpAnyH_ready (rs:=[12]) (by kernel_rfl) (by simp) ?_
    refine xX1 rfl (fun KK hKK=>?_)
    go_simp
    have hrw:TAt _ (some ⟨v7.heap.size,0,none⟩) [((2:Int),(⟨some ⟨v6.heap.size,0,none⟩,2,[(0,P),(1,Q)]⟩:FV))]:=row_at (new7 v7 #[.int .i64 2,.slice (some ⟨v6.heap.size,0,none⟩) 2 2] 65)
    have b3:=xQ1 (w:=v7) (.cells #[.int .i64 2,.slice (some ⟨v6.heap.size,0,none⟩) 2 2] 65)
    generalize v7.alloc (.cells #[.int .i64 2,.slice (some ⟨v6.heap.size,0,none⟩) 2 2] 65)=v8 at hrw b3 ⊢
    replace hBw:=hBw.trans (b3.mono hBw.size)
    replace hn:=hn.later b3
    replace hFk:=hFk.later b3
    replace hHeld:=(⟨xQ0 b3 hHeld.1,xQ0 b3 hHeld.2⟩:_∧_)
    clear b3
    refine hKK.out _ _ hHeld ?_
    clear hHeld
    intro hHeld
    clear hKK KK
    try simp only [pA]
    have hRk:=row_nk hrw hFk (wfI_of (by omega) (by omega))
    clear hrw hFk
    refine tk 13 (v:=?_) rfl (Or.inl ⟨by rfl,?_⟩) ?_
    rotate_left
    ·intro w9 hSw
     go_simp
     try with_reducible rfl
    simp only [pA]
    refine wpAnyH_ready (rs:=[14]) (by kernel_rfl) (by simp) ?_
    refine xX1 rfl (fun KK hKK=>?_)
    go_simp
    refine (GA.out _ a c S hn hc h1 hs _ _ hRk hFo).mono ?_
    rintro e v9 ⟨rfl,b9⟩
    have bC:=b9
    replace hBw:=hBw.trans (bC.mono hBw.size)
    replace hn:=hn.later bC
    replace hRk:=hRk.later bC
    replace hHeld:=(⟨xQ0 bC hHeld.1,xQ0 bC hHeld.2⟩:_∧_)
    clear bC
    go_wp2_with fail
    clear b9
    refine hKK.out _ _ hHeld ?_
    clear hHeld
    intro hHeld
    clear hKK KK
    try simp only [pA]
    refine tk 15 (v:=?_) rfl (Or.inl ⟨by rfl,?_⟩) ?_
    rotate_left
    ·intro w9 hSw
     go_simp
     try with_reducible rfl
    simp only [pA]
    refine tk 16 (v:=?_) rfl (Or.inl ⟨by rfl,?_⟩) ?_
    rotate_left
    ·intro w9 hSw
     go_simp
     try with_reducible rfl
    simp only [pA]
    refine wpAnyH_done (by kernel_rfl) ?_ _
    go_wp2
    first | exact ⟨rfl,hBw⟩ | (go_ret;exact ⟨rfl,hBw⟩)
   refine consT rfl (fun KK hKK=>?_) ?_
   ·skip
    go_simp
    have hat:=two_at (new7 w6 #[.int .i64 1,.bool P.s,.slice P.a P.n P.c,.slice P.b P.m P.e,.int .i64 0,.bool Q.s,.slice Q.a Q.n Q.c,.slice Q.b Q.m Q.e] 76)
    have b3:=xQ1 (w:=w6) (.cells #[.int .i64 1,.bool P.s,.slice P.a P.n P.c,.slice P.b P.m P.e,.int .i64 0,.bool Q.s,.slice Q.a Q.n Q.c,.slice Q.b Q.m Q.e] 76)
    generalize w6.alloc (.cells #[.int .i64 1,.bool P.s,.slice P.a P.n P.c,.slice P.b P.m P.e,.int .i64 0,.bool Q.s,.slice Q.a Q.n Q.c,.slice Q.b Q.m Q.e] 76)=w7 at hat b3 ⊢
    replace hBw:=hBw.trans (b3.mono hBw.size)
    replace kb:=kb.later b3
    replace qP:=qP.later b3
    replace qQ:=qQ.later b3
    clear b3
    refine hKK.out _ _ hHeld ?_
    clear hHeld
    intro hHeld
    clear hKK KK
    try simp only [pA]
    refine wpAnyH_ready (rs:=[0]) (by kernel_rfl) (by simp) ?_
    refine xX1 rfl (fun KK hKK=>?_)
    have z0:=kb.cell0
    have z1:=kb.cell1
    go_simp
    clear z0 z1
    refine hKK.out _ _ hHeld ?_
    clear hHeld
    intro hHeld
    clear hKK KK
    try simp only [pA]
    refine wpAnyH_ready (rs:=[4]) (by kernel_rfl) (by simp) ?_
    refine xX1 rfl (fun KK hKK=>?_)
    have h7:=kb.lt
    go_simp
    refine (GD.out _ _ _ _ _ _ hat qP qQ).mono ?_
    rintro e w8 ⟨a,c,S,rfl,hn,hc,h1,hs,b8,hf⟩
    have bC:=b8
    replace hBw:=hBw.trans (bC.mono hBw.size)
    replace kb:=kb.later bC
    replace qP:=qP.later bC
    replace qQ:=qQ.later bC
    replace hat:=hat.later bC
    clear bC
    go_wp2_with fail
    have hne:∀ ad,a=some ad→S≠[]→ad.block≠rb:=fun ad e h=>by have h2:=hf ad e h;omega
    clear b8 h7 hf hat qP qQ GD
    refine hKK.out _ _ hHeld ?_
    clear hHeld
    intro hHeld
    clear hKK KK
    try simp only [pA]
    refine tk 5 (v:=?_) rfl (Or.inl ⟨by rfl,?_⟩) ?_
    rotate_left
    ·intro w9 hSw
     go_simp
     try with_reducible rfl
    simp only [pA]
    refine tk 6 (v:=?_) rfl (Or.inl ⟨by rfl,?_⟩) ?_
    rotate_left
    ·intro w9 hSw
     go_simp
     try with_reducible rfl
    simp only [pA]
    refine tk 7 (v:=?_) rfl (Or.inl ⟨by rfl,?_⟩) ?_
    rotate_left
    ·intro w9 hSw
     go_simp
     try with_reducible rfl
    simp only [pA]
    refine tk 8 (v:=?_) rfl (Or.inl ⟨by rfl,?_⟩) ?_
    rotate_left
    ·intro w9 hSw
     go_simp
     try with_reducible rfl
    simp only [pA]
    refine wpAnyH_ready (rs:=[9]) (by kernel_rfl) (by simp) ?_
    refine xX1 rfl (fun KK hKK=>?_)
    have z0:=kb.cell0
    have z1:=kb.cell1
    have fz:=fun o=>kb.row.frozen o
    have hy0:((w8.setCell ⟨rb,0,none⟩ (.int .i64 3)).setCell ⟨rb,1,none⟩ (.slice a S.length c)).cell? ⟨rb,0,none⟩=some (.int .i64 3):=(World.cell?_setCell_other _ _ _ _ (fun e=>by simp at e)).trans (World.cell?_setCell_same _ _ _ z0)
    have hy1:((w8.setCell ⟨rb,0,none⟩ (.int .i64 3)).setCell ⟨rb,1,none⟩ (.slice a S.length c)).cell? ⟨rb,1,none⟩=some (.slice a S.length c):=World.cell?_setCell_same _ _ _ ((World.cell?_setCell_other _ _ _ _ (fun e=>by simp at e)).trans z1)
    replace hn:TNk ((w8.setCell ⟨rb,0,none⟩ (.int .i64 3)).setCell ⟨rb,1,none⟩ (.slice a S.length c)) a S:=(hn.set kb hne).set (kb.set (b:=none) (k:=0) (l:=0)) hne
    replace hBw:Below w.heap.size w ((w8.setCell ⟨rb,0,none⟩ (.int .i64 3)).setCell ⟨rb,1,none⟩ (.slice a S.length c)):=(hBw.setCell hrb _).setCell hrb _
    clear kb hne
    go_simp
    refine hKK.out _ _ hHeld ?_
    clear hHeld
    intro hHeld
    clear hKK KK
    try simp only [pA]
    clear z0 z1 fz
    generalize ((w8.setCell ⟨rb,0,none⟩ (.int .i64 3)).setCell ⟨rb,1,none⟩ (.slice a S.length c))=w9 at hy0 hy1 hn hBw ⊢
    refine tk 10 (v:=?_) rfl (Or.inl ⟨by rfl,?_⟩) ?_
    rotate_left
    ·intro w9 hSw
     go_simp
     try with_reducible rfl
    simp only [pA]
    refine tk 11 (v:=?_) rfl (Or.inl ⟨by rfl,?_⟩) ?_
    rotate_left
    ·intro w9 hSw
     go_simp
     try with_reducible rfl
    simp only [pA]
    refine wpAnyH_done (by kernel_rfl) ?_ _
    try clear hHeld
    go_wp2_with fail
    have bD:Below w9.heap.size w9 w9.drew:=(Below.refl _ _).drew
    have khy0:=xQ0 bD hy0
    have khy1:=xQ0 bD hy1
    replace hBw:=hBw.trans (bD.mono hBw.size)
    replace hn:=hn.later bD
    refine wp_region_held_drew (S:=fun w'=>w'.cell? ⟨rb,0,none⟩=some (.int .i64 3)∧w'.cell? ⟨rb,1,none⟩=some (.slice a S.length c)) (by kernel_rfl) ⟨khy0,khy1⟩ (fun hHeld=>?_)
    clear khy0 khy1
    generalize w9.drew=v4 at bD hn hBw hHeld ⊢
    clear bD hy0 hy1
    refine tk 0 (v:=?_) rfl (Or.inl ⟨by rfl,?_⟩) ?_
    rotate_left
    ·intro w9 hSw
     go_simp
     try with_reducible rfl
    simp only [pA]
    refine tk 1 (v:=?_) rfl (Or.inl ⟨by rfl,?_⟩) ?_
    rotate_left
    ·intro w9 hSw
     go_simp
     try with_reducible rfl
    simp only [pA]
    refine tk 2 (v:=?_) rfl (Or.inl ⟨by rfl,?_⟩) ?_
    rotate_left
    ·intro w9 hSw
     go_simp
     try with_reducible rfl
    simp only [pA]
    refine tk 3 (v:=?_) rfl (Or.inl ⟨by rfl,?_⟩) ?_
    rotate_left
    ·intro w9 hSw
     go_simp
     try with_reducible rfl
    simp only [pA]
    refine tk 4 (v:=?_) rfl (Or.inl ⟨by rfl,?_⟩) ?_
    rotate_left
    ·intro w9 hSw
     go_simp
     try with_reducible rfl
    simp only [pA]
    refine tk 5 (v:=?_) rfl (Or.inl ⟨by rfl,?_⟩) ?_
    rotate_left
    ·intro w9 hSw
     go_simp
     try with_reducible rfl
    simp only [pA]
    refine tk 6 (v:=?_) rfl (Or.inl ⟨by rfl,?_⟩) ?_
    rotate_left
    ·intro w9 hSw
     go_simp
     try with_reducible rfl
    simp only [pA]
    refine tk 7 (v:=?_) rfl (Or.inl ⟨by rfl,?_⟩) ?_
    rotate_left
    ·intro w9 hSw
     go_simp
     try with_reducible rfl
    simp only [pA]
    refine wpAnyH_ready (rs:=[8]) (by kernel_rfl) (by simp) ?_
    refine xX1 rfl (fun KK hKK=>?_)
    go_simp
    refine (GM.out 0 _).mono ?_
    rintro e v5 ⟨P,rfl,qP,bN⟩
    have bC:=bN
    replace hBw:=hBw.trans (bC.mono hBw.size)
    replace hn:=hn.later bC
    replace hHeld:=(⟨xQ0 bC hHeld.1,xQ0 bC hHeld.2⟩:_∧_)
    clear bC
    go_wp2_with fail
    clear bN
    refine hKK.out _ _ hHeld ?_
    clear hHeld
    intro hHeld
    clear hKK KK
    try simp only [pA]
    refine wpAnyH_ready (rs:=[9]) (by kernel_rfl) (by simp) ?_
    refine xX1 rfl (fun KK hKK=>?_)
    go_simp
    refine (GM.out 1 _).mono ?_
    rintro e v6 ⟨Q,rfl,qQ,bN⟩
    have bC:=bN
    replace hBw:=hBw.trans (bC.mono hBw.size)
    replace hn:=hn.later bC
    replace qP:=qP.later bC
    replace hHeld:=(⟨xQ0 bC hHeld.1,xQ0 bC hHeld.2⟩:_∧_)
    clear bC
    go_wp2_with fail
    clear bN
    refine hKK.out _ _ hHeld ?_
    clear hHeld
    intro hHeld
    clear hKK KK
    try simp only [pA]
    refine wpAnyH_ready (rs:=[10]) (by kernel_rfl) (by simp) ?_
    refine xX1 rfl (fun KK hKK=>?_)
    go_simp
    have hat:=two_at (new7 v6 #[.int .i64 0,.bool P.s,.slice P.a P.n P.c,.slice P.b P.m P.e,.int .i64 1,.bool Q.s,.slice Q.a Q.n Q.c,.slice Q.b Q.m Q.e] 76)
    have b3:=xQ1 (w:=v6) (.cells #[.int .i64 0,.bool P.s,.slice P.a P.n P.c,.slice P.b P.m P.e,.int .i64 1,.bool Q.s,.slice Q.a Q.n Q.c,.slice Q.b Q.m Q.e] 76)
    generalize v6.alloc (.cells #[.int .i64 0,.bool P.s,.slice P.a P.n P.c,.slice P.b P.m P.e,.int .i64 1,.bool Q.s,.slice Q.a Q.n Q.c,.slice Q.b Q.m Q.e] 76)=v7 at hat b3 ⊢
    replace hBw:=hBw.trans (b3.mono hBw.size)
    replace hn:=hn.later b3
    replace qP:=qP.later b3
    replace qQ:=qQ.later b3
    replace hHeld:=(⟨xQ0 b3 hHeld.1,xQ0 b3 hHeld.2⟩:_∧_)
    clear b3
    refine hKK.out _ _ hHeld ?_
    clear hHeld
    intro hHeld
    clear hKK KK
    try simp only [pA]
    have hFk:=two_nk hat qP qQ
    have hFo:=two_fo (b:=v6.heap.size) (x:=0) (y:=1) qP qQ
    clear hat qP qQ
    refine tk 11 (v:=?_) rfl (Or.inl ⟨by rfl,?_⟩) ?_
    rotate_left
    ·intro w9 hSw
     go_simp
     try with_reducible rfl
    simp only [pA]
    refine wpAnyH_ready (rs:=[12]) (by kernel_rfl) (by simp) ?_
    refine xX1 rfl (fun KK hKK=>?_)
    go_simp
    have hrw:TAt _ (some ⟨v7.heap.size,0,none⟩) [((2:Int),(⟨some ⟨v6.heap.size,0,none⟩,2,[(0,P),(1,Q)]⟩:FV))]:=row_at (new7 v7 #[.int .i64 2,.slice (some ⟨v6.heap.size,0,none⟩) 2 2] 65)
    have b3:=xQ1 (w:=v7) (.cells #[.int .i64 2,.slice (some ⟨v6.heap.size,0,none⟩) 2 2] 65)
    generalize v7.alloc (.cells #[.int .i64 2,.slice (some ⟨v6.heap.size,0,none⟩) 2 2] 65)=v8 at hrw b3 ⊢
    replace hBw:=hBw.trans (b3.mono hBw.size)
    replace hn:=hn.later b3
    replace hFk:=hFk.later b3
    replace hHeld:=(⟨xQ0 b3 hHeld.1,xQ0 b3 hHeld.2⟩:_∧_)
    clear b3
    refine hKK.out _ _ hHeld ?_
    clear hHeld
    intro hHeld
    clear hKK KK
    try simp only [pA]
    have hRk:=row_nk hrw hFk (wfI_of (by omega) (by omega))
    clear hrw hFk
    refine tk 13 (v:=?_) rfl (Or.inl ⟨by rfl,?_⟩) ?_
    rotate_left
    ·intro w9 hSw
     go_simp
     try with_reducible rfl
    simp only [pA]
    refine wpAnyH_ready (rs:=[14]) (by kernel_rfl) (by simp) ?_
    refine xX1 rfl (fun KK hKK=>?_)
    go_simp
    refine (GA.out _ a c S hn hc h1 hs _ _ hRk hFo).mono ?_
    rintro e v9 ⟨rfl,b9⟩
    have bC:=b9
    replace hBw:=hBw.trans (bC.mono hBw.size)
    replace hn:=hn.later bC
    replace hRk:=hRk.later bC
    replace hHeld:=(⟨xQ0 bC hHeld.1,xQ0 bC hHeld.2⟩:_∧_)
    clear bC
    go_wp2_with fail
    clear b9
    refine hKK.out _ _ hHeld ?_
    clear hHeld
    intro hHeld
    clear hKK KK
    try simp only [pA]
    refine tk 15 (v:=?_) rfl (Or.inl ⟨by rfl,?_⟩) ?_
    rotate_left
    ·intro w9 hSw
     go_simp
     try with_reducible rfl
    simp only [pA]
    refine tk 16 (v:=?_) rfl (Or.inl ⟨by rfl,?_⟩) ?_
    rotate_left
    ·intro w9 hSw
     go_simp
     try with_reducible rfl
    simp only [pA]
    refine wpAnyH_done (by kernel_rfl) ?_ _
    go_wp2
    first | exact ⟨rfl,hBw⟩ | (go_ret;exact ⟨rfl,hBw⟩)
   exact AllReadyH.nil
  exact AllReadyH.nil
 exact AllReadyH.nil
end Go.Proofs.YtlklfkkbdcglbaaGreat
