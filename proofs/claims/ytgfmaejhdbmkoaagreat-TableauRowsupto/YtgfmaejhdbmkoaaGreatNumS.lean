import Derived.Test.YtgfmaejhdbmkoaaGreatWN9
set_option linter.unusedSimpArgs false
namespace Go.Proofs.YtgfmaejhdbmkoaaGreat
open Go.RowKit
set_option linter.unusedVariables false
def bulkL:List Mo→Nat
 | []=>0
 | p :: L=>p.2.n+p.2.m+2+bulkL L
theorem norm_sz {w:World} {q:RatV} (hq:q.ok w):ln (am q.val.num)≤q.n∧ln q.val.den≤q.m+1:=low_ln hq.1.1 hq.2.2.2.1.1 q.val_low
theorem wts_bulk {w:World}:∀ (L:List Mo),(∀ p∈L,p.2.ok w)→wts (fo L)≤bulkL L
 | [],_=>Nat.le_refl _
 | p :: L,h=>by
  have h1:=wts_bulk L fun q hq=>h q (List.mem_cons_of_mem _ hq)
  obtain ⟨h2,h3⟩:=norm_sz (h p List.mem_cons_self)
  simp only [fo_cons,wts,bulkL,wt]
  omega
theorem fmap_id (l:Fo):fmap (fun r=>r) l=l:=by unfold fmap;simp
theorem co_scale (x:Int) (c:Rat):∀ (l:Fo),co x (fmap (fun r=>c*r) l)=c*co x l
 | []=>by simp [fmap,co]
 | p :: l=>by
  show (if p.1=x then c*p.2 else 0)+co x (fmap (fun r=>c*r) l)=_
  rw [co_scale x c l]
  simp only [co]
  split <;> grind
def thin (l:Fo):Prop:=(nrm l∨wts l+1≤1099511627776)∧∀ x,sz 1099511627776 (co x l)
theorem thin_of {l:Fo} (h:wts l+1≤1099511627776):thin l:=⟨Or.inr h,fun x=>(co_sz x l).mono h⟩
theorem collect_thinN (L:List Mo) (a:Option Addr) (c:Nat) (w:World) (B:Nat) (hS:Sl w a c L) (hE:∀ p∈L,Ent w p) (hm:L.length≤1048576) (ht:thin (fo L)) (hB:B≤w.heap.size) (ha:∀ ad,a=some ad→B≤ad.block∧Row w ad.block) :
  Calls Tryz.prog 51 #[.slice a L.length c] w (FNew w B (nfm (fo L))):=by
 rcases ht.1 with hN | hw
 ·refine (collect_norm a c L.length w ((isNormal_is a c L w hS.lies hE hS.len hm).mono fun e w' ⟨d,he,hd,hb⟩=>⟨by rw [he,hd.2 hN],hb⟩)).mono ?_
  rintro e w' ⟨rfl,hb⟩
  exact ⟨a,c,L,rfl,hb,hS.later hb,fun p hp=>(hE p hp).later hb,nfm_self hN,fun ad h=>⟨(ha ad h).1,xQ3 hb (ha ad h).2⟩⟩
 ·exact collect_new L a c w B hS hE hm hw hB ha
set_option maxHeartbeats 4000000 in
set_option maxRecDepth 100000 in
theorem turned_norm (g:Rat→Rat) (a:Option Addr) (c:Nat) (L:List Mo) (w:World) (hF:FAt w a L) (hok:∀ p∈L,p.2.ok w) (hc:L.length≤c) (hm:L.length≤1048576)
  (H:∀ p∈L,∀ w',Below w.heap.size w w'→Calls Tryz.prog 53 #[.agg #[.bool p.2.s,.slice p.2.a p.2.n p.2.c,.slice p.2.b p.2.m p.2.e]] w' (RAns w' (g p.2.val)))
  (hs:∀ p∈L,sz 35184372087808 (g p.2.val)) :
  Calls Tryz.prog 52 #[.slice a L.length c,.func (.func 53) #[] #[]] w fun e w'=>∃ vo,e=.returned vo∧TInv w g L L.length vo w':=by
 obtain ⟨i0,hi0,hz0,hz1,hz2⟩:=info_parts info_Mono
 obtain ⟨w1,mk,own1,gr1⟩:=run_make_own (P:=Tryz.prog) w w.heap.size 26 57 i0 _ 4 Tryz.underlying26 hi0 hz0 hz1 .i64 .i64 L.length (by rw [hz2];omega) (by simp only [maxLen];omega) (Nat.le_refl _)
 have I0:TInv w g L 0 (.slice (some ⟨w.heap.size,0,none⟩) 0 L.length) w1:=⟨[],rfl,own1,xQ8 (Nat.le_refl _) (fun k h=>by cases h) gr1,fun p hp=>by simp at hp,rfl⟩
 have l0:(0:Int)≤(L.length:Int):=by omega
 clear own1 gr1
 go_enter Tryz.func52,Tryz.ntmps52
 go_wp2_with fail
 go_loopw [5,13] (fun vo vi wr=>∃ k:Nat,k≤L.length∧vi=.int .i64 k∧TInv w g L k vo wr) (fun _ vi _=>L.length - (intOf vi).toNat)
 case atStart=>exact ⟨0,Nat.zero_le _,rfl,I0⟩
 case round =>
  clear I0 mk
  obtain ⟨k,hk,rfl,R,hRl,hO,hB,hR,hfo⟩:=hrel
  by_cases hlt:k < L.length
  ·obtain ⟨p,hp⟩:∃ p,L[k]?=some p:=⟨L[k],List.getElem?_eq_getElem hlt⟩
   obtain ⟨b,off,rfl,hb,hcell⟩:=hF (by intro e;rw [e] at hlt;simp at hlt)
   obtain ⟨c0,c1,c2,c3⟩:=hcell k p hp
   replace c0:=xQ0 hB c0
   replace c1:=xQ0 hB c1
   replace c2:=xQ0 hB c2
   replace c3:=xQ0 hB c3
   have hmem:=List.mem_of_getElem? hp
   have GC:=xQ1 (fun w' hb=>H p hmem w' hb)
   have hsz:=hs p hmem
   obtain ⟨t1,t2⟩:=xJ6 hp
   have hfo':fo (L.take (k+1))=fo (L.take k) ++ [(p.1,p.2.val)]:=by rw [t1,xZ1];rfl
   clear t1 t2 hp hmem
   obtain ⟨x,q⟩:=p
   simp only at c0 c1 c2 c3 GC hsz hfo'
   obtain ⟨r,hr⟩:∃ r,g q.val=r:=⟨_,rfl⟩
   rw [hr] at GC hsz
   have i0':(0:Int)≤(k:Int):=by omega
   have i1:(k:Int) < (L.length:Int):=by omega
   have hrow:=fun k hk=>(hO.lt k hk)
   go_wp2_with fail
   obtain ⟨wA,hwA⟩:∃ wA,wr.alloc (.cells #[.int .i64 x,.bool q.s,.slice q.a q.n q.c,.slice q.b q.m q.e] 57)=wA:=⟨_,rfl⟩
   have bA:Below wr.heap.size wr wA:=by subst hwA;exact xQ2 _
   have a0:wA.cell? ⟨wr.heap.size,0,none⟩=some (.int .i64 x):=by subst hwA;go_simp
   have a1:wA.cell? ⟨wr.heap.size,1,none⟩=some (.bool q.s):=by subst hwA;go_simp
   have a2:wA.cell? ⟨wr.heap.size,2,none⟩=some (.slice q.a q.n q.c):=by subst hwA;go_simp
   have a3:wA.cell? ⟨wr.heap.size,3,none⟩=some (.slice q.b q.m q.e):=by subst hwA;go_simp
   rw [hwA]
   clear hwA c0 c1 c2 c3
   have bD:Below wA.heap.size wA wA.drew:=(Below.refl _ _).drew
   have ka0:=xQ0 bD a0
   have ka1:=xQ0 bD a1
   have ka2:=xQ0 bD a2
   have ka3:=xQ0 bD a3
   replace bA:=bA.trans (bD.mono bA.size)
   refine wp_region_held_drew (S:=fun w'=>w'.cell? ⟨wr.heap.size,0,none⟩=some (.int .i64 x)∧w'.cell? ⟨wr.heap.size,1,none⟩=some (.bool q.s)∧w'.cell? ⟨wr.heap.size,2,none⟩=some (.slice q.a q.n q.c)∧w'.cell? ⟨wr.heap.size,3,none⟩=some (.slice q.b q.m q.e)) (by kernel_rfl) ⟨ka0,ka1,ka2,ka3⟩ (fun hHeld=>?_)
   clear ka0 ka1 ka2 ka3
   generalize wA.drew=w0 at bD bA hHeld ⊢
   clear a0 a1 a2 a3 bD
   refine tk 0 (v:=?_) rfl (Or.inl ⟨by rfl,?_⟩) ?_
   rotate_left
   ·intro w9 hSw
    go_simp
    try with_reducible rfl
   simp only [pA]
   refine tk 1 (v:=?_) rfl (Or.inl ⟨by rfl,?_⟩) ?_
   rotate_left
   ·intro w9 hSw
    go_simp
    try with_reducible rfl
   simp only [pA]
   refine tk 2 (v:=?_) rfl (Or.inl ⟨by rfl,?_⟩) ?_
   rotate_left
   ·intro w9 hSw
    go_simp
    try with_reducible rfl
   simp only [pA]
   refine tk 3 (v:=?_) rfl (Or.inl ⟨by rfl,?_⟩) ?_
   rotate_left
   ·intro w9 hSw
    go_simp
    try with_reducible rfl
   simp only [pA]
   refine tk 4 (v:=?_) rfl (Or.inl ⟨by rfl,?_⟩) ?_
   rotate_left
   ·intro w9 hSw
    go_simp
    try with_reducible rfl
   simp only [pA]
   refine tk 5 (v:=?_) rfl (Or.inl ⟨by rfl,?_⟩) ?_
   rotate_left
   ·intro w9 hSw
    go_simp
    try with_reducible rfl
   simp only [pA]
   refine wpAnyH_ready (rs:=[6]) (by kernel_rfl) (by simp) ?_
   refine xX0 rfl (fun KK hKK=>?_)
   go_simp
   refine (GC.out _ (hB.trans (bA.mono hB.size))).mono ?_
   rintro e w2 ⟨p,p',rfl,n1,n2⟩
   have b2:=n1.below
   have sA:=bA.size
   replace bA:=bA.trans (b2.mono bA.size)
   replace hHeld:=(⟨xQ0 b2 hHeld.1,xQ0 b2 hHeld.2.1,xQ0 b2 hHeld.2.2.1,xQ0 b2 hHeld.2.2.2⟩:_∧_∧_∧_)
   go_wp2_with fail
   refine hKK.out _ _ hHeld ?_
   clear hHeld
   intro hHeld
   clear hKK KK
   try simp only [pA]
   refine tk 7 (v:=?_) rfl (Or.inl ⟨by rfl,?_⟩) ?_
   rotate_left
   ·intro w9 hSw
    go_simp
    try with_reducible rfl
   simp only [pA]
   refine wpAnyH_ready (rs:=[8]) (by kernel_rfl) (by simp) ?_
   refine xX0 rfl (fun KK hKK=>?_)
   go_simp
   have hnew:=heap_alloc_new w2 (.cells #[.int .i64 x,.bool (ng r.num),.slice p (ln (am r.num)) (ln (am r.num)),.slice p' (ln r.den) (ln r.den)] 57)
   have b3:=xQ2 (w:=w2) (.cells #[.int .i64 x,.bool (ng r.num),.slice p (ln (am r.num)) (ln (am r.num)),.slice p' (ln r.den) (ln r.den)] 57)
   generalize w2.alloc (.cells #[.int .i64 x,.bool (ng r.num),.slice p (ln (am r.num)) (ln (am r.num)),.slice p' (ln r.den) (ln r.den)] 57)=w3 at hnew b3 ⊢
   replace bA:=bA.trans (b3.mono bA.size)
   replace hHeld:=(⟨xQ0 b3 hHeld.1,xQ0 b3 hHeld.2.1,xQ0 b3 hHeld.2.2.1,xQ0 b3 hHeld.2.2.2⟩:_∧_∧_∧_)
   refine hKK.out _ _ hHeld ?_
   clear hHeld
   intro hHeld
   clear hKK KK
   try simp only [pA]
   have hO3:=xQ6 hO bA
   have s2:=b2.size
   have s3:=b3.size
   have s4:=bA.size
   have s5:=hB.size
   have gN:Grw u5 w3 (x,RatV.of r.num r.den p p'):=⟨⟨n1.seg.later b3,Nat.le_refl _,hsz.1,n2.seg.later b3,Nat.le_refl _,hsz.2⟩,ofR_low r p p',fun b e=>⟨fun hn ad e2 h=>by have h1:=n1.fr hn ad e2;have h2:=(hrow b e).2;omega,fun hn ad e2 h=>by have h1:=n2.fr hn ad e2;have h2:=(hrow b e).2;omega⟩⟩
   refine wpAnyH_ready (rs:=[9]) (by kernel_rfl) (by simp) ?_
   refine xX0 rfl (fun KK hKK=>?_)
   refine step_append_lies _ (by rfl) _ _ _ (by rfl) w.heap.size 57 i0 _ 4 64 Tryz.underlying26 hi0 hz0 hz1 hz2 rfl (by omega) u5 R.length (xZ0 R) (by rfl) hO3
    ⟨w2.heap.size,0,none⟩ 1 1 (cells4 (x,RatV.of r.num r.den p p')) (by rfl) (by rfl) (World.news_of_block (cs:=#[.int .i64 x,.bool (ng r.num),.slice p (ln (am r.num)) (ln (am r.num)),.slice p' (ln r.den) (ln r.den)]) (t:=57) (fr:=(0,0)) hnew) (cells4_one _)
    (by omega) (by simp only [maxLen];omega) (by omega) (by omega) w3.heap.size rfl ?_
   intro gb cap w9 hown4 hgrow hat hlt4
   have far:∀ {o:Nat} {u:Value},w3.cell? ⟨wr.heap.size,o,none⟩=some u→w9.cell? ⟨wr.heap.size,o,none⟩=some u:=fun hu=>hgrow.cell hu (fun e=>by have:=hrow _ e.symm;simp only at this;omega)
   refine hKK.out _ _ ⟨far hHeld.1,far hHeld.2.1,far hHeld.2.2.1,far hHeld.2.2.2⟩ ?_
   clear hHeld
   intro hHeld
   clear hKK KK
   try simp only [pA]
   have hBT:=hB.trans (bA.mono hB.size)
   have I1:=xQ1 (And.intro (own_push hown4) (And.intro (hBT.trans (xQ8 hBT.size (fun k hk=>(hrow k hk).1) hgrow)) (grw_push (fun q hq=>(hR q hq).later bA) gN (j:=R.length+1) (cap:=cap) hgrow hat)))
   clear hown4 hgrow hat far gN hO3 hnew n1 n2
   refine tk 10 (v:=?_) rfl (Or.inl ⟨by rfl,?_⟩) ?_
   rotate_left
   ·intro w9 hSw
    go_simp
    try with_reducible rfl
   simp only [pA]
   refine wpAnyH_done (by kernel_rfl) ?_ _
   go_wp2
   go_roundw
   case rel=>exact ⟨k+1,by omega,by go_num,R ++ [(x,RatV.of r.num r.den p p')],by rw [List.length_append,hRl];rfl,by have h:=I1.out.1;rw [hRl] at h;exact h,I1.out.2.1,by have h:=I1.out.2.2;rw [hRl] at h;exact h,by rw [xZ1,hfo,hfo',fmap_snoc,hr];show _ ++ [(x,(RatV.of r.num r.den p p').val)]=_;rw [val_ofR]⟩
   case measure=>simp [intOf];omega
  ·obtain rfl:k=L.length:=by omega
   have i1:¬ (L.length:Int) < (L.length:Int):=by omega
   go_wp2
   go_ret
   exact ⟨u5,rfl,R,hRl,hO,hB,hR,hfo⟩
set_option maxHeartbeats 2000000 in
set_option maxRecDepth 100000 in
theorem lNorm_new (a:Option Addr) (c:Nat) (L:List Mo) (w:World) (hF:FAt w a L) (hok:∀ p∈L,p.2.ok w) (hc:L.length≤c) (hm:L.length≤1048576) (hmx:∀ p∈L,p.2.m < 35184372087808) (ht:thin (fo L)) :
  Calls Tryz.prog 33 #[.slice a L.length c] w (FNew w w.heap.size (nfm (fo L))):=by
 have G1:=xQ1 (turned_norm (fun r=>r) a c L w hF hok hc hm (fun p hp w' hb=>(qNorm_is p.2.s p.2.a p.2.n p.2.c p.2.X p.2.b p.2.m p.2.e p.2.Y _ _ w' (hok p hp).2.1 (Nat.le_trans (hok p hp).2.2.1 (by omega)) ((hok p hp).1.later hb) (hok p hp).2.2.2.2.1 (Nat.le_trans (hok p hp).2.2.2.2.2 (by omega)) ((hok p hp).2.2.2.1.later hb) p.2.val_low)) (fun p hp=>by obtain ⟨h1,h2⟩:=norm_sz (hok p hp);exact ⟨Nat.le_trans h1 (hok p hp).2.2.1,by have:=(hok p hp).2.2.2.2.2;have h3:=hmx p hp;omega⟩))
 have G2:=xQ1 (fun w' a2 c2 (R:List Mo) (hs:Sl w' a2 c2 R) (hE:∀ p∈R,Ent w' p) (hf:fo R=fo L) (hB9:w.heap.size≤w'.heap.size) (ha9:∀ ad,a2=some ad→w.heap.size≤ad.block∧Row w' ad.block)=>collect_thinN R a2 c2 w' w.heap.size hs hE (by have h:=congrArg List.length hf;rw [xX3,xX3] at h;omega) (by rw [hf];exact ht) hB9 ha9)
 clear hF hok hc hm ht hmx
 go_enter Tryz.func33,Tryz.ntmps33
 go_wp2_with fail
 refine G1.out.mono ?_
 rintro e w1 ⟨vo,rfl,hT⟩
 have hA:=hT.ans
 rw [fmap_id] at hA
 obtain ⟨a1,c1,R1,e1,b1,s1,e2,f1⟩:=hA
 obtain rfl:vo=.slice a1 R1.length c1:=by injection e1
 have fr1:∀ ad,a1=some ad→w.heap.size≤ad.block∧Row w1 ad.block:=by obtain ⟨R0,_,hO0,_⟩:=hT;exact own_new hO0
 clear hT e1
 go_wp2_with fail
 refine (G2.out _ a1 c1 R1 s1 e2 f1 b1.size fr1).mono ?_
 rintro e w2 ⟨a2,c2,R2,rfl,b2,s2,e3,f2,n2⟩
 rw [f1] at f2
 have bT:=b1.trans (b2.mono b1.size)
 clear b1 b2
 go_wp2
 go_ret
 exact ⟨a2,c2,R2,rfl,bT,s2,e3,f2,n2⟩
theorem wts_part (P:Int × Rat→Bool):∀ (l:Fo),wts (l.filter P)+wts (l.filter fun p=>!P p)=wts l
 | []=>rfl
 | p :: l=>by
  have ih:=wts_part P l
  cases h:P p
  ·rw [List.filter_cons_of_neg (by rw [h];simp),List.filter_cons_of_pos (by rw [h];rfl)]
   simp only [wts]
   omega
  ·rw [List.filter_cons_of_pos h,List.filter_cons_of_neg (by rw [h];simp)]
   simp only [wts]
   omega
theorem co_only (x:Int):∀ (l:Fo),co x (l.filter fun p=>p.1 == x)=co x l
 | []=>rfl
 | p :: l=>by
  have ih:=co_only x l
  by_cases h:p.1=x
  ·rw [List.filter_cons_of_pos (by simp [h])]
   simp only [co,ih]
  ·rw [List.filter_cons_of_neg (by simp [h])]
   simp only [co,ih]
   rw [if_neg h,Rat.zero_add]
theorem wts_vars:∀ (X:List Int) (l:Fo),X.Pairwise (· < ·)→(X.map fun x=>wts (l.filter fun p=>p.1 == x)).sum≤wts l
 | [],l,_=>Nat.zero_le _
 | x :: X,l,h=>by
  have h1:=(List.pairwise_cons.1 h).1
  have ih:=wts_vars X (l.filter fun p=>!(p.1 == x)) (List.pairwise_cons.1 h).2
  have hp:=wts_part (fun p=>p.1 == x) l
  have e:(X.map fun y=>wts ((l.filter fun p=>!(p.1 == x)).filter fun p=>p.1 == y))=X.map fun y=>wts (l.filter fun p=>p.1 == y):=by
   refine List.map_congr_left fun y hy=>?_
   have hxy:=h1 y hy
   congr 1
   rw [List.filter_filter]
   refine List.filter_congr fun p _=>?_
   by_cases hpy:p.1=y
   ·have:¬ y=x:=by omega
    simp [hpy,this]
   ·simp [hpy]
  rw [e] at ih
  simp only [List.map_cons,List.sum_cons]
  omega
theorem sum_le {α:Type} (f g:α→Nat):∀ (l:List α),(∀ p∈l,f p≤2*g p+3)→(l.map f).sum≤2*(l.map g).sum+3*l.length
 | [],_=>Nat.le_refl _
 | p :: l,h=>by
  have h1:=sum_le f g l fun q hq=>h q (List.mem_cons_of_mem _ hq)
  have h2:=h p List.mem_cons_self
  simp only [List.map_cons,List.sum_cons,List.length_cons]
  omega
theorem wts_sum:∀ (l:Fo),wts l=(l.map fun p=>wt p.2).sum
 | []=>rfl
 | p :: l=>by simp only [wts,List.map_cons,List.sum_cons,wts_sum l]
theorem wts_nfm (l:Fo):wts (nfm l)≤2*wts l+3*(nfm l).length:=by
 have hn:=nfm_nrm l
 have h1:∀ p∈nfm l,wt p.2≤2*wts (l.filter fun q=>q.1 == p.1)+3:=fun p hp=>by
  have e:=hn.co_mem hp
  rw [nfm_co,←co_only] at e
  have h:=co_sz p.1 (l.filter fun q=>q.1 == p.1)
  rw [e] at h
  have h2:=h.1
  have h3:=h.2
  unfold wt
  omega
 have h2:=sum_le (fun p:Int × Rat=>wt p.2) (fun p=>wts (l.filter fun q=>q.1 == p.1)) (nfm l) h1
 have h3:=wts_vars ((nfm l).map (·.1)) l (by rw [List.pairwise_map];exact hn.1)
 rw [List.map_map] at h3
 rw [wts_sum]
 have e:((nfm l).map ((fun x=>wts (l.filter fun p=>p.1 == x)) ∘ fun x=>x.1))=(nfm l).map fun p=>wts (l.filter fun q=>q.1 == p.1):=rfl
 rw [e] at h3
 omega
theorem mul_wt {w w':World} {C q:RatV} (hC:C.ok w) (hq:q.ok w'):wt (C.val*q.val)≤C.n+C.m+q.n+q.m+3:=by
 have h:=(low_mul C q).le
 have h1:=lt_prod (Nat.lt_of_le_of_lt (rn_am C.s C.X C.Y) hC.1.1) (Nat.lt_of_le_of_lt (rn_am q.s q.X q.Y) hq.1.1)
 have h2:am (((rd C.Y:Nat):Int)*((rd q.Y:Nat):Int)) < BB ^ ((C.m+1)+(q.m+1)):=lt_prod (by show rd _ < _;exact rd_lt hC.2.2.2.1.1) (by show rd _ < _;exact rd_lt hq.2.2.2.1.1)
 have k1:=xQ4 (Nat.lt_of_le_of_lt h.1 h1)
 have k2:=xQ4 (Nat.lt_of_le_of_lt h.2 h2)
 unfold wt
 omega
theorem bulkL_at:∀ (L:List Mo) (p:Mo),p∈L→p.2.n+p.2.m+2≤bulkL L
 | [],p,h=>absurd h (by simp)
 | q :: L,p,h=>by
  simp only [bulkL]
  rcases List.mem_cons.1 h with rfl | h
  ·omega
  ·have:=bulkL_at L p h
   omega
end Go.Proofs.YtgfmaejhdbmkoaaGreat
