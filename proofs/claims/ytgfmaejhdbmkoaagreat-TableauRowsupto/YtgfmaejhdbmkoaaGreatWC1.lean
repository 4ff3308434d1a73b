import Derived.Test.YtgfmaejhdbmkoaaGreatWN21
set_option linter.unusedSimpArgs false
namespace Go.Proofs.YtgfmaejhdbmkoaaGreat
set_option linter.unusedVariables false
def vl (ρ:Int→Rat):Fo→Rat
 | []=>0
 | p :: l=>p.2*ρ p.1+vl ρ l
theorem wt_mul' (r t:Rat):wt (r*t)≤wt r+wt t:=by
 have e:r*t=Rat.divInt (r.num*t.num) ((r.den:Int)*(t.den:Int)):=by
  rw [←Rat.divInt_mul_divInt,Rat.num_divInt_den,Rat.num_divInt_den]
 have hl:=(low_of (Int.mul_ne_zero (by have:=r.den_pos;omega) (by have:=t.den_pos;omega)) e).le
 have a1:=lt_prod (i:=ln (am r.num)) (j:=ln (am t.num)) (xJ3 (am r.num)) (xJ3 (am t.num))
 have a2:am ((r.den:Int)*(t.den:Int)) < BB ^ (ln r.den+ln t.den):=lt_prod (by show r.den < _;exact xJ3 r.den) (by show t.den < _;exact xJ3 t.den)
 have b1:=xQ4 (Nat.lt_of_le_of_lt hl.1 a1)
 have b2:=xQ4 (Nat.lt_of_le_of_lt hl.2 a2)
 unfold wt
 omega
open Go.RowKit
def RatV.frm (q:RatV) (B:Nat):Prop:=(0 < q.n→∀ ad,q.a=some ad→B≤ad.block)∧(0 < q.m→∀ ad,q.b=some ad→B≤ad.block)
theorem RatV.frm.off {q:RatV} {B g:Nat} (h:q.frm B) (hg:g < B):q.off g:=⟨fun hn ad e=>by have:=h.1 hn ad e;omega,fun hn ad e=>by have:=h.2 hn ad e;omega⟩
theorem RatV.frm.mono {q:RatV} {B C:Nat} (h:q.frm B) (hg:C≤B):q.frm C:=⟨fun hn ad e=>Nat.le_trans hg (h.1 hn ad e),fun hn ad e=>Nat.le_trans hg (h.2 hn ad e)⟩
def TInvN (w:World) (g:Rat→Rat) (L:List Mo) (k:Nat) (vo:Value) (wr:World):Prop :=
 ∃ R:List Mo,R.length=k∧wr.ownsRow w.heap.size 57 4 vo R.length (xZ0 R)∧Below w.heap.size w wr∧(∀ p∈R,Grw vo wr p)∧fo R=fmap g (fo (L.take k))∧∀ p∈R,p.2.frm w.heap.size
def FAnsF (w:World) (B:Nat) (T:Fo) (e:Ending) (w':World):Prop :=
 ∃ (a:Option Addr) (c:Nat) (R:List Mo),e=.returned (.slice a R.length c)∧Below w.heap.size w w'∧Sl w' a c R∧(∀ p∈R,Ent w' p)∧fo R=T∧∀ p∈R,p.2.frm B
set_option maxHeartbeats 4000000 in
set_option maxRecDepth 100000 in
theorem turned_timesN (cb:Nat) (g:Rat→Rat) (a:Option Addr) (c:Nat) (L:List Mo) (w:World) (hF:FAt w a L) (hok:∀ p∈L,p.2.ok w) (hc:L.length≤c) (hm:L.length≤1048576)
  (H:∀ p∈L,∀ w',Below w.heap.size w w'→Calls Tryz.prog 115 #[.agg #[.bool p.2.s,.slice p.2.a p.2.n p.2.c,.slice p.2.b p.2.m p.2.e],.pointer (some ⟨cb,0,none⟩)] w' (RAns w' (g p.2.val)))
  (hs:∀ p∈L,sz 35184372087808 (g p.2.val)) :
  Calls Tryz.prog 52 #[.slice a L.length c,.func (.func 115) #[] #[.pointer (some ⟨cb,0,none⟩)]] w fun e w'=>∃ vo,e=.returned vo∧TInvN w g L L.length vo w':=by
 obtain ⟨i0,hi0,hz0,hz1,hz2⟩:=info_parts info_Mono
 obtain ⟨w1,mk,own1,gr1⟩:=run_make_own (P:=Tryz.prog) w w.heap.size 26 57 i0 _ 4 Tryz.underlying26 hi0 hz0 hz1 .i64 .i64 L.length (by rw [hz2];omega) (by simp only [maxLen];omega) (Nat.le_refl _)
 have I0:TInvN w g L 0 (.slice (some ⟨w.heap.size,0,none⟩) 0 L.length) w1:=⟨[],rfl,own1,xQ8 (Nat.le_refl _) (fun k h=>by cases h) gr1,fun p hp=>by simp at hp,rfl,fun p hp=>by simp at hp⟩
 have l0:(0:Int)≤(L.length:Int):=by omega
 clear own1 gr1
 go_enter Tryz.func52,Tryz.ntmps52
 go_wp2_with fail
 go_loopw [5,13] (fun vo vi wr=>∃ k:Nat,k≤L.length∧vi=.int .i64 k∧TInvN w g L k vo wr) (fun _ vi _=>L.length - (intOf vi).toNat)
 case atStart=>exact ⟨0,Nat.zero_le _,rfl,I0⟩
 case round =>
  clear I0 mk
  obtain ⟨k,hk,rfl,R,hRl,hO,hB,hR,hfo,hFr⟩:=hrel
  by_cases hlt:k < L.length
  ·obtain ⟨p,hp⟩:∃ p,L[k]?=some p:=⟨L[k],List.getElem?_eq_getElem hlt⟩
   obtain ⟨b,off,rfl,hb,hcell⟩:=hF (by intro e;rw [e] at hlt;simp at hlt)
   obtain ⟨c0,c1,c2,c3⟩:=hcell k p hp
   replace c0:=xQ0 hB c0
   replace c1:=xQ0 hB c1
   replace c2:=xQ0 hB c2
   replace c3:=xQ0 hB c3
   have hmem:=List.mem_of_getElem? hp
   have GC:=xQ1 (fun w' hb=>H p hmem w' hb)
   have hsz:=hs p hmem
   obtain ⟨t1,t2⟩:=xJ6 hp
   have hfo':fo (L.take (k+1))=fo (L.take k) ++ [(p.1,p.2.val)]:=by rw [t1,xZ1];rfl
   clear t1 t2 hp hmem
   obtain ⟨x,q⟩:=p
   simp only at c0 c1 c2 c3 GC hsz hfo'
   obtain ⟨r,hr⟩:∃ r,g q.val=r:=⟨_,rfl⟩
   rw [hr] at GC hsz
   have i0':(0:Int)≤(k:Int):=by omega
   have i1:(k:Int) < (L.length:Int):=by omega
   have hrow:=fun k hk=>(hO.lt k hk)
   go_wp2_with fail
   obtain ⟨wA,hwA⟩:∃ wA,wr.alloc (.cells #[.int .i64 x,.bool q.s,.slice q.a q.n q.c,.slice q.b q.m q.e] 57)=wA:=⟨_,rfl⟩
   have bA:Below wr.heap.size wr wA:=by subst hwA;exact xQ2 _
   have a0:wA.cell? ⟨wr.heap.size,0,none⟩=some (.int .i64 x):=by subst hwA;go_simp
   have a1:wA.cell? ⟨wr.heap.size,1,none⟩=some (.bool q.s):=by subst hwA;go_simp
   have a2:wA.cell? ⟨wr.heap.size,2,none⟩=some (.slice q.a q.n q.c):=by subst hwA;go_simp
   have a3:wA.cell? ⟨wr.heap.size,3,none⟩=some (.slice q.b q.m q.e):=by subst hwA;go_simp
   rw [hwA]
   clear hwA c0 c1 c2 c3
   have bD:Below wA.heap.size wA wA.drew:=(Below.refl _ _).drew
   have ka0:=xQ0 bD a0
   have ka1:=xQ0 bD a1
   have ka2:=xQ0 bD a2
   have ka3:=xQ0 bD a3
   replace bA:=bA.trans (bD.mono bA.size)
   refine wp_region_held_drew (S:=fun w'=>w'.cell? ⟨wr.heap.size,0,none⟩=some (.int .i64 x)∧w'.cell? ⟨wr.heap.size,1,none⟩=some (.bool q.s)∧w'.cell? ⟨wr.heap.size,2,none⟩=some (.slice q.a q.n q.c)∧w'.cell? ⟨wr.heap.size,3,none⟩=some (.slice q.b q.m q.e)) (by kernel_rfl) ⟨ka0,ka1,ka2,ka3⟩ (fun hHeld=>?_)
   clear ka0 ka1 ka2 ka3
   generalize wA.drew=w0 at bD bA hHeld ⊢
   clear a0 a1 a2 a3 bD
   refine tk 0 (v:=?_) rfl (Or.inl ⟨by rfl,?_⟩) ?_
   rotate_left
   ·intro w9 hSw
    go_simp
    try with_reducible rfl
   simp only [pA]
   refine tk 1 (v:=?_) rfl (Or.inl ⟨by rfl,?_⟩) ?_
   rotate_left
   ·intro w9 hSw
    go_simp
    try with_reducible rfl
   simp only [pA]
   refine tk 2 (v:=?_) rfl (Or.inl ⟨by rfl,?_⟩) ?_
   rotate_left
   ·intro w9 hSw
    go_simp
    try with_reducible rfl
   simp only [pA]
   refine tk 3 (v:=?_) rfl (Or.inl ⟨by rfl,?_⟩) ?_
   rotate_left
   ·intro w9 hSw
    go_simp
    try with_reducible rfl
   simp only [pA]
   refine tk 4 (v:=?_) rfl (Or.inl ⟨by rfl,?_⟩) ?_
   rotate_left
   ·intro w9 hSw
    go_simp
    try with_reducible rfl
   simp only [pA]
   refine tk 5 (v:=?_) rfl (Or.inl ⟨by rfl,?_⟩) ?_
   rotate_left
   ·intro w9 hSw
    go_simp
    try with_reducible rfl
   simp only [pA]
   refine wpAnyH_ready (rs:=[6]) (by kernel_rfl) (by simp) ?_
   refine xX0 rfl (fun KK hKK=>?_)
   go_simp
   refine (GC.out _ (hB.trans (bA.mono hB.size))).mono ?_
   rintro e w2 ⟨p,p',rfl,n1,n2⟩
   have b2:=n1.below
   have sA:=bA.size
   replace bA:=bA.trans (b2.mono bA.size)
   replace hHeld:=(⟨xQ0 b2 hHeld.1,xQ0 b2 hHeld.2.1,xQ0 b2 hHeld.2.2.1,xQ0 b2 hHeld.2.2.2⟩:_∧_∧_∧_)
   go_wp2_with fail
   refine hKK.out _ _ hHeld ?_
   clear hHeld
   intro hHeld
   clear hKK KK
   try simp only [pA]
   refine tk 7 (v:=?_) rfl (Or.inl ⟨by rfl,?_⟩) ?_
   rotate_left
   ·intro w9 hSw
    go_simp
    try with_reducible rfl
   simp only [pA]
   refine wpAnyH_ready (rs:=[8]) (by kernel_rfl) (by simp) ?_
   refine xX0 rfl (fun KK hKK=>?_)
   go_simp
   have hnew:=heap_alloc_new w2 (.cells #[.int .i64 x,.bool (ng r.num),.slice p (ln (am r.num)) (ln (am r.num)),.slice p' (ln r.den) (ln r.den)] 57)
   have b3:=xQ2 (w:=w2) (.cells #[.int .i64 x,.bool (ng r.num),.slice p (ln (am r.num)) (ln (am r.num)),.slice p' (ln r.den) (ln r.den)] 57)
   generalize w2.alloc (.cells #[.int .i64 x,.bool (ng r.num),.slice p (ln (am r.num)) (ln (am r.num)),.slice p' (ln r.den) (ln r.den)] 57)=w3 at hnew b3 ⊢
   replace bA:=bA.trans (b3.mono bA.size)
   replace hHeld:=(⟨xQ0 b3 hHeld.1,xQ0 b3 hHeld.2.1,xQ0 b3 hHeld.2.2.1,xQ0 b3 hHeld.2.2.2⟩:_∧_∧_∧_)
   refine hKK.out _ _ hHeld ?_
   clear hHeld
   intro hHeld
   clear hKK KK
   try simp only [pA]
   have hO3:=xQ6 hO bA
   have s2:=b2.size
   have s3:=b3.size
   have s4:=bA.size
   have s5:=hB.size
   have gN:Grw u5 w3 (x,RatV.of r.num r.den p p'):=⟨⟨n1.seg.later b3,Nat.le_refl _,hsz.1,n2.seg.later b3,Nat.le_refl _,hsz.2⟩,ofR_low r p p',fun b e=>⟨fun hn ad e2 h=>by have h1:=n1.fr hn ad e2;have h2:=(hrow b e).2;omega,fun hn ad e2 h=>by have h1:=n2.fr hn ad e2;have h2:=(hrow b e).2;omega⟩⟩
   have gF:=xQ1 (show (RatV.of r.num r.den p p').frm w.heap.size from ⟨fun hn ad e2=>by have h1:=n1.fr hn ad e2;omega,fun hn ad e2=>by have h1:=n2.fr hn ad e2;omega⟩)
   refine wpAnyH_ready (rs:=[9]) (by kernel_rfl) (by simp) ?_
   refine xX0 rfl (fun KK hKK=>?_)
   refine step_append_lies _ (by rfl) _ _ _ (by rfl) w.heap.size 57 i0 _ 4 64 Tryz.underlying26 hi0 hz0 hz1 hz2 rfl (by omega) u5 R.length (xZ0 R) (by rfl) hO3
    ⟨w2.heap.size,0,none⟩ 1 1 (cells4 (x,RatV.of r.num r.den p p')) (by rfl) (by rfl) (World.news_of_block (cs:=#[.int .i64 x,.bool (ng r.num),.slice p (ln (am r.num)) (ln (am r.num)),.slice p' (ln r.den) (ln r.den)]) (t:=57) (fr:=(0,0)) hnew) (cells4_one _)
    (by omega) (by simp only [maxLen];omega) (by omega) (by omega) w3.heap.size rfl ?_
   intro gb cap w9 hown4 hgrow hat hlt4
   have far:∀ {o:Nat} {u:Value},w3.cell? ⟨wr.heap.size,o,none⟩=some u→w9.cell? ⟨wr.heap.size,o,none⟩=some u:=fun hu=>hgrow.cell hu (fun e=>by have:=hrow _ e.symm;simp only at this;omega)
   refine hKK.out _ _ ⟨far hHeld.1,far hHeld.2.1,far hHeld.2.2.1,far hHeld.2.2.2⟩ ?_
   clear hHeld
   intro hHeld
   clear hKK KK
   try simp only [pA]
   have hBT:=hB.trans (bA.mono hB.size)
   have I1:=xQ1 (And.intro (own_push hown4) (And.intro (hBT.trans (xQ8 hBT.size (fun k hk=>(hrow k hk).1) hgrow)) (grw_push (fun q hq=>(hR q hq).later bA) gN (j:=R.length+1) (cap:=cap) hgrow hat)))
   clear hown4 hgrow hat far gN hO3 hnew n1 n2
   refine tk 10 (v:=?_) rfl (Or.inl ⟨by rfl,?_⟩) ?_
   rotate_left
   ·intro w9 hSw
    go_simp
    try with_reducible rfl
   simp only [pA]
   refine wpAnyH_done (by kernel_rfl) ?_ _
   go_wp2
   go_roundw
   case rel=>exact ⟨k+1,by omega,by go_num,R ++ [(x,RatV.of r.num r.den p p')],by rw [List.length_append,hRl];rfl,by have h:=I1.out.1;rw [hRl] at h;exact h,I1.out.2.1,by have h:=I1.out.2.2;rw [hRl] at h;exact h,by rw [xZ1,hfo,hfo',fmap_snoc,hr];show _ ++ [(x,(RatV.of r.num r.den p p').val)]=_;rw [val_ofR],fun q hq=>by rcases List.mem_append.1 hq with h | h;exact hFr q h;rw [List.mem_singleton.1 h];exact gF.out⟩
   case measure=>simp [intOf];omega
  ·obtain rfl:k=L.length:=by omega
   have i1:¬ (L.length:Int) < (L.length:Int):=by omega
   go_wp2
   go_ret
   exact ⟨u5,rfl,R,hRl,hO,hB,hR,hfo,hFr⟩
set_option maxHeartbeats 2000000 in
set_option maxRecDepth 100000 in
theorem times_new (C:RatV) (a:Option Addr) (c:Nat) (L:List Mo) (K:Nat) (w:World) (hF:FAt w a L) (hok:∀ p∈L,p.2.ok w) (hc:L.length≤c) (hm:L.length≤1048576) (hC:C.ok w) (hK:∀ p∈L,C.n+C.m+p.2.n+p.2.m≤K) (hCK:C.n+C.m≤K) (hKm:K≤274877906944) :
  Calls Tryz.prog 89 #[.agg #[.bool C.s,.slice C.a C.n C.c,.slice C.b C.m C.e],.slice a L.length c] w (FAnsF w w.heap.size (fmap (fun r=>C.val*r) (fo L))):=by
 go_enter Tryz.func89,Tryz.ntmps89
 go_wp2_with fail
 obtain ⟨wA,hwA⟩:∃ wA,w.alloc (.cells #[.bool C.s,.slice C.a C.n C.c,.slice C.b C.m C.e] 55)=wA:=⟨_,rfl⟩
 have bA:Below w.heap.size w wA:=by subst hwA;exact xQ2 _
 have hl:C.lies wA w.heap.size 0:=by subst hwA;exact ⟨by go_simp,by go_simp,by go_simp⟩
 rw [hwA]
 clear hwA
 refine (turned_timesN w.heap.size (fun r=>C.val*r) a c L wA (hF.later bA) (fun p hp=>(hok p hp).later bA) hc hm (fun p hp w' hb=>times1_is w.heap.size C p.2 w' (hl.later hb) ((hC.later bA).later hb) (((hok p hp).later bA).later hb) (by omega) (by omega) (by have:=hK p hp;omega) (by have:=hK p hp;omega)) (fun p hp=>(mul_sz hC (hok p hp) (hK p hp)).mono (by omega))).mono ?_
 rintro e w1 ⟨vo,rfl,R,hRl,hO,hB,hR,hfo,hFr⟩
 rw [List.take_length] at hfo
 obtain ⟨a1,c1,rfl,hS⟩:=Sl.of hO
 have hfin:=xQ1 (show FAnsF w w.heap.size (fmap (fun r=>C.val*r) (fo L)) (.returned (.slice a1 R.length c1)) w1 from ⟨a1,c1,R,rfl,bA.trans (hB.mono bA.size),hS,fun p hp=>(hR p hp).ent,hfo,fun p hp=>(hFr p hp).mono bA.size⟩)
 clear hO hS hR hfo hFr
 clear hRl
 go_wp2
 go_ret
 exact hfin.out
structure Wtd where
 a:Option Addr
 c:Nat
 L:List Mo
 D:RatV
 C:RatV
def flat (k:Nat→Wtd):Nat→Fo
 | 0=>[]
 | n+1=>flat k n ++ fmap (fun r=>(k n).C.val*r) (fo (k n).L)
def cst (k:Nat→Wtd):Nat→Rat
 | 0=>0
 | n+1=>cst k n+(k n).C.val*(k n).D.val
def fb (k:Nat→Wtd):Nat→Nat
 | 0=>0
 | n+1=>fb k n+(wt (k n).C.val+2*wts (fo (k n).L)+3)
theorem flat_seg (k:Nat→Wtd) (x:Int):∀ (n i j:Nat),∃ l:Fo,co x (((flat k n).drop i).take j)=co 0 l∧wts l≤fb k n
 | 0,i,j=>⟨[],by simp [flat,co],Nat.le_refl _⟩
 | n+1,i,j=>by
  simp only [flat,fb]
  rw [List.drop_append,List.take_append,co_append]
  obtain ⟨l,e,hl⟩:=flat_seg k x n i j
  obtain ⟨i',hi'⟩:∃ i',i - (flat k n).length=i':=⟨_,rfl⟩
  obtain ⟨j',hj'⟩:∃ j',j - ((flat k n).drop i).length=j':=⟨_,rfl⟩
  rw [hi',hj']
  have e2:((fmap (fun r=>(k n).C.val*r) (fo (k n).L)).drop i').take j'=fmap (fun r=>(k n).C.val*r) (((fo (k n).L).drop i').take j'):=by
   unfold fmap
   rw [List.map_take,List.map_drop]
  rw [e2,co_scale]
  refine ⟨l ++ [(0,(k n).C.val*co x (((fo (k n).L).drop i').take j'))],?_,?_⟩
  ·rw [co_append,e]
   simp only [co,if_true]
   rw [Rat.add_zero]
  ·rw [wts_append]
   simp only [wts]
   have h1:=wt_mul' (k n).C.val (co x (((fo (k n).L).drop i').take j'))
   have h2:=co_sz x (((fo (k n).L).drop i').take j')
   have h3:=co_part (fo (k n).L) i' j'
   have h4:=h2.1
   have h5:=h2.2
   have h6:wt (co x (((fo (k n).L).drop i').take j'))≤2*wts (fo (k n).L)+3:=by
    show ln _+ln _+1≤_
    omega
   omega
theorem flat_fine (k:Nat→Wtd) (n:Nat) (h:fb k n+1≤1099511627776):fine (flat k n):=fun i j x=>by
 obtain ⟨l,e,hl⟩:=flat_seg k x n i j
 rw [e]
 exact (co_sz 0 l).mono (by omega)
end Go.Proofs.YtgfmaejhdbmkoaaGreat
