import Derived.Test.YtlklfkkbdcglbaaGreatWN7
set_option linter.unusedSimpArgs false
namespace Go.Proofs.YtlklfkkbdcglbaaGreat
open Go.RowKit
set_option linter.unusedVariables false
def fmap (g:Rat→Rat) (l:Fo):Fo:=l.map fun p=>(p.1,g p.2)
theorem fmap_snoc (g:Rat→Rat) (l:Fo) (p:Int × Rat):fmap g (l ++ [p])=fmap g l ++ [(p.1,g p.2)]:=by unfold fmap;rw [List.map_append];rfl
def RAns (w:World) (r:Rat) (e:Ending) (w':World):Prop :=
 ∃ p q,e=.returned (.agg #[.bool (ng r.num),.slice p (ln (am r.num)) (ln (am r.num)),.slice q (ln r.den) (ln r.den)])∧New w w' p (am r.num) (ln (am r.num))∧New w w' q r.den (ln r.den)
def TInv (w:World) (g:Rat→Rat) (L:List Mo) (k:Nat) (vo:Value) (wr:World):Prop :=
 ∃ R:List Mo,R.length=k∧wr.ownsRow w.heap.size 76 4 vo R.length (cellsF R)∧Below w.heap.size w wr∧(∀ p∈R,Grw vo wr p)∧fo R=fmap g (fo (L.take k))
set_option maxHeartbeats 2000000 in
set_option maxRecDepth 100000 in
theorem times1_is (cb:Nat) (C q:RatV) (w:World) (hl:C.lies w cb 0) (hC:C.ok w) (hq:q.ok w) (l1:C.n≤1099511627776) (l2:C.m≤1099511627776) (l3:q.n≤1099511627776) (l4:q.m≤1099511627776) :
  Calls Tryz.prog 155 #[.agg #[.bool q.s,.slice q.a q.n q.c,.slice q.b q.m q.e],.pointer (some ⟨cb,0,none⟩)] w (RAns w (C.val*q.val)):=by
 obtain ⟨h0,h1,h2⟩:=hl
 have G:=hide' (fun w' k1 k2 k3 k4=>qMul_is C.s C.a C.n C.c C.X C.b C.m C.e C.Y q.s q.a q.n q.c q.X q.b q.m q.e q.Y _ _ w' hC.2.1 l1 k1 hC.2.2.2.2.1 l2 k2 hq.2.1 l3 k3 hq.2.2.2.2.1 l4 k4 (low_mul C q))
 have k1:=hC.1
 have k2:=hC.2.2.2.1
 have k3:=hq.1
 have k4:=hq.2.2.2.1
 clear hC hq l1 l2 l3 l4
 obtain ⟨r,hr⟩:∃ r,C.val*q.val=r:=⟨_,rfl⟩
 rw [hr] at G ⊢
 clear hr
 go_enter Tryz.func155,Tryz.ntmps155
 have hB0:Below w.heap.size w ((w.alloc (.cells #[.bool q.s,.slice q.a q.n q.c,.slice q.b q.m q.e] 74)).alloc (.cells #[.bool false,.slice none 0 0,.slice none 0 0] 74)):=((Below.refl _ _).alloc (Nat.le_refl _) _).alloc (by simp only [World.size_alloc];omega) _
 have j0:=below_cell hB0 h0
 have j1:=below_cell hB0 h1
 have j2:=below_cell hB0 h2
 simp only [Nat.zero_add] at j0 j1 j2
 go_wp2_with fail
 obtain ⟨W,hW⟩:∃ W,((w.alloc (.cells #[.bool q.s,.slice q.a q.n q.c,.slice q.b q.m q.e] 74)).alloc (.cells #[.bool false,.slice none 0 0,.slice none 0 0] 74))=W:=⟨_,rfl⟩
 have q00:W.cell? ⟨w.heap.size,0,none⟩=some (.bool q.s):=by subst hW;go_simp
 have q01:W.cell? ⟨w.heap.size,1,none⟩=some (.slice q.a q.n q.c):=by subst hW;go_simp
 have q02:W.cell? ⟨w.heap.size,2,none⟩=some (.slice q.b q.m q.e):=by subst hW;go_simp
 have r00:W.cell? ⟨w.heap.size+1,0,none⟩=some (.bool false):=by subst hW;go_simp
 have r01:W.cell? ⟨w.heap.size+1,1,none⟩=some (.slice none 0 0):=by subst hW;go_simp
 have r02:W.cell? ⟨w.heap.size+1,2,none⟩=some (.slice none 0 0):=by subst hW;go_simp
 have hB:Below w.heap.size w W:=by subst hW;exact (((Below.refl _ _).alloc (by (try simp only [World.size_alloc]);omega) _).alloc (by (try simp only [World.size_alloc]);omega) _)
 have hR0:Row W (w.heap.size+1):=by
  have:=row_new ((w.alloc (.cells #[.bool q.s,.slice q.a q.n q.c,.slice q.b q.m q.e] 74))) #[.bool false,.slice none 0 0,.slice none 0 0] 74
  try simp only [World.size_alloc] at this
  subst hW;exact this
 have hz:W.heap.size=w.heap.size+1+1:=by subst hW;simp only [World.size_alloc]
 rw [hW]
 clear hW
 have hBW:Below W.heap.size W W:=Below.refl _ _
 clear hB0 j0 j1 j2
 refine (G.out _ (k1.later hB) (k2.later hB) (k3.later hB) (k4.later hB)).mono ?_
 rintro e w1 ⟨p1,q1,rfl,hp1,hq1⟩
 have b1:=hp1.below
 replace hp1:=hp1.back hBW
 replace hq1:=hq1.back hBW
 replace hBW:=hBW.trans (b1.mono hBW.size)
 replace q00:=below_cell b1 q00
 replace q01:=below_cell b1 q01
 replace q02:=below_cell b1 q02
 replace r00:=below_cell b1 r00
 replace r01:=below_cell b1 r01
 replace r02:=below_cell b1 r02
 replace hR0:=below_row b1 hR0
 have fz0:=fun o=>hR0.frozen o
 go_wp2
 all_goals refine bodyPost_ret (v:=Value.agg #[Value.bool (ng r.num),Value.slice p1 (ln (am r.num)) (ln (am r.num)),Value.slice q1 (ln r.den) (ln r.den)]) (by rw [results_cell rfl];go_simp) rfl ?_
 all_goals exact ⟨p1,q1,rfl,hp1.mid hB (((((Mid.refl _ _ _).set _ _ (by omega) (by omega) _).set _ _ (by omega) (by omega) _).set _ _ (by omega) (by omega) _)),hq1.mid hB (((((Mid.refl _ _ _).set _ _ (by omega) (by omega) _).set _ _ (by omega) (by omega) _).set _ _ (by omega) (by omega) _))⟩
theorem mul_sz {w w':World} {C q:RatV} {K:Nat} (hC:C.ok w) (hq:q.ok w') (hK:C.n+C.m+q.n+q.m≤K):sz (K+2) (C.val*q.val) :=
 ln1 (i:=C.n+q.n) (j:=(C.m+1)+(q.m+1)) (low_mul C q) (lt_prod (Nat.lt_of_le_of_lt (rn_am _ _ _) hC.1.1) (Nat.lt_of_le_of_lt (rn_am _ _ _) hq.1.1)) (lt_prod (by show rd _ < _;exact rd_lt hC.2.2.2.1.1) (by show rd _ < _;exact rd_lt hq.2.2.2.1.1)) (by omega) (by omega)
theorem fmap_length (g:Rat→Rat) (l:Fo):(fmap g l).length=l.length:=List.length_map _
theorem TInv.ans {w:World} {g:Rat→Rat} {L:List Mo} {vo:Value} {w':World} (h:TInv w g L L.length vo w'):FAns w (fmap g (fo L)) (.returned vo) w':=by
 obtain ⟨R,hl,hO,hB,hR,hf⟩:=h
 obtain ⟨a,c,rfl,hs⟩:=Sl.of hO
 exact ⟨a,c,R,rfl,hB,hs,fun p hp=>(hR p hp).ent,by rw [hf,List.take_length]⟩
theorem FAns.from {w W:World} {T:Fo} {e:Ending} {w':World} (h:FAns W T e w') (hB:Below w.heap.size w W):FAns w T e w':=by
 obtain ⟨a,c,R,he,hb,hs,hE,hf⟩:=h
 exact ⟨a,c,R,he,hB.trans (hb.mono hB.size),hs,hE,hf⟩
def bulkL:List Mo→Nat
 | []=>0
 | p :: L=>p.2.n+p.2.m+2+bulkL L
theorem norm_sz {w:World} {q:RatV} (hq:q.ok w):ln (am q.val.num)≤q.n∧ln q.val.den≤q.m+1:=low_ln hq.1.1 hq.2.2.2.1.1 q.val_low
theorem wts_bulk {w:World}:∀ (L:List Mo),(∀ p∈L,p.2.ok w)→wts (fo L)≤bulkL L
 | [],_=>Nat.le_refl _
 | p :: L,h=>by
  have h1:=wts_bulk L fun q hq=>h q (List.mem_cons_of_mem _ hq)
  obtain ⟨h2,h3⟩:=norm_sz (h p List.mem_cons_self)
  simp only [fo_cons,wts,bulkL,wt]
  omega
theorem fmap_id (l:Fo):fmap (fun r=>r) l=l:=by unfold fmap;simp
theorem co_scale (x:Int) (c:Rat):∀ (l:Fo),co x (fmap (fun r=>c*r) l)=c*co x l
 | []=>by simp [fmap,co]
 | p :: l=>by
  show (if p.1=x then c*p.2 else 0)+co x (fmap (fun r=>c*r) l)=_
  rw [co_scale x c l]
  simp only [co]
  split <;> grind
def thin (l:Fo):Prop:=(nrm l∨wts l+1≤1099511627776)∧∀ x,sz 1099511627776 (co x l)
theorem thin_of {l:Fo} (h:wts l+1≤1099511627776):thin l:=⟨Or.inr h,fun x=>(co_sz x l).mono h⟩
theorem collect_thinN (L:List Mo) (a:Option Addr) (c:Nat) (w:World) (B:Nat) (hS:Sl w a c L) (hE:∀ p∈L,Ent w p) (hm:L.length≤1048576) (ht:thin (fo L)) (hB:B≤w.heap.size) (ha:∀ ad,a=some ad→B≤ad.block∧Row w ad.block) :
  Calls Tryz.prog 116 #[.slice a L.length c] w (FNew w B (nfm (fo L))):=by
 rcases ht.1 with hN | hw
 ·refine (collect_norm a c L.length w ((isNormal_is a c L w hS.lies hE hS.len hm).mono fun e w' ⟨d,he,hd,hb⟩=>⟨by rw [he,hd.2 hN],hb⟩)).mono ?_
  rintro e w' ⟨rfl,hb⟩
  exact ⟨a,c,L,rfl,hb,hS.later hb,fun p hp=>(hE p hp).later hb,nfm_self hN,fun ad h=>⟨(ha ad h).1,below_row hb (ha ad h).2⟩⟩
 ·exact collect_new L a c w B hS hE hm hw hB ha
set_option maxHeartbeats 4000000 in
set_option maxRecDepth 100000 in
theorem turned_norm (g:Rat→Rat) (a:Option Addr) (c:Nat) (L:List Mo) (w:World) (hF:FAt w a L) (hok:∀ p∈L,p.2.ok w) (hc:L.length≤c) (hm:L.length≤1048576)
  (H:∀ p∈L,∀ w',Below w.heap.size w w'→Calls Tryz.prog 105 #[.agg #[.bool p.2.s,.slice p.2.a p.2.n p.2.c,.slice p.2.b p.2.m p.2.e]] w' (RAns w' (g p.2.val)))
  (hs:∀ p∈L,sz 35184372087808 (g p.2.val)) :
  Calls Tryz.prog 117 #[.slice a L.length c,.func (.func 105) #[] #[]] w fun e w'=>∃ vo,e=.returned vo∧TInv w g L L.length vo w':=by
 obtain ⟨i0,hi0,hz0,hz1,hz2⟩:=info_parts info_Mono
 obtain ⟨w1,mk,own1,gr1⟩:=run_make_own (P:=Tryz.prog) w w.heap.size 35 76 i0 _ 4 Tryz.underlying35 hi0 hz0 hz1 .i64 .i64 L.length (by rw [hz2];omega) (by simp only [maxLen];omega) (Nat.le_refl _)
 have I0:TInv w g L 0 (.slice (some ⟨w.heap.size,0,none⟩) 0 L.length) w1:=⟨[],rfl,own1,below_grown (Nat.le_refl _) (fun k h=>by cases h) gr1,fun p hp=>by simp at hp,rfl⟩
 have l0:(0:Int)≤(L.length:Int):=by omega
 clear own1 gr1
 go_enter Tryz.func117,Tryz.ntmps117
 go_wp2_with fail
 go_loopw [5,13] (fun vo vi wr=>∃ k:Nat,k≤L.length∧vi=.int .i64 k∧TInv w g L k vo wr) (fun _ vi _=>L.length - (intOf vi).toNat)
 case atStart=>exact ⟨0,Nat.zero_le _,rfl,I0⟩
 case round =>
  clear I0 mk
  obtain ⟨k,hk,rfl,R,hRl,hO,hB,hR,hfo⟩:=hrel
  by_cases hlt:k < L.length
  ·obtain ⟨p,hp⟩:∃ p,L[k]?=some p:=⟨L[k],List.getElem?_eq_getElem hlt⟩
   obtain ⟨b,off,rfl,hb,hcell⟩:=hF (by intro e;rw [e] at hlt;simp at hlt)
   obtain ⟨c0,c1,c2,c3⟩:=hcell k p hp
   replace c0:=below_cell hB c0
   replace c1:=below_cell hB c1
   replace c2:=below_cell hB c2
   replace c3:=below_cell hB c3
   have hmem:=List.mem_of_getElem? hp
   have GC:=hide' (fun w' hb=>H p hmem w' hb)
   have hsz:=hs p hmem
   obtain ⟨t1,t2⟩:=take_split hp
   have hfo':fo (L.take (k+1))=fo (L.take k) ++ [(p.1,p.2.val)]:=by rw [t1,fo_append];rfl
   clear t1 t2 hp hmem
   obtain ⟨x,q⟩:=p
   simp only at c0 c1 c2 c3 GC hsz hfo'
   obtain ⟨r,hr⟩:∃ r,g q.val=r:=⟨_,rfl⟩
   rw [hr] at GC hsz
   have i0':(0:Int)≤(k:Int):=by omega
   have i1:(k:Int) < (L.length:Int):=by omega
   have hrow:=fun k hk=>(hO.lt k hk)
   go_wp2_with fail
   obtain ⟨wA,hwA⟩:∃ wA,wr.alloc (.cells #[.int .i64 x,.bool q.s,.slice q.a q.n q.c,.slice q.b q.m q.e] 76)=wA:=⟨_,rfl⟩
   have bA:Below wr.heap.size wr wA:=by subst hwA;exact below_alloc _
   have a0:wA.cell? ⟨wr.heap.size,0,none⟩=some (.int .i64 x):=by subst hwA;go_simp
   have a1:wA.cell? ⟨wr.heap.size,1,none⟩=some (.bool q.s):=by subst hwA;go_simp
   have a2:wA.cell? ⟨wr.heap.size,2,none⟩=some (.slice q.a q.n q.c):=by subst hwA;go_simp
   have a3:wA.cell? ⟨wr.heap.size,3,none⟩=some (.slice q.b q.m q.e):=by subst hwA;go_simp
   rw [hwA]
   clear hwA c0 c1 c2 c3
   have bD:Below wA.heap.size wA wA.drew:=(Below.refl _ _).drew
   have ka0:=below_cell bD a0
   have ka1:=below_cell bD a1
   have ka2:=below_cell bD a2
   have ka3:=below_cell bD a3
   replace bA:=bA.trans (bD.mono bA.size)
   refine wp_region_held_drew (S:=fun w'=>w'.cell? ⟨wr.heap.size,0,none⟩=some (.int .i64 x)∧w'.cell? ⟨wr.heap.size,1,none⟩=some (.bool q.s)∧w'.cell? ⟨wr.heap.size,2,none⟩=some (.slice q.a q.n q.c)∧w'.cell? ⟨wr.heap.size,3,none⟩=some (.slice q.b q.m q.e)) (by kernel_rfl) ⟨ka0,ka1,ka2,ka3⟩ (fun hHeld=>?_)
   clear ka0 ka1 ka2 ka3
   generalize wA.drew=w0 at bD bA hHeld ⊢
   clear a0 a1 a2 a3 bD
   refine tk 0 (v:=?_) rfl (Or.inl ⟨by rfl,?_⟩) ?_
   rotate_left
   ·intro w9 hSw
    go_simp
    first | done | with_reducible rfl
   simp only [pP,pN,pS,pZ,pC]
   refine tk 1 (v:=?_) rfl (Or.inl ⟨by rfl,?_⟩) ?_
   rotate_left
   ·intro w9 hSw
    go_simp
    first | done | with_reducible rfl
   simp only [pP,pN,pS,pZ,pC]
   refine tk 2 (v:=?_) rfl (Or.inl ⟨by rfl,?_⟩) ?_
   rotate_left
   ·intro w9 hSw
    go_simp
    first | done | with_reducible rfl
   simp only [pP,pN,pS,pZ,pC]
   refine tk 3 (v:=?_) rfl (Or.inl ⟨by rfl,?_⟩) ?_
   rotate_left
   ·intro w9 hSw
    go_simp
    first | done | with_reducible rfl
   simp only [pP,pN,pS,pZ,pC]
   refine tk 4 (v:=?_) rfl (Or.inl ⟨by rfl,?_⟩) ?_
   rotate_left
   ·intro w9 hSw
    go_simp
    first | done | with_reducible rfl
   simp only [pP,pN,pS,pZ,pC]
   refine tk 5 (v:=?_) rfl (Or.inl ⟨by rfl,?_⟩) ?_
   rotate_left
   ·intro w9 hSw
    go_simp
    first | done | with_reducible rfl
   simp only [pP,pN,pS,pZ,pC]
   refine wpAnyH_ready (rs:=[6]) (by kernel_rfl) (by simp) ?_
   refine cons' rfl (fun KK hKK=>?_)
   go_simp
   refine (GC.out _ (hB.trans (bA.mono hB.size))).mono ?_
   rintro e w2 ⟨p,p',rfl,n1,n2⟩
   have b2:=n1.below
   have sA:=bA.size
   replace bA:=bA.trans (b2.mono bA.size)
   replace hHeld:=(⟨below_cell b2 hHeld.1,below_cell b2 hHeld.2.1,below_cell b2 hHeld.2.2.1,below_cell b2 hHeld.2.2.2⟩:_∧_∧_∧_)
   go_wp2_with fail
   refine hKK.out _ _ hHeld ?_
   clear hHeld
   intro hHeld
   clear hKK KK
   try simp only [pP,pN,pS,pZ,pC]
   refine tk 7 (v:=?_) rfl (Or.inl ⟨by rfl,?_⟩) ?_
   rotate_left
   ·intro w9 hSw
    go_simp
    first | done | with_reducible rfl
   simp only [pP,pN,pS,pZ,pC]
   refine wpAnyH_ready (rs:=[8]) (by kernel_rfl) (by simp) ?_
   refine cons' rfl (fun KK hKK=>?_)
   go_simp
   have hnew:=heap_alloc_new w2 (.cells #[.int .i64 x,.bool (ng r.num),.slice p (ln (am r.num)) (ln (am r.num)),.slice p' (ln r.den) (ln r.den)] 76)
   have b3:=below_alloc (w:=w2) (.cells #[.int .i64 x,.bool (ng r.num),.slice p (ln (am r.num)) (ln (am r.num)),.slice p' (ln r.den) (ln r.den)] 76)
   generalize w2.alloc (.cells #[.int .i64 x,.bool (ng r.num),.slice p (ln (am r.num)) (ln (am r.num)),.slice p' (ln r.den) (ln r.den)] 76)=w3 at hnew b3 ⊢
   replace bA:=bA.trans (b3.mono bA.size)
   replace hHeld:=(⟨below_cell b3 hHeld.1,below_cell b3 hHeld.2.1,below_cell b3 hHeld.2.2.1,below_cell b3 hHeld.2.2.2⟩:_∧_∧_∧_)
   refine hKK.out _ _ hHeld ?_
   clear hHeld
   intro hHeld
   clear hKK KK
   try simp only [pP,pN,pS,pZ,pC]
   have hO3:=own_below hO bA
   have s2:=b2.size
   have s3:=b3.size
   have s4:=bA.size
   have s5:=hB.size
   have gN:Grw u5 w3 (x,RatV.of r.num r.den p p'):=⟨⟨n1.seg.later b3,Nat.le_refl _,hsz.1,n2.seg.later b3,Nat.le_refl _,hsz.2⟩,ofR_low r p p',fun b e=>⟨fun hn ad e2 h=>by have h1:=n1.fr hn ad e2;have h2:=(hrow b e).2;omega,fun hn ad e2 h=>by have h1:=n2.fr hn ad e2;have h2:=(hrow b e).2;omega⟩⟩
   refine wpAnyH_ready (rs:=[9]) (by kernel_rfl) (by simp) ?_
   refine cons' rfl (fun KK hKK=>?_)
   refine step_append_lies _ (by rfl) _ _ _ (by rfl) w.heap.size 76 i0 _ 4 64 Tryz.underlying35 hi0 hz0 hz1 hz2 rfl (by omega) u5 R.length (cellsF R) (by rfl) hO3
    ⟨w2.heap.size,0,none⟩ 1 1 (cells4 (x,RatV.of r.num r.den p p')) (by rfl) (by rfl) (World.news_of_block (cs:=#[.int .i64 x,.bool (ng r.num),.slice p (ln (am r.num)) (ln (am r.num)),.slice p' (ln r.den) (ln r.den)]) (t:=76) (fr:=(0,0)) hnew) (cells4_one _)
    (by omega) (by simp only [maxLen];omega) (by omega) (by omega) w3.heap.size rfl ?_
   intro gb cap w9 hown4 hgrow hat hlt4
   have far:∀ {o:Nat} {u:Value},w3.cell? ⟨wr.heap.size,o,none⟩=some u→w9.cell? ⟨wr.heap.size,o,none⟩=some u:=fun hu=>hgrow.cell hu (fun e=>by have:=hrow _ e.symm;simp only at this;omega)
   refine hKK.out _ _ ⟨far hHeld.1,far hHeld.2.1,far hHeld.2.2.1,far hHeld.2.2.2⟩ ?_
   clear hHeld
   intro hHeld
   clear hKK KK
   try simp only [pP,pN,pS,pZ,pC]
   have hBT:=hB.trans (bA.mono hB.size)
   have I1:=hide' (And.intro (own_push hown4) (And.intro (hBT.trans (below_grown hBT.size (fun k hk=>(hrow k hk).1) hgrow)) (grw_push (fun q hq=>(hR q hq).later bA) gN (j:=R.length+1) (cap:=cap) hgrow hat)))
   clear hown4 hgrow hat far gN hO3 hnew n1 n2
   refine tk 10 (v:=?_) rfl (Or.inl ⟨by rfl,?_⟩) ?_
   rotate_left
   ·intro w9 hSw
    go_simp
    first | done | with_reducible rfl
   simp only [pP,pN,pS,pZ,pC]
   refine wpAnyH_done (by kernel_rfl) ?_ _
   go_wp2
   go_roundw
   case rel=>exact ⟨k+1,by omega,by go_num,R ++ [(x,RatV.of r.num r.den p p')],by rw [List.length_append,hRl];rfl,by have h:=I1.out.1;rw [hRl] at h;exact h,I1.out.2.1,by have h:=I1.out.2.2;rw [hRl] at h;exact h,by rw [fo_append,hfo,hfo',fmap_snoc,hr];show _ ++ [(x,(RatV.of r.num r.den p p').val)]=_;rw [val_ofR]⟩
   case measure=>simp [intOf];omega
  ·obtain rfl:k=L.length:=by omega
   have i1:¬ (L.length:Int) < (L.length:Int):=by omega
   go_wp2
   go_ret
   exact ⟨u5,rfl,R,hRl,hO,hB,hR,hfo⟩
set_option maxHeartbeats 2000000 in
set_option maxRecDepth 100000 in
theorem lNorm_new (a:Option Addr) (c:Nat) (L:List Mo) (w:World) (hF:FAt w a L) (hok:∀ p∈L,p.2.ok w) (hc:L.length≤c) (hm:L.length≤1048576) (hmx:∀ p∈L,p.2.m < 35184372087808) (ht:thin (fo L)) :
  Calls Tryz.prog 76 #[.slice a L.length c] w (FNew w w.heap.size (nfm (fo L))):=by
 have G1:=hide' (turned_norm (fun r=>r) a c L w hF hok hc hm (fun p hp w' hb=>(qNorm_is p.2.s p.2.a p.2.n p.2.c p.2.X p.2.b p.2.m p.2.e p.2.Y _ _ w' (hok p hp).2.1 (Nat.le_trans (hok p hp).2.2.1 (by omega)) ((hok p hp).1.later hb) (hok p hp).2.2.2.2.1 (Nat.le_trans (hok p hp).2.2.2.2.2 (by omega)) ((hok p hp).2.2.2.1.later hb) p.2.val_low)) (fun p hp=>by obtain ⟨h1,h2⟩:=norm_sz (hok p hp);exact ⟨Nat.le_trans h1 (hok p hp).2.2.1,by have:=(hok p hp).2.2.2.2.2;have h3:=hmx p hp;omega⟩))
 have G2:=hide' (fun w' a2 c2 (R:List Mo) (hs:Sl w' a2 c2 R) (hE:∀ p∈R,Ent w' p) (hf:fo R=fo L) (hB9:w.heap.size≤w'.heap.size) (ha9:∀ ad,a2=some ad→w.heap.size≤ad.block∧Row w' ad.block)=>collect_thinN R a2 c2 w' w.heap.size hs hE (by have h:=congrArg List.length hf;rw [fo_length,fo_length] at h;omega) (by rw [hf];exact ht) hB9 ha9)
 clear hF hok hc hm ht hmx
 go_enter Tryz.func76,Tryz.ntmps76
 go_wp2_with fail
 refine G1.out.mono ?_
 rintro e w1 ⟨vo,rfl,hT⟩
 have hA:=hT.ans
 rw [fmap_id] at hA
 obtain ⟨a1,c1,R1,e1,b1,s1,e2,f1⟩:=hA
 obtain rfl:vo=.slice a1 R1.length c1:=by injection e1
 have fr1:∀ ad,a1=some ad→w.heap.size≤ad.block∧Row w1 ad.block:=by obtain ⟨R0,_,hO0,_⟩:=hT;exact own_new hO0
 clear hT e1
 go_wp2_with fail
 refine (G2.out _ a1 c1 R1 s1 e2 f1 b1.size fr1).mono ?_
 rintro e w2 ⟨a2,c2,R2,rfl,b2,s2,e3,f2,n2⟩
 rw [f1] at f2
 have bT:=b1.trans (b2.mono b1.size)
 clear b1 b2
 go_wp2
 go_ret
 exact ⟨a2,c2,R2,rfl,bT,s2,e3,f2,n2⟩
end Go.Proofs.YtlklfkkbdcglbaaGreat
