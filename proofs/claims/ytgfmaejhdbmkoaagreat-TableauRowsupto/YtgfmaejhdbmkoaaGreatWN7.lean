import Derived.Test.YtgfmaejhdbmkoaaGreatWN4
import Derived.Test.YtgfmaejhdbmkoaaGreatWN5
set_option linter.unusedSimpArgs false
namespace Go.Proofs.YtgfmaejhdbmkoaaGreat
open Go.RowKit
set_option linter.unusedVariables false
theorem sgn_zero_iff (Z:Int):sgn Z=0↔Z=0:=by
 unfold sgn
 split
 ·exact ⟨fun h=>absurd h (by omega),fun h=>absurd h (by omega)⟩
 ·split
  ·rename_i h1 h2;exact ⟨fun _=>h2,fun _=>rfl⟩
  ·rename_i h1 h2;exact ⟨fun h=>absurd h (by omega),fun h=>absurd h h2⟩
theorem add_sz {w:World} {x y:Int} {P Q:RatV} {Z:Int} {V:Nat} (eP:EntS w (x,P)) (eQ:EntS w (y,Q)) (hL:Low (rn P.s P.X P.Y*(rd Q.Y:Nat)+rn Q.s Q.X Q.Y*(rd P.Y:Nat)) ((rd P.Y:Nat)*(rd Q.Y:Nat)) Z V):ln (am Z)≤35184372087808∧ln V≤35184372087808:=by
 have h1:P.n≤1099511627776:=eP.ln1
 have h2:P.m≤1099511627776:=eP.ln2
 have h3:Q.n≤1099511627776:=eQ.ln1
 have h4:Q.m≤1099511627776:=eQ.ln2
 have hp:=eP.ent.ok
 have hq:=eQ.ent.ok
 refine ln1 (i:=P.n+Q.m+Q.n+P.m+4) (j:=(P.m+1)+(Q.m+1)) hL ?_ (lt_prod (by show rd _ < _;exact rd_lt hp.2.2.2.1.1) (by show rd _ < _;exact rd_lt hq.2.2.2.1.1)) (by omega) (by omega)
 exact lt_sum (i:=P.n+(Q.m+1)) (j:=Q.n+(P.m+1)) (lt_prod (Nat.lt_of_le_of_lt (rn_am _ _ _) hp.1.1) (by show rd _ < _;exact rd_lt hq.2.2.2.1.1)) (lt_prod (Nat.lt_of_le_of_lt (rn_am _ _ _) hq.1.1) (by show rd _ < _;exact rd_lt hp.2.2.2.1.1)) (by omega) (by omega)
set_option maxHeartbeats 8000000 in
set_option maxRecDepth 100000 in
theorem merge_new (a:Option Addr) (ca:Nat) (L:List Mo) (b:Option Addr) (cb:Nat) (M:List Mo) (w:World) (sa:Sl w a ca L) (sb:Sl w b cb M) (ea:∀ p∈L,EntS w p) (eb:∀ p∈M,EntS w p) (hK:L.length+M.length≤2097152) :
  Calls Tryz.prog 95 #[.slice a L.length ca,.slice b M.length cb,.func (.func 96) #[] #[],.func (.func 97) #[] #[]] w (FNew w w.heap.size (mrg (fo L) (fo M))):=by
 obtain ⟨i0,hi0,hz0,hz1,hz2⟩:=info_parts info_Mono
 obtain ⟨w1,mk,own1,gr1⟩:=run_make_own (P:=Tryz.prog) w w.heap.size 25 57 i0 _ 4 Tryz.underlying25 hi0 hz0 hz1 .i64 .i64 (L.length+M.length) (by rw [hz2];omega) (by simp only [maxLen];omega) (Nat.le_refl _)
 rw [Int.natCast_add] at mk
 obtain ⟨T,hT⟩:∃ T,mrg (fo L) (fo M)=T:=⟨_,rfl⟩
 rw [hT]
 have I0:MInv w T (L.length+M.length) (.slice a L.length ca) (.slice b M.length cb) (.slice (some ⟨w.heap.size,0,none⟩) 0 (L.length+M.length)) w1:=⟨a,ca,L,b,cb,M,[],rfl,rfl,sa,sb,ea,eb,own1,xQ8 (Nat.le_refl _) (fun k h=>by cases h) gr1,fun p hp=>by simp at hp,by rw [←hT];rfl,by simp⟩
 have l0:(0:Int)≤(L.length:Int):=by omega
 have l1:(0:Int)≤(M.length:Int):=by omega
 have l2:(L.length:Int)+(M.length:Int)≤2097152:=by omega
 clear own1 gr1 hT sa sb ea eb
 go_enter Tryz.func95,Tryz.ntmps95
 go_wp2_with fail
 go_loopw [0,1,9] (fun va vb vo wr=>MInv w T (L.length+M.length) va vb vo wr) (fun va vb _ _=>slen va+slen vb)
 case atStart=>exact I0
 case round =>
  clear I0 mk
  obtain ⟨a,ca,L9,b,cb,M9,R,rfl,rfl,sa,sb,ea,eb,hO,hB,hR,hT,hlen⟩:=hrel
  have hbs:=hB.size
  generalize hKK9:L.length+M.length=KK9 at *
  have hrow:=fun k hk=>(hO.lt k hk)
  cases L9 with
  | nil =>
   have n0:([]:List Mo).length=0:=rfl
   rw [n0]
   have sa9:=sa.later hB
   go_wp2_with (at_builtin;refine xJ4 (by rfl) _ _ _ (by rfl) w.heap.size u9 R [] a ca Tryz.underlying25 (by rfl) (by rfl) hO sa9 (by omega) hbs ?_)
   intro v2 w2 hO2 hg2 hat2
   have b2:=xQ8 hB.size (fun k hk=>(hrow k hk).1) hg2
   have hB2:=hB.trans b2
   have hR2:=grw_all hR (fun q hq=>(ea q hq).ent.grw hB (fun b e=>(hrow b e).1)) hg2 hat2
   have hrow2:∀ k,v2.ownBlock=some k→w.heap.size≤k:=fun k hk=>by
    rcases hat2 with h | h
    ·rw [h] at hk;exact (hrow k hk).1
    ·rw [h] at hk;obtain rfl:=Option.some.inj hk;exact hB.size
   simp only [List.append_nil] at hR2
   have sb9:=sb.later hB2
   have hbs2:=hB2.size
   have hl2:R.length+M9.length≤4194304:=by (try rw [List.length_append]);omega
   go_wp2_with (at_builtin;refine xJ4 (by rfl) _ _ _ (by rfl) w.heap.size v2 R M9 b cb Tryz.underlying25 (by rfl) (by rfl) hO2 sb9 hl2 hbs2 ?_)
   intro v3 w3 hO3 hg3 hat3
   have b3:=xQ8 hB2.size hrow2 hg3
   have hR3:=grw_all hR2 (fun q hq=>(eb q hq).ent.grw hB2 hrow2) hg3 hat3
   rw [←List.length_append] at hO3
   obtain ⟨a3,c3,e3,s3⟩:=Sl.of hO3
   subst e3
   have fr3:=own_new hO3
   go_wp2
   go_ret
   refine ⟨a3,c3,_,rfl,hB2.trans b3,s3,fun q hq=>(hR3 q hq).ent,?_,fr3⟩
   rw [←hT,xZ1]
   congr 1
   show fo M9=mrg [] (fo M9);rw [mrg_nil_left]
  | cons p L9 =>
   obtain ⟨x,P⟩:=p
   obtain ⟨n,hn⟩:∃ n,((x,P) :: L9:List Mo).length=n:=⟨_,rfl⟩
   have hn1:n=L9.length+1:=by rw [←hn];rfl
   have i1:(0:Int) < (n:Int):=by omega
   have i1n:0 < n:=by omega
   cases M9 with
   | nil =>
    have n0:([]:List Mo).length=0:=rfl
    rw [n0,hn]
    have HN:=xQ1 hn1
    clear hn1
    have sa9:=sa.later hB
    go_wp2_with (at_builtin;refine xJ4 (by rfl) _ _ _ (by rfl) w.heap.size u9 R ((x,P) :: L9) a ca Tryz.underlying25 (by rfl) (by rw [hn];rfl) hO sa9 (by omega) hbs ?_)
    intro v2 w2 hO2 hg2 hat2
    have b2:=xQ8 hB.size (fun k hk=>(hrow k hk).1) hg2
    have hB2:=hB.trans b2
    have hR2:=grw_all hR (fun q hq=>(ea q hq).ent.grw hB (fun b e=>(hrow b e).1)) hg2 hat2
    have hrow2:∀ k,v2.ownBlock=some k→w.heap.size≤k:=fun k hk=>by
     rcases hat2 with h | h
     ·rw [h] at hk;exact (hrow k hk).1
     ·rw [h] at hk;obtain rfl:=Option.some.inj hk;exact hB.size
    have sb9:=sb.later hB2
    have hbs2:=hB2.size
    replace hO2:w2.ownsRow w.heap.size 57 4 v2 (R ++ ((x,P) :: L9)).length (xZ0 (R ++ ((x,P) :: L9))):=by rw [List.length_append,hn];exact hO2
    have hl2:(R ++ ((x,P) :: L9)).length+([]:List Mo).length≤4194304:=by (try rw [List.length_append]);omega
    go_wp2_with (at_builtin;refine xJ4 (by rfl) _ _ _ (by rfl) w.heap.size v2 (R ++ ((x,P) :: L9)) ([]:List Mo) b cb Tryz.underlying25 (by rfl) (by rfl) hO2 sb9 hl2 hbs2 ?_)
    intro v3 w3 hO3 hg3 hat3
    have b3:=xQ8 hB2.size hrow2 hg3
    have hR3:=grw_all hR2 (fun q hq=>(eb q hq).ent.grw hB2 hrow2) hg3 hat3
    replace hO3:w3.ownsRow w.heap.size 57 4 v3 (R ++ ((x,P) :: L9)).length (xZ0 (R ++ ((x,P) :: L9))):=by rw [List.length_append,hn];exact hO3
    simp only [List.append_nil] at hR3
    obtain ⟨a3,c3,e3,s3⟩:=Sl.of hO3
    subst e3
    have fr3:=own_new hO3
    go_wp2
    go_ret
    refine ⟨a3,c3,_,rfl,hB2.trans b3,s3,fun q hq=>(hR3 q hq).ent,?_,fr3⟩
    rw [←hT,xZ1]
    congr 1
    show fo ((x,P) :: L9)=mrg (fo ((x,P) :: L9)) [];rw [mrg_nil_right]
   | cons q M9 =>
    obtain ⟨y,Q⟩:=q
    obtain ⟨m,hm⟩:∃ m,((y,Q) :: M9:List Mo).length=m:=⟨_,rfl⟩
    have hm1:m=M9.length+1:=by rw [←hm];rfl
    have i2:(0:Int) < (m:Int):=by omega
    have i2n:0 < m:=by omega
    have hca:n≤ca:=by have:=sa.len;omega
    have hcb:m≤cb:=by have:=sb.len;omega
    obtain ⟨b1,o1,rfl,hb1,⟨c0,c1,c2,c3⟩,fa⟩:=sa.lies.head
    obtain ⟨b2,o2,rfl,hb2,⟨d0,d1,d2,d3⟩,fb⟩:=sb.lies.head
    simp only at c0 c1 c2 c3 d0 d1 d2 d3
    have eP:=ea (x,P) List.mem_cons_self
    have eQ:=eb (y,Q) List.mem_cons_self
    have eL:∀ p∈L9,EntS w p:=fun p hp=>ea p (List.mem_cons_of_mem _ hp)
    have eM:∀ p∈M9,EntS w p:=fun p hp=>eb p (List.mem_cons_of_mem _ hp)
    obtain ⟨a1,sl1,sa1⟩:=sl_restM b1 o1 n ca 1 (by omega) hca
    obtain ⟨a2,sl2,sa2⟩:=sl_restM b2 o2 m cb 1 (by omega) hcb
    have z1:((1:Nat):Int)=1:=rfl
    simp only [z1] at sl1 sl2
    have tL:Sl w a1 (ca - 1) L9:=⟨fun hne=>by
     have h1:1 < n:=by rw [hn1];have:=List.length_pos_iff.2 hne;omega
     rw [sa1.2 h1];exact fa hne,by omega,fun e=>absurd e sa1.1⟩
    have tM:Sl w a2 (cb - 1) M9:=⟨fun hne=>by
     have h1:1 < m:=by rw [hm1];have:=List.length_pos_iff.2 hne;omega
     rw [sa2.2 h1];exact fb hne,by omega,fun e=>absurd e sa2.1⟩
    replace c0:=xQ0 hB c0
    replace c1:=xQ0 hB c1
    replace c2:=xQ0 hB c2
    replace c3:=xQ0 hB c3
    replace d0:=xQ0 hB d0
    replace d1:=xQ0 hB d1
    replace d2:=xQ0 hB d2
    replace d3:=xQ0 hB d3
    have nL:n - 1=L9.length:=by omega
    have nM:m - 1=M9.length:=by omega
    rw [nL] at sl1
    rw [nM] at sl2
    have HN:=xQ1 (And.intro hn1 hm1)
    have GB':=fun w'=>byVar_is x y P.s P.a P.n P.c P.b P.m P.e Q.s Q.a Q.n Q.c Q.b Q.m Q.e w'
    rw [hn,hm]
    clear hn1 hm1 nL nM fa fb sa1 sa2 z1 ea eb
    rcases Int.lt_trichotomy x y with hxy | hxy | hxy
    ·have ho:ord x y = -1:=if_pos hxy
     rw [ho] at GB'
     clear ho
     have GB:=xQ1 GB'
     clear GB'
     go_wp2_with fail
     clear hbs
     have hO9:=hO
     have hR9:=hR
     have bD:Below wr.heap.size wr wr.drew:=(Below.refl _ _).drew
     have kc0:=xQ0 bD c0
     have kc1:=xQ0 bD c1
     have kc2:=xQ0 bD c2
     have kc3:=xQ0 bD c3
     have kd0:=xQ0 bD d0
     have kd1:=xQ0 bD d1
     have kd2:=xQ0 bD d2
     have kd3:=xQ0 bD d3
     replace hB:=hB.trans (bD.mono hB.size)
     replace c0:=xQ0 bD c0
     replace c1:=xQ0 bD c1
     replace c2:=xQ0 bD c2
     replace c3:=xQ0 bD c3
     replace d0:=xQ0 bD d0
     replace d1:=xQ0 bD d1
     replace d2:=xQ0 bD d2
     replace d3:=xQ0 bD d3
     refine wp_region_held_drew (S:=fun w'=>w'.cell? ⟨b1,o1,none⟩=some (.int .i64 x)∧w'.cell? ⟨b1,o1+1,none⟩=some (.bool P.s)∧w'.cell? ⟨b1,o1+1+1,none⟩=some (.slice P.a P.n P.c)∧w'.cell? ⟨b1,o1+1+2,none⟩=some (.slice P.b P.m P.e)∧w'.cell? ⟨b2,o2,none⟩=some (.int .i64 y)∧w'.cell? ⟨b2,o2+1,none⟩=some (.bool Q.s)∧w'.cell? ⟨b2,o2+1+1,none⟩=some (.slice Q.a Q.n Q.c)∧w'.cell? ⟨b2,o2+1+2,none⟩=some (.slice Q.b Q.m Q.e)) (by kernel_rfl) ⟨kc0,kc1,kc2,kc3,kd0,kd1,kd2,kd3⟩ (fun hHeld=>?_)
     clear kc0 kc1 kc2 kc3 kd0 kd1 kd2 kd3
     generalize wr.drew=w0 at bD c0 c1 c2 c3 d0 d1 d2 d3 hB hHeld ⊢
     refine tk 0 (v:=?_) rfl (Or.inl ⟨by rfl,?_⟩) ?_
     rotate_left
     ·intro w9 hSw
      go_simp
      try with_reducible rfl
     simp only [pA]
     refine tk 1 (v:=?_) rfl (Or.inl ⟨by rfl,?_⟩) ?_
     rotate_left
     ·intro w9 hSw
      go_simp
      try with_reducible rfl
     simp only [pA]
     refine tk 2 (v:=?_) rfl (Or.inl ⟨by rfl,?_⟩) ?_
     rotate_left
     ·intro w9 hSw
      go_simp
      try with_reducible rfl
     simp only [pA]
     refine tk 3 (v:=?_) rfl (Or.inl ⟨by rfl,?_⟩) ?_
     rotate_left
     ·intro w9 hSw
      go_simp
      try with_reducible rfl
     simp only [pA]
     refine tk 4 (v:=?_) rfl (Or.inl ⟨by rfl,?_⟩) ?_
     rotate_left
     ·intro w9 hSw
      go_simp
      try with_reducible rfl
     simp only [pA]
     refine tk 5 (v:=?_) rfl (Or.inl ⟨by rfl,?_⟩) ?_
     rotate_left
     ·intro w9 hSw
      go_simp
      try with_reducible rfl
     simp only [pA]
     refine tk 6 (v:=?_) rfl (Or.inl ⟨by rfl,?_⟩) ?_
     rotate_left
     ·intro w9 hSw
      go_simp
      try with_reducible rfl
     simp only [pA]
     refine wpAnyH_ready (rs:=[7]) (by kernel_rfl) (by simp) ?_
     refine xX0 rfl (fun KK hKK=>?_)
     go_simp
     refine (GB.out _).mono ?_
     rintro e w6 ⟨rfl,b6⟩
     have bC:=b6
     replace hB:=hB.trans (bC.mono hB.size)
     replace c0:=xQ0 bC c0
     replace c1:=xQ0 bC c1
     replace c2:=xQ0 bC c2
     replace c3:=xQ0 bC c3
     replace d0:=xQ0 bC d0
     replace d1:=xQ0 bC d1
     replace d2:=xQ0 bC d2
     replace d3:=xQ0 bC d3
     replace hHeld:=(⟨xQ0 bC hHeld.1,xQ0 bC hHeld.2.1,xQ0 bC hHeld.2.2.1,xQ0 bC hHeld.2.2.2.1,xQ0 bC hHeld.2.2.2.2.1,xQ0 bC hHeld.2.2.2.2.2.1,xQ0 bC hHeld.2.2.2.2.2.2.1,xQ0 bC hHeld.2.2.2.2.2.2.2⟩:_∧_∧_∧_∧_∧_∧_∧_)
     clear bC
     go_wp2_with fail
     have bT:=bD.trans (b6.mono bD.size)
     refine hKK.out _ _ hHeld ?_
     clear hHeld
     intro hHeld
     clear hKK KK
     try simp only [pA]
     refine tk 8 (v:=?_) rfl (Or.inl ⟨by rfl,?_⟩) ?_
     rotate_left
     ·intro w9 hSw
      go_simp
      try with_reducible rfl
     simp only [pA]
     refine wpAnyH_done (by kernel_rfl) ?_ _
     replace hO:=xQ6 hO bT
     replace hR:=fun p hp=>(hR p hp).later bT
     replace hrow:=fun k hk=>(hO.lt k hk)
     have hbs:=hB.size
     clear bT bD b6 hO9 hR9 hHeld GB
     go_wp2_with fail
     have bD:Below w6.heap.size w6 w6.drew:=(Below.refl _ _).drew
     have kc0:=xQ0 bD c0
     have kc1:=xQ0 bD c1
     have kc2:=xQ0 bD c2
     have kc3:=xQ0 bD c3
     replace hB:=hB.trans (bD.mono hB.size)
     refine wp_region_held_drew (S:=fun w'=>w'.cell? ⟨b1,o1,none⟩=some (.int .i64 x)∧w'.cell? ⟨b1,o1+1,none⟩=some (.bool P.s)∧w'.cell? ⟨b1,o1+1+1,none⟩=some (.slice P.a P.n P.c)∧w'.cell? ⟨b1,o1+1+2,none⟩=some (.slice P.b P.m P.e)) (by kernel_rfl) ⟨kc0,kc1,kc2,kc3⟩ (fun hHeld=>?_)
     clear kc0 kc1 kc2 kc3
     generalize w6.drew=w7 at bD hB hHeld ⊢
     refine tk 0 (v:=?_) rfl (Or.inl ⟨by rfl,?_⟩) ?_
     rotate_left
     ·intro w9 hSw
      go_simp
      try with_reducible rfl
     simp only [pA]
     refine tk 1 (v:=?_) rfl (Or.inl ⟨by rfl,?_⟩) ?_
     rotate_left
     ·intro w9 hSw
      go_simp
      try with_reducible rfl
     simp only [pA]
     refine tk 2 (v:=?_) rfl (Or.inl ⟨by rfl,?_⟩) ?_
     rotate_left
     ·intro w9 hSw
      go_simp
      try with_reducible rfl
     simp only [pA]
     refine tk 3 (v:=?_) rfl (Or.inl ⟨by rfl,?_⟩) ?_
     rotate_left
     ·intro w9 hSw
      go_simp
      try with_reducible rfl
     simp only [pA]
     refine tk 6 (v:=?_) rfl (Or.inl ⟨by rfl,?_⟩) ?_
     rotate_left
     ·intro w9 hSw
      go_simp
      try with_reducible rfl
     simp only [pA]
     refine tk 7 (v:=?_) rfl (Or.inl ⟨by rfl,?_⟩) ?_
     rotate_left
     ·intro w9 hSw
      go_simp
      try with_reducible rfl
     simp only [pA]
     refine wpAnyH_ready (rs:=[4]) (by kernel_rfl) (by simp) ?_
     refine xX0 rfl (fun KK hKK=>?_)
     go_simp
     have hnew:=heap_alloc_new w7 (.cells #[.int .i64 x,.bool P.s,.slice P.a P.n P.c,.slice P.b P.m P.e] 57)
     have b3:=xQ2 (w:=w7) (.cells #[.int .i64 x,.bool P.s,.slice P.a P.n P.c,.slice P.b P.m P.e] 57)
     generalize hw8:w7.alloc (.cells #[.int .i64 x,.bool P.s,.slice P.a P.n P.c,.slice P.b P.m P.e] 57)=w8 at hnew b3 ⊢
     clear hw8
     replace hB:=hB.trans (b3.mono hB.size)
     replace hHeld:=(⟨xQ0 b3 hHeld.1,xQ0 b3 hHeld.2.1,xQ0 b3 hHeld.2.2.1,xQ0 b3 hHeld.2.2.2⟩:_∧_∧_∧_)
     refine hKK.out _ _ hHeld ?_
     clear hHeld
     intro hHeld
     clear hKK KK
     try simp only [pA]
     have bT:=bD.trans (b3.mono bD.size)
     have hO3:=xQ6 hO bT
     have s3:=b3.size
     have s4:=bD.size
     have s5:=hB.size
     refine wpAnyH_ready (rs:=[5]) (by kernel_rfl) (by simp) ?_
     refine xX0 rfl (fun KK hKK=>?_)
     refine step_append_lies _ (by rfl) _ _ _ (by rfl) w.heap.size 57 i0 _ 4 64 Tryz.underlying25 hi0 hz0 hz1 hz2 rfl (by omega) u9 R.length (xZ0 R) (by rfl) hO3
      ⟨w7.heap.size,0,none⟩ 1 1 (cells4 (x,P)) (by rfl) (by rfl) (World.news_of_block (cs:=#[.int .i64 x,.bool P.s,.slice P.a P.n P.c,.slice P.b P.m P.e]) (t:=57) (fr:=(0,0)) hnew) (cells4_one _)
      (by omega) (by simp only [maxLen];omega) (by omega) (by omega) w8.heap.size rfl ?_
     intro gb cap w9 hown4 hgrow hat hlt4
     have far:∀ {o:Nat} {u:Value},w8.cell? ⟨b1,o,none⟩=some u→w9.cell? ⟨b1,o,none⟩=some u:=fun hu=>hgrow.cell hu (fun e=>by have:=hrow _ e.symm;simp only at this;omega)
     refine hKK.out _ _ ⟨far hHeld.1,far hHeld.2.1,far hHeld.2.2.1,far hHeld.2.2.2⟩ ?_
     clear hHeld
     intro hHeld
     clear hKK KK
     try simp only [pA]
     have I1:=xQ1 (And.intro (own_push hown4) (And.intro (hB.trans (xQ8 hB.size (fun k hk=>(hrow k hk).1) hgrow)) (grw_push (fun q hq=>(hR q hq).later bT) (eP.ent.grw hB (fun b e=>(hrow b e).1)) (j:=R.length+1) (cap:=cap) hgrow hat)))
     clear hown4 hgrow hat far
     refine tk 8 (v:=?_) rfl (Or.inl ⟨by rfl,?_⟩) ?_
     rotate_left
     ·intro w9 hSw
      go_simp
      try with_reducible rfl
     simp only [pA]
     refine tk 9 (v:=?_) rfl (Or.inl ⟨by rfl,?_⟩) ?_
     rotate_left
     ·intro w9 hSw
      go_simp
      try with_reducible rfl
     simp only [pA]
     refine wpAnyH_done (by kernel_rfl) ?_ _
     go_wp2
     go_roundw
     case rel=>exact ⟨a1,ca - 1,L9,_,cb,(y,Q) :: M9,R ++ [(x,P)],rfl,by rw [hm],tL,sb,eL,by intro p hp;rcases List.mem_cons.1 hp with rfl | hp;exact eQ;exact eM p hp,I1.out.1,I1.out.2.1,I1.out.2.2,by rw [←hT,fo_cons,fo_cons,mrg_lt hxy,xZ1,List.append_assoc];rfl,by have:=HN.out.1;rw [List.length_append];simp only [List.length_cons,List.length_nil] at hlen ⊢;omega⟩
     case measure=>have:=HN.out.1;simp only [slen];omega
    ·subst hxy
     have ho:ord x x=0:=by unfold ord;rw [if_neg (by omega),if_neg (by omega)]
     rw [ho] at GB'
     clear ho
     obtain ⟨Z,hZ⟩:∃ Z,(P.val+Q.val).num=Z:=⟨_,rfl⟩
     obtain ⟨V,hV⟩:∃ V,(P.val+Q.val).den=V:=⟨_,rfl⟩
     have hL:=low_add P Q
     rw [hZ,hV] at hL
     have lZ:=add_sz eP eQ hL
     obtain ⟨C,hC⟩:∃ C,sgn Z=C:=⟨_,rfl⟩
     obtain ⟨d,hd⟩:∃ d:Bool,d=(!decide (C=0)):=⟨_,rfl⟩
     have GJ:=xQ1 (fun w' (k1:Seg w' P.a P.X P.n) (k2:Seg w' P.b P.Y P.m) (k3:Seg w' Q.a Q.X Q.n) (k4:Seg w' Q.b Q.Y Q.m)=>joined_cc x x P.s P.a P.n P.c P.X P.b P.m P.e P.Y Q.s Q.a Q.n Q.c Q.X Q.b Q.m Q.e Q.Y Z V C d w' eP.ent.ok.2.1 eP.ln1 k1 eP.ent.ok.2.2.2.2.1 eP.ln2 k2 eQ.ent.ok.2.1 eQ.ln1 k3 eQ.ent.ok.2.2.2.2.1 eQ.ln2 k4 hL hC hd lZ.1 lZ.2)
     have hd2:d=true∧P.val+Q.val≠0∨d=false∧P.val+Q.val=0:=by
      have h1:=Rat.num_eq_zero (q:=P.val+Q.val)
      rw [hZ] at h1
      have h2:=sgn_zero_iff Z
      rw [hC] at h2
      rw [hd]
      by_cases h:C=0
      ·exact Or.inr ⟨by simp [h],h1.1 (h2.1 h)⟩
      ·exact Or.inl ⟨by simp [h],fun e=>h (h2.2 (h1.2 e))⟩
     have HZ:=xQ1 (And.intro hZ hV)
     have HL:=xQ1 hL
     have lZ1:=lZ.1
     have lZ2:=lZ.2
     clear hL lZ hC hd hZ hV
     have GB:=xQ1 GB'
     clear GB'
     go_wp2_with fail
     clear hbs
     have hO9:=hO
     have hR9:=hR
     have bD:Below wr.heap.size wr wr.drew:=(Below.refl _ _).drew
     have kc0:=xQ0 bD c0
     have kc1:=xQ0 bD c1
     have kc2:=xQ0 bD c2
     have kc3:=xQ0 bD c3
     have kd0:=xQ0 bD d0
     have kd1:=xQ0 bD d1
     have kd2:=xQ0 bD d2
     have kd3:=xQ0 bD d3
     replace hB:=hB.trans (bD.mono hB.size)
     replace c0:=xQ0 bD c0
     replace c1:=xQ0 bD c1
     replace c2:=xQ0 bD c2
     replace c3:=xQ0 bD c3
     replace d0:=xQ0 bD d0
     replace d1:=xQ0 bD d1
     replace d2:=xQ0 bD d2
     replace d3:=xQ0 bD d3
     refine wp_region_held_drew (S:=fun w'=>w'.cell? ⟨b1,o1,none⟩=some (.int .i64 x)∧w'.cell? ⟨b1,o1+1,none⟩=some (.bool P.s)∧w'.cell? ⟨b1,o1+1+1,none⟩=some (.slice P.a P.n P.c)∧w'.cell? ⟨b1,o1+1+2,none⟩=some (.slice P.b P.m P.e)∧w'.cell? ⟨b2,o2,none⟩=some (.int .i64 x)∧w'.cell? ⟨b2,o2+1,none⟩=some (.bool Q.s)∧w'.cell? ⟨b2,o2+1+1,none⟩=some (.slice Q.a Q.n Q.c)∧w'.cell? ⟨b2,o2+1+2,none⟩=some (.slice Q.b Q.m Q.e)) (by kernel_rfl) ⟨kc0,kc1,kc2,kc3,kd0,kd1,kd2,kd3⟩ (fun hHeld=>?_)
     clear kc0 kc1 kc2 kc3 kd0 kd1 kd2 kd3
     generalize wr.drew=w0 at bD c0 c1 c2 c3 d0 d1 d2 d3 hB hHeld ⊢
     refine tk 0 (v:=?_) rfl (Or.inl ⟨by rfl,?_⟩) ?_
     rotate_left
     ·intro w9 hSw
      go_simp
      try with_reducible rfl
     simp only [pA]
     refine tk 1 (v:=?_) rfl (Or.inl ⟨by rfl,?_⟩) ?_
     rotate_left
     ·intro w9 hSw
      go_simp
      try with_reducible rfl
     simp only [pA]
     refine tk 2 (v:=?_) rfl (Or.inl ⟨by rfl,?_⟩) ?_
     rotate_left
     ·intro w9 hSw
      go_simp
      try with_reducible rfl
     simp only [pA]
     refine tk 3 (v:=?_) rfl (Or.inl ⟨by rfl,?_⟩) ?_
     rotate_left
     ·intro w9 hSw
      go_simp
      try with_reducible rfl
     simp only [pA]
     refine tk 4 (v:=?_) rfl (Or.inl ⟨by rfl,?_⟩) ?_
     rotate_left
     ·intro w9 hSw
      go_simp
      try with_reducible rfl
     simp only [pA]
     refine tk 5 (v:=?_) rfl (Or.inl ⟨by rfl,?_⟩) ?_
     rotate_left
     ·intro w9 hSw
      go_simp
      try with_reducible rfl
     simp only [pA]
     refine tk 6 (v:=?_) rfl (Or.inl ⟨by rfl,?_⟩) ?_
     rotate_left
     ·intro w9 hSw
      go_simp
      try with_reducible rfl
     simp only [pA]
     refine wpAnyH_ready (rs:=[7]) (by kernel_rfl) (by simp) ?_
     refine xX0 rfl (fun KK hKK=>?_)
     go_simp
     refine (GB.out _).mono ?_
     rintro e w6 ⟨rfl,b6⟩
     have bC:=b6
     replace hB:=hB.trans (bC.mono hB.size)
     replace c0:=xQ0 bC c0
     replace c1:=xQ0 bC c1
     replace c2:=xQ0 bC c2
     replace c3:=xQ0 bC c3
     replace d0:=xQ0 bC d0
     replace d1:=xQ0 bC d1
     replace d2:=xQ0 bC d2
     replace d3:=xQ0 bC d3
     replace hHeld:=(⟨xQ0 bC hHeld.1,xQ0 bC hHeld.2.1,xQ0 bC hHeld.2.2.1,xQ0 bC hHeld.2.2.2.1,xQ0 bC hHeld.2.2.2.2.1,xQ0 bC hHeld.2.2.2.2.2.1,xQ0 bC hHeld.2.2.2.2.2.2.1,xQ0 bC hHeld.2.2.2.2.2.2.2⟩:_∧_∧_∧_∧_∧_∧_∧_)
     clear bC
     go_wp2_with fail
     have bT:=bD.trans (b6.mono bD.size)
     refine hKK.out _ _ hHeld ?_
     clear hHeld
     intro hHeld
     clear hKK KK
     try simp only [pA]
     refine tk 8 (v:=?_) rfl (Or.inl ⟨by rfl,?_⟩) ?_
     rotate_left
     ·intro w9 hSw
      go_simp
      try with_reducible rfl
     simp only [pA]
     refine wpAnyH_done (by kernel_rfl) ?_ _
     replace hO:=xQ6 hO bT
     replace hR:=fun p hp=>(hR p hp).later bT
     replace hrow:=fun k hk=>(hO.lt k hk)
     have hbs:=hB.size
     clear bT bD b6 hO9 hR9 hHeld GB
     go_upto_region 4 with fail
     go_cut [11,12] from 35 to 45 (fun s11 s12 wx=>∃ wv c p q,wv=wx∧s11=.pointer (some ⟨c,0,none⟩)∧s12=.bool d∧Four wx c (.int .i64 x) (.bool (ng Z)) (.slice p (ln (am Z)) (ln (am Z))) (.slice q (ln V) (ln V))∧Below w6.heap.size w6 wx∧Seg wx p (am Z) (ln (am Z))∧Seg wx q V (ln V)∧Fresh w6 p (ln (am Z))∧Fresh w6 q (ln V))
     case first =>
      have k1:=eP.ent.ok.1.later hB
      have k2:=eP.ent.ok.2.2.2.1.later hB
      have k3:=eQ.ent.ok.1.later hB
      have k4:=eQ.ent.ok.2.2.2.1.later hB
      have bT:Below w6.heap.size w6 w6:=Below.refl _ _
      have bD:Below w6.heap.size w6 w6.drew:=(Below.refl _ _).drew
      have kc0:=xQ0 bD c0
      have kc1:=xQ0 bD c1
      have kc2:=xQ0 bD c2
      have kc3:=xQ0 bD c3
      have kd0:=xQ0 bD d0
      have kd1:=xQ0 bD d1
      have kd2:=xQ0 bD d2
      have kd3:=xQ0 bD d3
      replace bT:=bT.trans (bD.mono bT.size)
      replace k1:=k1.later bD
      replace k2:=k2.later bD
      replace k3:=k3.later bD
      replace k4:=k4.later bD
      refine wp_region_held_drew (S:=fun w'=>w'.cell? ⟨b1,o1,none⟩=some (.int .i64 x)∧w'.cell? ⟨b1,o1+1,none⟩=some (.bool P.s)∧w'.cell? ⟨b1,o1+1+1,none⟩=some (.slice P.a P.n P.c)∧w'.cell? ⟨b1,o1+1+2,none⟩=some (.slice P.b P.m P.e)∧w'.cell? ⟨b2,o2,none⟩=some (.int .i64 x)∧w'.cell? ⟨b2,o2+1,none⟩=some (.bool Q.s)∧w'.cell? ⟨b2,o2+1+1,none⟩=some (.slice Q.a Q.n Q.c)∧w'.cell? ⟨b2,o2+1+2,none⟩=some (.slice Q.b Q.m Q.e)) (by kernel_rfl) ⟨kc0,kc1,kc2,kc3,kd0,kd1,kd2,kd3⟩ (fun hHeld=>?_)
      clear kc0 kc1 kc2 kc3 kd0 kd1 kd2 kd3
      generalize w6.drew=w0 at bD k1 k2 k3 k4 bT hHeld ⊢
      have hw6:b1 < w6.heap.size:=by omega
      have hw7:b2 < w6.heap.size:=by omega
      clear bD
      refine tk 0 (v:=?_) rfl (Or.inl ⟨by rfl,?_⟩) ?_
      rotate_left
      ·intro w9 hSw
       go_simp
       try with_reducible rfl
      simp only [pA]
      refine tk 1 (v:=?_) rfl (Or.inl ⟨by rfl,?_⟩) ?_
      rotate_left
      ·intro w9 hSw
       go_simp
       try with_reducible rfl
      simp only [pA]
      refine tk 2 (v:=?_) rfl (Or.inl ⟨by rfl,?_⟩) ?_
      rotate_left
      ·intro w9 hSw
       go_simp
       try with_reducible rfl
      simp only [pA]
      refine tk 3 (v:=?_) rfl (Or.inl ⟨by rfl,?_⟩) ?_
      rotate_left
      ·intro w9 hSw
       go_simp
       try with_reducible rfl
      simp only [pA]
      refine tk 4 (v:=?_) rfl (Or.inl ⟨by rfl,?_⟩) ?_
      rotate_left
      ·intro w9 hSw
       go_simp
       try with_reducible rfl
      simp only [pA]
      refine tk 5 (v:=?_) rfl (Or.inl ⟨by rfl,?_⟩) ?_
      rotate_left
      ·intro w9 hSw
       go_simp
       try with_reducible rfl
      simp only [pA]
      refine tk 6 (v:=?_) rfl (Or.inl ⟨by rfl,?_⟩) ?_
      rotate_left
      ·intro w9 hSw
       go_simp
       try with_reducible rfl
      simp only [pA]
      refine wpAnyH_ready (rs:=[7,11]) (by kernel_rfl) (by simp) ?_
      refine consT rfl (fun KK hKK=>?_) ?_
      ·skip
       have hsA:=bT.size
       go_simp
       refine (GJ.out _ k1 k2 k3 k4).mono ?_
       rintro e w2 ⟨p,q,rfl,bC,g1,g2,f1,f2⟩
       replace f1:=f1.mono hsA
       replace f2:=f2.mono hsA
       clear hsA
       replace bT:=bT.trans (bC.mono bT.size)
       replace k1:=k1.later bC
       replace k2:=k2.later bC
       replace k3:=k3.later bC
       replace k4:=k4.later bC
       replace hHeld:=(⟨xQ0 bC hHeld.1,xQ0 bC hHeld.2.1,xQ0 bC hHeld.2.2.1,xQ0 bC hHeld.2.2.2.1,xQ0 bC hHeld.2.2.2.2.1,xQ0 bC hHeld.2.2.2.2.2.1,xQ0 bC hHeld.2.2.2.2.2.2.1,xQ0 bC hHeld.2.2.2.2.2.2.2⟩:_∧_∧_∧_∧_∧_∧_∧_)
       go_wp2_with fail
       refine hKK.out _ _ hHeld ?_
       clear hHeld
       intro hHeld
       clear hKK KK
       try simp only [pA]
       clear bC
       refine tk 8 (v:=?_) rfl (Or.inl ⟨by rfl,?_⟩) ?_
       rotate_left
       ·intro w9 hSw
        go_simp
        try with_reducible rfl
       simp only [pA]
       refine tk 9 (v:=?_) rfl (Or.inl ⟨by rfl,?_⟩) ?_
       rotate_left
       ·intro w9 hSw
        go_simp
        try with_reducible rfl
       simp only [pA]
       refine tk 10 (v:=?_) rfl (Or.inl ⟨by rfl,?_⟩) ?_
       rotate_left
       ·intro w9 hSw
        go_simp
        try with_reducible rfl
       simp only [pA]
       refine wpAnyH_ready (rs:=[11]) (by kernel_rfl) (by simp) ?_
       refine xX0 rfl (fun KK hKK=>?_)
       go_simp
       have vN:=four_new w2 (.int .i64 0) (.bool false) (.slice none 0 0) (.slice none 0 0) 57
       have bA:=xQ2 (w:=w2) (.cells #[.int .i64 0,.bool false,.slice none 0 0,.slice none 0 0] 57)
       have hc9:w6.heap.size≤w2.heap.size:=bT.size
       generalize w2.alloc (.cells #[.int .i64 0,.bool false,.slice none 0 0,.slice none 0 0] 57)=w3 at vN bA ⊢
       replace bT:=bT.trans (bA.mono bT.size)
       replace k1:=k1.later bA
       replace k2:=k2.later bA
       replace k3:=k3.later bA
       replace k4:=k4.later bA
       replace g1:=g1.later bA
       replace g2:=g2.later bA
       replace hHeld:=(⟨xQ0 bA hHeld.1,xQ0 bA hHeld.2.1,xQ0 bA hHeld.2.2.1,xQ0 bA hHeld.2.2.2.1,xQ0 bA hHeld.2.2.2.2.1,xQ0 bA hHeld.2.2.2.2.2.1,xQ0 bA hHeld.2.2.2.2.2.2.1,xQ0 bA hHeld.2.2.2.2.2.2.2⟩:_∧_∧_∧_∧_∧_∧_∧_)
       clear bA
       refine hKK.out _ _ hHeld ?_
       clear hHeld
       intro hHeld
       clear hKK KK
       try simp only [pA]
       obtain ⟨cc,hcc⟩:∃ cc,w2.heap.size=cc:=⟨_,rfl⟩
       rw [hcc] at vN hc9
       try rw [hcc]
       clear hcc
       refine wpAnyH_ready (rs:=[12]) (by kernel_rfl) (by simp) ?_
       refine xX0 rfl (fun KK hKK=>?_)
       have fz:=fun o=>vN.2.frozen o
       replace g1:=vN.seg (u0:=.int .i64 x) (u1:=.bool (ng Z)) (u2:=.slice p (ln (am Z)) (ln (am Z))) (u3:=.slice q (ln V) (ln V)) (by simp) (by simp) (by simp) (by simp) g1
       replace g2:=vN.seg (u0:=.int .i64 x) (u1:=.bool (ng Z)) (u2:=.slice p (ln (am Z)) (ln (am Z))) (u3:=.slice q (ln V) (ln V)) (by simp) (by simp) (by simp) (by simp) g2
       replace bT:=below_set4 (u0:=.int .i64 x) (u1:=.bool (ng Z)) (u2:=.slice p (ln (am Z)) (ln (am Z))) (u3:=.slice q (ln V) (ln V)) bT hc9
       have hH2:=(⟨(xX2 (w:=w3) (c:=cc) (b:=b1) (o:=o1) (u0:=.int .i64 x) (u1:=.bool (ng Z)) (u2:=.slice p (ln (am Z)) (ln (am Z))) (u3:=.slice q (ln V) (ln V)) (by omega)).trans hHeld.1,(xX2 (w:=w3) (c:=cc) (b:=b1) (o:=o1+1) (u0:=.int .i64 x) (u1:=.bool (ng Z)) (u2:=.slice p (ln (am Z)) (ln (am Z))) (u3:=.slice q (ln V) (ln V)) (by omega)).trans hHeld.2.1,(xX2 (w:=w3) (c:=cc) (b:=b1) (o:=o1+1+1) (u0:=.int .i64 x) (u1:=.bool (ng Z)) (u2:=.slice p (ln (am Z)) (ln (am Z))) (u3:=.slice q (ln V) (ln V)) (by omega)).trans hHeld.2.2.1,(xX2 (w:=w3) (c:=cc) (b:=b1) (o:=o1+1+2) (u0:=.int .i64 x) (u1:=.bool (ng Z)) (u2:=.slice p (ln (am Z)) (ln (am Z))) (u3:=.slice q (ln V) (ln V)) (by omega)).trans hHeld.2.2.2.1,(xX2 (w:=w3) (c:=cc) (b:=b2) (o:=o2) (u0:=.int .i64 x) (u1:=.bool (ng Z)) (u2:=.slice p (ln (am Z)) (ln (am Z))) (u3:=.slice q (ln V) (ln V)) (by omega)).trans hHeld.2.2.2.2.1,(xX2 (w:=w3) (c:=cc) (b:=b2) (o:=o2+1) (u0:=.int .i64 x) (u1:=.bool (ng Z)) (u2:=.slice p (ln (am Z)) (ln (am Z))) (u3:=.slice q (ln V) (ln V)) (by omega)).trans hHeld.2.2.2.2.2.1,(xX2 (w:=w3) (c:=cc) (b:=b2) (o:=o2+1+1) (u0:=.int .i64 x) (u1:=.bool (ng Z)) (u2:=.slice p (ln (am Z)) (ln (am Z))) (u3:=.slice q (ln V) (ln V)) (by omega)).trans hHeld.2.2.2.2.2.2.1,(xX2 (w:=w3) (c:=cc) (b:=b2) (o:=o2+1+2) (u0:=.int .i64 x) (u1:=.bool (ng Z)) (u2:=.slice p (ln (am Z)) (ln (am Z))) (u3:=.slice q (ln V) (ln V)) (by omega)).trans hHeld.2.2.2.2.2.2.2⟩:_∧_∧_∧_∧_∧_∧_∧_)
       have vN2:=vN.put (u0:=.int .i64 x) (u1:=.bool (ng Z)) (u2:=.slice p (ln (am Z)) (ln (am Z))) (u3:=.slice q (ln V) (ln V))
       have z0:=vN.1.1
       have z1:=vN.1.2.1
       have z2:=vN.1.2.2.1
       have z3:=vN.1.2.2.2
       go_simp
       clear z0 z1 z2 z3 vN fz
       refine hKK.out _ _ hH2 ?_
       clear hHeld
       intro hHeld
       clear hKK KK
       try simp only [pA]
       clear hH2
       refine tk 13 (v:=?_) rfl (Or.inl ⟨by rfl,?_⟩) ?_
       rotate_left
       ·intro w9 hSw
        go_simp
        try with_reducible rfl
       simp only [pA]
       refine wpAnyH_done (by kernel_rfl) ?_ _
       go_wp2_with fail
       go_meet
       exact ⟨_,cc,p,q,rfl,rfl,rfl,vN2,bT,g1,g2,f1,f2⟩
      refine consT rfl (fun KK hKK=>?_) ?_
      ·skip
       go_simp
       have vN:=four_new w0 (.int .i64 0) (.bool false) (.slice none 0 0) (.slice none 0 0) 57
       have bA:=xQ2 (w:=w0) (.cells #[.int .i64 0,.bool false,.slice none 0 0,.slice none 0 0] 57)
       have hc9:w6.heap.size≤w0.heap.size:=bT.size
       generalize w0.alloc (.cells #[.int .i64 0,.bool false,.slice none 0 0,.slice none 0 0] 57)=w3 at vN bA ⊢
       replace bT:=bT.trans (bA.mono bT.size)
       replace k1:=k1.later bA
       replace k2:=k2.later bA
       replace k3:=k3.later bA
       replace k4:=k4.later bA
       replace hHeld:=(⟨xQ0 bA hHeld.1,xQ0 bA hHeld.2.1,xQ0 bA hHeld.2.2.1,xQ0 bA hHeld.2.2.2.1,xQ0 bA hHeld.2.2.2.2.1,xQ0 bA hHeld.2.2.2.2.2.1,xQ0 bA hHeld.2.2.2.2.2.2.1,xQ0 bA hHeld.2.2.2.2.2.2.2⟩:_∧_∧_∧_∧_∧_∧_∧_)
       clear bA
       refine hKK.out _ _ hHeld ?_
       clear hHeld
       intro hHeld
       clear hKK KK
       try simp only [pA]
       obtain ⟨cc,hcc⟩:∃ cc,w0.heap.size=cc:=⟨_,rfl⟩
       rw [hcc] at vN hc9
       try rw [hcc]
       clear hcc
       refine wpAnyH_ready (rs:=[7]) (by kernel_rfl) (by simp) ?_
       refine xX0 rfl (fun KK hKK=>?_)
       have hsA:=bT.size
       go_simp
       refine (GJ.out _ k1 k2 k3 k4).mono ?_
       rintro e w2 ⟨p,q,rfl,bC,g1,g2,f1,f2⟩
       replace f1:=f1.mono hsA
       replace f2:=f2.mono hsA
       clear hsA
       replace bT:=bT.trans (bC.mono bT.size)
       replace k1:=k1.later bC
       replace k2:=k2.later bC
       replace k3:=k3.later bC
       replace k4:=k4.later bC
       replace vN:=vN.later bC
       replace hHeld:=(⟨xQ0 bC hHeld.1,xQ0 bC hHeld.2.1,xQ0 bC hHeld.2.2.1,xQ0 bC hHeld.2.2.2.1,xQ0 bC hHeld.2.2.2.2.1,xQ0 bC hHeld.2.2.2.2.2.1,xQ0 bC hHeld.2.2.2.2.2.2.1,xQ0 bC hHeld.2.2.2.2.2.2.2⟩:_∧_∧_∧_∧_∧_∧_∧_)
       go_wp2_with fail
       refine hKK.out _ _ hHeld ?_
       clear hHeld
       intro hHeld
       clear hKK KK
       try simp only [pA]
       clear bC
       refine tk 8 (v:=?_) rfl (Or.inl ⟨by rfl,?_⟩) ?_
       rotate_left
       ·intro w9 hSw
        go_simp
        try with_reducible rfl
       simp only [pA]
       refine tk 9 (v:=?_) rfl (Or.inl ⟨by rfl,?_⟩) ?_
       rotate_left
       ·intro w9 hSw
        go_simp
        try with_reducible rfl
       simp only [pA]
       refine tk 10 (v:=?_) rfl (Or.inl ⟨by rfl,?_⟩) ?_
       rotate_left
       ·intro w9 hSw
        go_simp
        try with_reducible rfl
       simp only [pA]
       refine wpAnyH_ready (rs:=[12]) (by kernel_rfl) (by simp) ?_
       refine xX0 rfl (fun KK hKK=>?_)
       have fz:=fun o=>vN.2.frozen o
       replace g1:=vN.seg (u0:=.int .i64 x) (u1:=.bool (ng Z)) (u2:=.slice p (ln (am Z)) (ln (am Z))) (u3:=.slice q (ln V) (ln V)) (by simp) (by simp) (by simp) (by simp) g1
       replace g2:=vN.seg (u0:=.int .i64 x) (u1:=.bool (ng Z)) (u2:=.slice p (ln (am Z)) (ln (am Z))) (u3:=.slice q (ln V) (ln V)) (by simp) (by simp) (by simp) (by simp) g2
       replace bT:=below_set4 (u0:=.int .i64 x) (u1:=.bool (ng Z)) (u2:=.slice p (ln (am Z)) (ln (am Z))) (u3:=.slice q (ln V) (ln V)) bT hc9
       have hH2:=(⟨(xX2 (w:=w2) (c:=cc) (b:=b1) (o:=o1) (u0:=.int .i64 x) (u1:=.bool (ng Z)) (u2:=.slice p (ln (am Z)) (ln (am Z))) (u3:=.slice q (ln V) (ln V)) (by omega)).trans hHeld.1,(xX2 (w:=w2) (c:=cc) (b:=b1) (o:=o1+1) (u0:=.int .i64 x) (u1:=.bool (ng Z)) (u2:=.slice p (ln (am Z)) (ln (am Z))) (u3:=.slice q (ln V) (ln V)) (by omega)).trans hHeld.2.1,(xX2 (w:=w2) (c:=cc) (b:=b1) (o:=o1+1+1) (u0:=.int .i64 x) (u1:=.bool (ng Z)) (u2:=.slice p (ln (am Z)) (ln (am Z))) (u3:=.slice q (ln V) (ln V)) (by omega)).trans hHeld.2.2.1,(xX2 (w:=w2) (c:=cc) (b:=b1) (o:=o1+1+2) (u0:=.int .i64 x) (u1:=.bool (ng Z)) (u2:=.slice p (ln (am Z)) (ln (am Z))) (u3:=.slice q (ln V) (ln V)) (by omega)).trans hHeld.2.2.2.1,(xX2 (w:=w2) (c:=cc) (b:=b2) (o:=o2) (u0:=.int .i64 x) (u1:=.bool (ng Z)) (u2:=.slice p (ln (am Z)) (ln (am Z))) (u3:=.slice q (ln V) (ln V)) (by omega)).trans hHeld.2.2.2.2.1,(xX2 (w:=w2) (c:=cc) (b:=b2) (o:=o2+1) (u0:=.int .i64 x) (u1:=.bool (ng Z)) (u2:=.slice p (ln (am Z)) (ln (am Z))) (u3:=.slice q (ln V) (ln V)) (by omega)).trans hHeld.2.2.2.2.2.1,(xX2 (w:=w2) (c:=cc) (b:=b2) (o:=o2+1+1) (u0:=.int .i64 x) (u1:=.bool (ng Z)) (u2:=.slice p (ln (am Z)) (ln (am Z))) (u3:=.slice q (ln V) (ln V)) (by omega)).trans hHeld.2.2.2.2.2.2.1,(xX2 (w:=w2) (c:=cc) (b:=b2) (o:=o2+1+2) (u0:=.int .i64 x) (u1:=.bool (ng Z)) (u2:=.slice p (ln (am Z)) (ln (am Z))) (u3:=.slice q (ln V) (ln V)) (by omega)).trans hHeld.2.2.2.2.2.2.2⟩:_∧_∧_∧_∧_∧_∧_∧_)
       have vN2:=vN.put (u0:=.int .i64 x) (u1:=.bool (ng Z)) (u2:=.slice p (ln (am Z)) (ln (am Z))) (u3:=.slice q (ln V) (ln V))
       have z0:=vN.1.1
       have z1:=vN.1.2.1
       have z2:=vN.1.2.2.1
       have z3:=vN.1.2.2.2
       go_simp
       clear z0 z1 z2 z3 vN fz
       refine hKK.out _ _ hH2 ?_
       clear hHeld
       intro hHeld
       clear hKK KK
       try simp only [pA]
       clear hH2
       refine tk 13 (v:=?_) rfl (Or.inl ⟨by rfl,?_⟩) ?_
       rotate_left
       ·intro w9 hSw
        go_simp
        try with_reducible rfl
       simp only [pA]
       refine wpAnyH_done (by kernel_rfl) ?_ _
       go_wp2_with fail
       go_meet
       exact ⟨_,cc,p,q,rfl,rfl,rfl,vN2,bT,g1,g2,f1,f2⟩
      exact AllReadyH.nil
     case rest =>
      clear GJ c0 c1 c2 c3 d0 d1 d2 d3 hbs
      obtain ⟨wv,c,p,q,hwv,rfl,rfl,⟨⟨v0,v1,v2,v3⟩,vR⟩,bT,g1,g2,f1,f2⟩:=hcut
      subst hwv
      replace hO:=xQ6 hO bT
      replace hR:=fun p hp=>(hR p hp).later bT
      have hB6:=hB.size
      replace hB:=hB.trans (bT.mono hB.size)
      have hsz6:=bT.size
      have hrow6:=hrow
      have hbs:=hB.size
      replace hrow:=fun k hk=>(hO.lt k hk)
      have gN:Grw u9 wv (x,RatV.of Z V p q):=⟨⟨g1,Nat.le_refl _,lZ1,g2,Nat.le_refl _,lZ2⟩,RatV.of_low HL.out.pos HL.out.cop,fun b e=>⟨fun hn ad e2 h=>by have h1:=f1 hn ad e2;have h2:=(hrow6 b e).2;omega,fun hn ad e2 h=>by have h1:=f2 hn ad e2;have h2:=(hrow6 b e).2;omega⟩⟩
      have vN:(RatV.of Z V p q).val=P.val+Q.val:=by rw [←HZ.out.1,←HZ.out.2];exact val_ofR _ _ _
      clear g1 g2 f1 f2 hrow6 vR
      rcases hd2 with ⟨rfl,hne⟩ | ⟨rfl,he⟩
      ·have hbl:(R.length+1)*64≤140737488355328:=by omega
       have hwl:∀ W:World,True:=fun _=>trivial
       obtain ⟨wB,hwB⟩:∃ wB,wv.alloc (.cells #[.int .i64 x,.bool (ng Z),.slice p (ln (am Z)) (ln (am Z)),.slice q (ln V) (ln V)] 57)=wB:=⟨_,rfl⟩
       have hnew:=heap_alloc_new wv (.cells #[.int .i64 x,.bool (ng Z),.slice p (ln (am Z)) (ln (am Z)),.slice q (ln V) (ln V)] 57)
       have b3:=xQ2 (w:=wv) (.cells #[.int .i64 x,.bool (ng Z),.slice p (ln (am Z)) (ln (am Z)),.slice q (ln V) (ln V)] 57)
       rw [hwB] at hnew b3
       have hO3:=xQ6 hO b3
       have s3:=b3.size
       have hbB:w.heap.size≤wB.heap.size:=by omega
       go_wp2_with (at_builtin;(try rw [hwB]);refine wpList_append_lies _ (by rfl) _ _ _ (by rfl) w.heap.size 57 i0 _ 4 64 Tryz.underlying25 hi0 hz0 hz1 hz2 rfl (by omega) u9 R.length (xZ0 R) (by rfl) hO3 ⟨wv.heap.size,0,none⟩ 1 1 (cells4 (x,RatV.of Z V p q)) (by rfl) (by rfl) (World.news_of_block (cs:=#[.int .i64 x,.bool (ng Z),.slice p (ln (am Z)) (ln (am Z)),.slice q (ln V) (ln V)]) (t:=57) (fr:=(0,0)) hnew) (cells4_one _) (by omega) (by simp only [maxLen];omega) hbl hbB wB.heap.size rfl ?_)
       intro gb cap w9 hown4 hgrow hat hlt4
       have hB3:=hB.trans (b3.mono hB.size)
       have I1:=xQ1 (And.intro (own_push hown4) (And.intro (hB3.trans (xQ8 hB3.size (fun k hk=>(hrow k hk).1) hgrow)) (grw_push (fun q hq=>(hR q hq).later b3) (gN.later b3) (j:=R.length+1) (cap:=cap) hgrow hat)))
       clear hown4 hgrow hat hwB hnew b3 hO3 hB3
       go_wp2_with fail
       have bD:Below w9.heap.size w9 w9.drew:=(Below.refl _ _).drew
       refine wp_region_held_drew (S:=fun w'=>True) (by kernel_rfl) trivial (fun hHeld=>?_)
       generalize w9.drew=w0 at bD hHeld ⊢
       refine tk 0 (v:=?_) rfl (Or.inl ⟨by rfl,?_⟩) ?_
       rotate_left
       ·intro w9 hSw
        go_simp
        try with_reducible rfl
       simp only [pA]
       refine tk 1 (v:=?_) rfl (Or.inl ⟨by rfl,?_⟩) ?_
       rotate_left
       ·intro w9 hSw
        go_simp
        try with_reducible rfl
       simp only [pA]
       refine tk 2 (v:=?_) rfl (Or.inl ⟨by rfl,?_⟩) ?_
       rotate_left
       ·intro w9 hSw
        go_simp
        try with_reducible rfl
       simp only [pA]
       refine tk 3 (v:=?_) rfl (Or.inl ⟨by rfl,?_⟩) ?_
       rotate_left
       ·intro w9 hSw
        go_simp
        try with_reducible rfl
       simp only [pA]
       refine tk 4 (v:=?_) rfl (Or.inl ⟨by rfl,?_⟩) ?_
       rotate_left
       ·intro w9 hSw
        go_simp
        try with_reducible rfl
       simp only [pA]
       refine tk 5 (v:=?_) rfl (Or.inl ⟨by rfl,?_⟩) ?_
       rotate_left
       ·intro w9 hSw
        go_simp
        try with_reducible rfl
       simp only [pA]
       refine wpAnyH_done (by kernel_rfl) ?_ _
       go_wp2
       go_roundw
       case rel=>exact ⟨a1,ca - 1,L9,a2,cb - 1,M9,R ++ [(x,RatV.of Z V p q)],rfl,rfl,tL,tM,eL,eM,xQ6 I1.out.1 bD,I1.out.2.1.trans (bD.mono I1.out.2.1.size),(fun p hp=>(I1.out.2.2 p hp).later bD),by rw [←hT,fo_cons,fo_cons,mrg_eq rfl,if_neg hne,xZ1,List.append_assoc,←vN];rfl,by have:=HN.out;simp only [List.length_append,List.length_cons,List.length_nil] at hlen ⊢;omega⟩
       case measure=>have:=HN.out;simp only [slen];omega
      ·go_wp2_with fail
       have bD:Below wv.heap.size wv wv.drew:=(Below.refl _ _).drew
       refine wp_region_held_drew (S:=fun w'=>True) (by kernel_rfl) trivial (fun hHeld=>?_)
       generalize wv.drew=w0 at bD hHeld ⊢
       refine tk 0 (v:=?_) rfl (Or.inl ⟨by rfl,?_⟩) ?_
       rotate_left
       ·intro w9 hSw
        go_simp
        try with_reducible rfl
       simp only [pA]
       refine tk 1 (v:=?_) rfl (Or.inl ⟨by rfl,?_⟩) ?_
       rotate_left
       ·intro w9 hSw
        go_simp
        try with_reducible rfl
       simp only [pA]
       refine tk 2 (v:=?_) rfl (Or.inl ⟨by rfl,?_⟩) ?_
       rotate_left
       ·intro w9 hSw
        go_simp
        try with_reducible rfl
       simp only [pA]
       refine tk 3 (v:=?_) rfl (Or.inl ⟨by rfl,?_⟩) ?_
       rotate_left
       ·intro w9 hSw
        go_simp
        try with_reducible rfl
       simp only [pA]
       refine tk 4 (v:=?_) rfl (Or.inl ⟨by rfl,?_⟩) ?_
       rotate_left
       ·intro w9 hSw
        go_simp
        try with_reducible rfl
       simp only [pA]
       refine tk 5 (v:=?_) rfl (Or.inl ⟨by rfl,?_⟩) ?_
       rotate_left
       ·intro w9 hSw
        go_simp
        try with_reducible rfl
       simp only [pA]
       refine wpAnyH_done (by kernel_rfl) ?_ _
       go_wp2
       go_roundw
       case rel=>exact ⟨a1,ca - 1,L9,a2,cb - 1,M9,R,rfl,rfl,tL,tM,eL,eM,xQ6 hO bD,hB.trans (bD.mono hB.size),(fun p hp=>(hR p hp).later bD),by rw [←hT,fo_cons,fo_cons,mrg_eq rfl,if_pos he],by have:=HN.out;simp only [List.length_append,List.length_cons,List.length_nil] at hlen ⊢;omega⟩
       case measure=>have:=HN.out;simp only [slen];omega
    ·have ho:ord x y=1:=by unfold ord;rw [if_neg (by omega),if_pos hxy]
     rw [ho] at GB'
     clear ho
     have GB:=xQ1 GB'
     clear GB'
     go_wp2_with fail
     clear hbs
     have hO9:=hO
     have hR9:=hR
     have bD:Below wr.heap.size wr wr.drew:=(Below.refl _ _).drew
     have kc0:=xQ0 bD c0
     have kc1:=xQ0 bD c1
     have kc2:=xQ0 bD c2
     have kc3:=xQ0 bD c3
     have kd0:=xQ0 bD d0
     have kd1:=xQ0 bD d1
     have kd2:=xQ0 bD d2
     have kd3:=xQ0 bD d3
     replace hB:=hB.trans (bD.mono hB.size)
     replace c0:=xQ0 bD c0
     replace c1:=xQ0 bD c1
     replace c2:=xQ0 bD c2
     replace c3:=xQ0 bD c3
     replace d0:=xQ0 bD d0
     replace d1:=xQ0 bD d1
     replace d2:=xQ0 bD d2
     replace d3:=xQ0 bD d3
     refine wp_region_held_drew (S:=fun w'=>w'.cell? ⟨b1,o1,none⟩=some (.int .i64 x)∧w'.cell? ⟨b1,o1+1,none⟩=some (.bool P.s)∧w'.cell? ⟨b1,o1+1+1,none⟩=some (.slice P.a P.n P.c)∧w'.cell? ⟨b1,o1+1+2,none⟩=some (.slice P.b P.m P.e)∧w'.cell? ⟨b2,o2,none⟩=some (.int .i64 y)∧w'.cell? ⟨b2,o2+1,none⟩=some (.bool Q.s)∧w'.cell? ⟨b2,o2+1+1,none⟩=some (.slice Q.a Q.n Q.c)∧w'.cell? ⟨b2,o2+1+2,none⟩=some (.slice Q.b Q.m Q.e)) (by kernel_rfl) ⟨kc0,kc1,kc2,kc3,kd0,kd1,kd2,kd3⟩ (fun hHeld=>?_)
     clear kc0 kc1 kc2 kc3 kd0 kd1 kd2 kd3
     generalize wr.drew=w0 at bD c0 c1 c2 c3 d0 d1 d2 d3 hB hHeld ⊢
     refine tk 0 (v:=?_) rfl (Or.inl ⟨by rfl,?_⟩) ?_
     rotate_left
     ·intro w9 hSw
      go_simp
      try with_reducible rfl
     simp only [pA]
     refine tk 1 (v:=?_) rfl (Or.inl ⟨by rfl,?_⟩) ?_
     rotate_left
     ·intro w9 hSw
      go_simp
      try with_reducible rfl
     simp only [pA]
     refine tk 2 (v:=?_) rfl (Or.inl ⟨by rfl,?_⟩) ?_
     rotate_left
     ·intro w9 hSw
      go_simp
      try with_reducible rfl
     simp only [pA]
     refine tk 3 (v:=?_) rfl (Or.inl ⟨by rfl,?_⟩) ?_
     rotate_left
     ·intro w9 hSw
      go_simp
      try with_reducible rfl
     simp only [pA]
     refine tk 4 (v:=?_) rfl (Or.inl ⟨by rfl,?_⟩) ?_
     rotate_left
     ·intro w9 hSw
      go_simp
      try with_reducible rfl
     simp only [pA]
     refine tk 5 (v:=?_) rfl (Or.inl ⟨by rfl,?_⟩) ?_
     rotate_left
     ·intro w9 hSw
      go_simp
      try with_reducible rfl
     simp only [pA]
     refine tk 6 (v:=?_) rfl (Or.inl ⟨by rfl,?_⟩) ?_
     rotate_left
     ·intro w9 hSw
      go_simp
      try with_reducible rfl
     simp only [pA]
     refine wpAnyH_ready (rs:=[7]) (by kernel_rfl) (by simp) ?_
     refine xX0 rfl (fun KK hKK=>?_)
     go_simp
     refine (GB.out _).mono ?_
     rintro e w6 ⟨rfl,b6⟩
     have bC:=b6
     replace hB:=hB.trans (bC.mono hB.size)
     replace c0:=xQ0 bC c0
     replace c1:=xQ0 bC c1
     replace c2:=xQ0 bC c2
     replace c3:=xQ0 bC c3
     replace d0:=xQ0 bC d0
     replace d1:=xQ0 bC d1
     replace d2:=xQ0 bC d2
     replace d3:=xQ0 bC d3
     replace hHeld:=(⟨xQ0 bC hHeld.1,xQ0 bC hHeld.2.1,xQ0 bC hHeld.2.2.1,xQ0 bC hHeld.2.2.2.1,xQ0 bC hHeld.2.2.2.2.1,xQ0 bC hHeld.2.2.2.2.2.1,xQ0 bC hHeld.2.2.2.2.2.2.1,xQ0 bC hHeld.2.2.2.2.2.2.2⟩:_∧_∧_∧_∧_∧_∧_∧_)
     clear bC
     go_wp2_with fail
     have bT:=bD.trans (b6.mono bD.size)
     refine hKK.out _ _ hHeld ?_
     clear hHeld
     intro hHeld
     clear hKK KK
     try simp only [pA]
     refine tk 8 (v:=?_) rfl (Or.inl ⟨by rfl,?_⟩) ?_
     rotate_left
     ·intro w9 hSw
      go_simp
      try with_reducible rfl
     simp only [pA]
     refine wpAnyH_done (by kernel_rfl) ?_ _
     replace hO:=xQ6 hO bT
     replace hR:=fun p hp=>(hR p hp).later bT
     replace hrow:=fun k hk=>(hO.lt k hk)
     have hbs:=hB.size
     clear bT bD b6 hO9 hR9 hHeld GB
     go_wp2_with fail
     have bD:Below w6.heap.size w6 w6.drew:=(Below.refl _ _).drew
     have kd0:=xQ0 bD d0
     have kd1:=xQ0 bD d1
     have kd2:=xQ0 bD d2
     have kd3:=xQ0 bD d3
     replace hB:=hB.trans (bD.mono hB.size)
     refine wp_region_held_drew (S:=fun w'=>w'.cell? ⟨b2,o2,none⟩=some (.int .i64 y)∧w'.cell? ⟨b2,o2+1,none⟩=some (.bool Q.s)∧w'.cell? ⟨b2,o2+1+1,none⟩=some (.slice Q.a Q.n Q.c)∧w'.cell? ⟨b2,o2+1+2,none⟩=some (.slice Q.b Q.m Q.e)) (by kernel_rfl) ⟨kd0,kd1,kd2,kd3⟩ (fun hHeld=>?_)
     clear kd0 kd1 kd2 kd3
     generalize w6.drew=w7 at bD hB hHeld ⊢
     refine tk 0 (v:=?_) rfl (Or.inl ⟨by rfl,?_⟩) ?_
     rotate_left
     ·intro w9 hSw
      go_simp
      try with_reducible rfl
     simp only [pA]
     refine tk 1 (v:=?_) rfl (Or.inl ⟨by rfl,?_⟩) ?_
     rotate_left
     ·intro w9 hSw
      go_simp
      try with_reducible rfl
     simp only [pA]
     refine tk 2 (v:=?_) rfl (Or.inl ⟨by rfl,?_⟩) ?_
     rotate_left
     ·intro w9 hSw
      go_simp
      try with_reducible rfl
     simp only [pA]
     refine tk 3 (v:=?_) rfl (Or.inl ⟨by rfl,?_⟩) ?_
     rotate_left
     ·intro w9 hSw
      go_simp
      try with_reducible rfl
     simp only [pA]
     refine tk 6 (v:=?_) rfl (Or.inl ⟨by rfl,?_⟩) ?_
     rotate_left
     ·intro w9 hSw
      go_simp
      try with_reducible rfl
     simp only [pA]
     refine tk 7 (v:=?_) rfl (Or.inl ⟨by rfl,?_⟩) ?_
     rotate_left
     ·intro w9 hSw
      go_simp
      try with_reducible rfl
     simp only [pA]
     refine wpAnyH_ready (rs:=[4]) (by kernel_rfl) (by simp) ?_
     refine xX0 rfl (fun KK hKK=>?_)
     go_simp
     have hnew:=heap_alloc_new w7 (.cells #[.int .i64 y,.bool Q.s,.slice Q.a Q.n Q.c,.slice Q.b Q.m Q.e] 57)
     have b3:=xQ2 (w:=w7) (.cells #[.int .i64 y,.bool Q.s,.slice Q.a Q.n Q.c,.slice Q.b Q.m Q.e] 57)
     generalize hw8:w7.alloc (.cells #[.int .i64 y,.bool Q.s,.slice Q.a Q.n Q.c,.slice Q.b Q.m Q.e] 57)=w8 at hnew b3 ⊢
     clear hw8
     replace hB:=hB.trans (b3.mono hB.size)
     replace hHeld:=(⟨xQ0 b3 hHeld.1,xQ0 b3 hHeld.2.1,xQ0 b3 hHeld.2.2.1,xQ0 b3 hHeld.2.2.2⟩:_∧_∧_∧_)
     refine hKK.out _ _ hHeld ?_
     clear hHeld
     intro hHeld
     clear hKK KK
     try simp only [pA]
     have bT:=bD.trans (b3.mono bD.size)
     have hO3:=xQ6 hO bT
     have s3:=b3.size
     have s4:=bD.size
     have s5:=hB.size
     refine wpAnyH_ready (rs:=[5]) (by kernel_rfl) (by simp) ?_
     refine xX0 rfl (fun KK hKK=>?_)
     refine step_append_lies _ (by rfl) _ _ _ (by rfl) w.heap.size 57 i0 _ 4 64 Tryz.underlying25 hi0 hz0 hz1 hz2 rfl (by omega) u9 R.length (xZ0 R) (by rfl) hO3
      ⟨w7.heap.size,0,none⟩ 1 1 (cells4 (y,Q)) (by rfl) (by rfl) (World.news_of_block (cs:=#[.int .i64 y,.bool Q.s,.slice Q.a Q.n Q.c,.slice Q.b Q.m Q.e]) (t:=57) (fr:=(0,0)) hnew) (cells4_one _)
      (by omega) (by simp only [maxLen];omega) (by omega) (by omega) w8.heap.size rfl ?_
     intro gb cap w9 hown4 hgrow hat hlt4
     have far:∀ {o:Nat} {u:Value},w8.cell? ⟨b2,o,none⟩=some u→w9.cell? ⟨b2,o,none⟩=some u:=fun hu=>hgrow.cell hu (fun e=>by have:=hrow _ e.symm;simp only at this;omega)
     refine hKK.out _ _ ⟨far hHeld.1,far hHeld.2.1,far hHeld.2.2.1,far hHeld.2.2.2⟩ ?_
     clear hHeld
     intro hHeld
     clear hKK KK
     try simp only [pA]
     have I1:=xQ1 (And.intro (own_push hown4) (And.intro (hB.trans (xQ8 hB.size (fun k hk=>(hrow k hk).1) hgrow)) (grw_push (fun q hq=>(hR q hq).later bT) (eQ.ent.grw hB (fun b e=>(hrow b e).1)) (j:=R.length+1) (cap:=cap) hgrow hat)))
     clear hown4 hgrow hat far
     refine tk 8 (v:=?_) rfl (Or.inl ⟨by rfl,?_⟩) ?_
     rotate_left
     ·intro w9 hSw
      go_simp
      try with_reducible rfl
     simp only [pA]
     refine tk 9 (v:=?_) rfl (Or.inl ⟨by rfl,?_⟩) ?_
     rotate_left
     ·intro w9 hSw
      go_simp
      try with_reducible rfl
     simp only [pA]
     refine wpAnyH_done (by kernel_rfl) ?_ _
     go_wp2
     go_roundw
     case rel=>exact ⟨_,ca,(x,P) :: L9,a2,cb - 1,M9,R ++ [(y,Q)],by rw [hn],rfl,sa,tM,by intro p hp;rcases List.mem_cons.1 hp with rfl | hp;exact eP;exact eL p hp,eM,I1.out.1,I1.out.2.1,I1.out.2.2,by rw [←hT,fo_cons,fo_cons,mrg_gt hxy,xZ1,List.append_assoc];rfl,by have:=HN.out.1;rw [List.length_append];simp only [List.length_cons,List.length_nil] at hlen ⊢;omega⟩
     case measure=>have:=HN.out.2;simp only [slen];omega
def nfm:Fo→Fo
 | []=>[]
 | p :: l=>mrg (if p.2=0 then [] else [p]) (nfm l)
theorem nfm_nrm:∀ (l:Fo),nrm (nfm l)
 | []=>nrm.nil
 | p :: l=>by
  simp only [nfm]
  refine nrm_mrg _ _ ?_ (nfm_nrm l)
  split
  ·exact nrm.nil
  ·rename_i h
   exact nrm.nil.cons (fun q hq=>absurd hq (by simp)) h
theorem nfm_co (x:Int):∀ (l:Fo),co x (nfm l)=co x l
 | []=>rfl
 | p :: l=>by
  simp only [nfm]
  rw [co_mrg,nfm_co x l]
  simp only [co]
  split
  ·rename_i h
   simp only [co,h]
   split <;> rfl
  ·simp only [co]
   rw [Rat.add_zero]
theorem nfm_uniq {l m:Fo} (h:nrm m) (hc:∀ x,co x m=co x l):m=nfm l:=h.uniq (nfm_nrm l) fun x=>by rw [hc,nfm_co]
theorem nfm_append (l m:Fo):mrg (nfm l) (nfm m)=nfm (l ++ m):=nfm_uniq (nrm_mrg _ _ (nfm_nrm l) (nfm_nrm m)) fun x=>by rw [co_mrg,nfm_co,nfm_co,co_append]
theorem nfm_self {l:Fo} (h:nrm l):l=nfm l:=nfm_uniq h fun _=>rfl
theorem nfm_single {p:Int × Rat} (h:¬ nrm [p]):nfm [p]=[]:=by
 have h0:p.2=0:=by
  by_cases e:p.2=0
  ·exact e
  ·exact absurd (nrm.nil.cons (fun q hq=>absurd hq (by simp)) e) h
 simp only [nfm]
 rw [if_pos h0,mrg]
theorem mrg_length:∀ (l m:Fo),(mrg l m).length≤l.length+m.length
 | [],m=>by rw [mrg];simp
 | p :: l,[]=>by rw [mrg];simp
 | p :: l,q :: m=>by
  rw [mrg]
  split
  ·have:=mrg_length l (q :: m)
   simp only [List.length_cons] at *;omega
  ·split
   ·have:=mrg_length (p :: l) m
    simp only [List.length_cons] at *;omega
   ·have:=mrg_length l m
    split <;> (simp only [List.length_cons] at *;omega)
termination_by l m=>l.length+m.length
theorem xJ0:∀ (l:Fo),(nfm l).length≤l.length
 | []=>Nat.le_refl _
 | p :: l=>by
  have h1:=xJ0 l
  have h2:=mrg_length (if p.2=0 then [] else [p]) (nfm l)
  simp only [nfm,List.length_cons]
  have h3:(if p.2=0 then [] else [p]:Fo).length≤1:=by split <;> simp
  omega
theorem low_ns {q:RatV} (h:q.low):q.n=ln (am q.val.num)∧q.m=ln q.val.den:=by
 have e:=low_val h
 exact ⟨congrArg RatV.n e,congrArg RatV.m e⟩
theorem entS_of {w:World} {R:List Mo} {l:Fo} {N:Nat} (hE:∀ p∈R,Ent w p) (hR:fo R=nfm l) (hN:wts l+1≤N) (hN2:N≤1099511627776):∀ p∈R,EntS w p:=by
 intro p hp
 have h1:(p.1,p.2.val)∈fo R:=List.mem_map.2 ⟨p,hp,rfl⟩
 have h2:co p.1 (fo R)=p.2.val:=(show nrm (fo R) by rw [hR];exact nfm_nrm l).co_mem h1
 rw [hR,nfm_co] at h2
 have h3:=co_sz p.1 l
 rw [h2] at h3
 obtain ⟨e1,e2⟩:=low_ns (hE p hp).low
 exact ⟨hE p hp,by rw [e1];have:=h3.1;omega,by rw [e2];have:=h3.2;omega⟩
set_option maxHeartbeats 1000000 in
set_option maxRecDepth 30000 in
theorem lsum_new (a:Option Addr) (ca:Nat) (L:List Mo) (b:Option Addr) (cb:Nat) (M:List Mo) (w:World) (sa:Sl w a ca L) (sb:Sl w b cb M) (ea:∀ p∈L,EntS w p) (eb:∀ p∈M,EntS w p) (hK:L.length+M.length≤2097152) :
  Calls Tryz.prog 74 #[.slice a L.length ca,.slice b M.length cb] w (FNew w w.heap.size (mrg (fo L) (fo M))):=by
 have G:=xQ1 (merge_new a ca L b cb M w sa sb ea eb hK)
 clear sa sb ea eb hK
 go_enter Tryz.func74,Tryz.ntmps74
 go_wp2_with fail
 refine G.out.mono ?_
 rintro e w1 ⟨a1,c1,R,rfl,h⟩
 go_wp2
 go_ret
 exact ⟨a1,c1,R,rfl,h⟩
theorem lsum_is (a:Option Addr) (ca:Nat) (L:List Mo) (b:Option Addr) (cb:Nat) (M:List Mo) (w:World) (sa:Sl w a ca L) (sb:Sl w b cb M) (ea:∀ p∈L,EntS w p) (eb:∀ p∈M,EntS w p) (hK:L.length+M.length≤2097152) :
  Calls Tryz.prog 74 #[.slice a L.length ca,.slice b M.length cb] w (FAns w (mrg (fo L) (fo M))) :=
 (lsum_new a ca L b cb M w sa sb ea eb hK).mono fun e w1 h=>h.ans
set_option maxHeartbeats 4000000 in
set_option maxRecDepth 100000 in
theorem collect_manyN (b off:Nat) (c:Nat) (n h:Nat) (l1 l2:Fo) (w:World) (hn:2≤n) (hnc:n≤c) (hm:n≤1048576) (hh:h=n / 2)
  (H0:∀ w',Below w.heap.size w w'→Calls Tryz.prog 73 #[.slice (some ⟨b,off,none⟩) n c] w' fun e w''=>e=.returned (.bool false)∧Below w'.heap.size w' w'')
  (H1:∀ w',Below w.heap.size w w'→Calls Tryz.prog 51 #[.slice (some ⟨b,off,none⟩) h c] w' (FAns w' (nfm l1)))
  (H2:∀ w',Below w.heap.size w w'→∀ a2,(h < n→a2=some ⟨b,off+h*4,none⟩)→a2≠none→Calls Tryz.prog 51 #[.slice a2 (n - h) (c - h)] w' (FAns w' (nfm l2)))
  (w1:wts l1+1≤1099511627776) (w2:wts l2+1≤1099511627776) (n1:l1.length+l2.length≤2097152) :
  Calls Tryz.prog 51 #[.slice (some ⟨b,off,none⟩) n c] w (FNew w w.heap.size (nfm (l1 ++ l2))):=by
 have G0:=xQ1 (H0 w (Below.refl _ _))
 have G1:=xQ1 H1
 have G2:=xQ1 H2
 have e0:¬ ((n:Int)=1):=by omega
 have eh:wrap64 ((n:Int) / 2)=(h:Int):=by rw [wrap64_small (by omega) (by omega)];omega
 have i0:(0:Int)≤(h:Int):=by omega
 have i1:(h:Int)≤(c:Int):=by omega
 have i2:(h:Int)≤(n:Int):=by omega
 have i3:(n:Int)≤(c:Int):=by omega
 have sl1:=sl_headF b off n c h (by omega)
 obtain ⟨a2,sl2,sn,sl3⟩:=sl_restF b off n c h (by omega) hnc
 have G4:=xQ1 (And.intro sl3 sn)
 clear H0 H1 H2 sl3 sn
 go_enter Tryz.func51,Tryz.ntmps51
 go_wp2_with fail
 refine G0.out.mono ?_
 rintro e w3 ⟨rfl,hB⟩
 go_wp2_with fail
 rw [show (n:Int) / 2=(h:Int) by omega]
 clear hh eh e0
 have bD:Below w3.heap.size w3 w3.drew:=(Below.refl _ _).drew
 replace hB:=hB.trans (bD.mono hB.size)
 refine wp_region_held_drew (S:=fun w'=>True) (by kernel_rfl) trivial (fun hHeld=>?_)
 generalize w3.drew=w0 at bD hB hHeld ⊢
 clear bD
 refine tk 0 (v:=?_) rfl (Or.inl ⟨by rfl,?_⟩) ?_
 rotate_left
 ·intro w9 hSw
  go_simp
  try with_reducible rfl
 simp only [pA]
 refine tk 1 (v:=?_) rfl (Or.inl ⟨by rfl,?_⟩) ?_
 rotate_left
 ·intro w9 hSw
  go_simp
  try with_reducible rfl
 simp only [pA]
 refine tk 2 (v:=?_) rfl (Or.inl ⟨by rfl,?_⟩) ?_
 rotate_left
 ·intro w9 hSw
  go_simp
  try with_reducible rfl
 simp only [pA]
 refine tk 4 (v:=?_) rfl (Or.inl ⟨by rfl,?_⟩) ?_
 rotate_left
 ·intro w9 hSw
  go_simp
  try with_reducible rfl
 simp only [pA]
 refine tk 5 (v:=?_) rfl (Or.inl ⟨by rfl,?_⟩) ?_
 rotate_left
 ·intro w9 hSw
  go_simp
  try with_reducible rfl
 simp only [pA]
 refine tk 6 (v:=?_) rfl (Or.inl ⟨by rfl,?_⟩) ?_
 rotate_left
 ·intro w9 hSw
  go_simp
  try with_reducible rfl
 simp only [pA]
 refine wpAnyH_ready (rs:=[3]) (by kernel_rfl) (by simp) ?_
 refine xX0 rfl (fun KK hKK=>?_)
 go_simp
 refine (G1.out _ hB).mono ?_
 rintro e w4 ⟨a4,c4,R4,rfl,b4,s4,e4,f4⟩
 go_wp2_with fail
 replace hB:=hB.trans (b4.mono hB.size)
 clear b4
 refine hKK.out _ _ hHeld ?_
 clear hHeld
 intro hHeld
 clear hKK KK
 try simp only [pA]
 refine wpAnyH_ready (rs:=[7]) (by kernel_rfl) (by simp) ?_
 refine xX0 rfl (fun KK hKK=>?_)
 go_simp
 refine (G2.out _ hB a2 G4.out.1 G4.out.2).mono ?_
 rintro e w5 ⟨a5,c5,R5,rfl,b5,s5,e5,f5⟩
 go_wp2_with fail
 replace hB:=hB.trans (b5.mono hB.size)
 replace s4:=s4.later b5
 replace e4:=fun p hp=>(e4 p hp).later b5
 clear b5
 refine hKK.out _ _ hHeld ?_
 clear hHeld
 intro hHeld
 clear hKK KK
 try simp only [pA]
 refine wpAnyH_ready (rs:=[8]) (by kernel_rfl) (by simp) ?_
 refine xX0 rfl (fun KK hKK=>?_)
 have hl4:=xJ0 l1
 have hl5:=xJ0 l2
 rw [←f4,xX3] at hl4
 rw [←f5,xX3] at hl5
 have hbs:=hB.size
 go_simp
 refine (lsum_new a4 c4 R4 a5 c5 R5 _ s4 s5 (entS_of e4 f4 w1 (Nat.le_refl _)) (entS_of e5 f5 w2 (Nat.le_refl _)) (by omega)).mono ?_
 rintro e w6 ⟨a6,c6,R6,rfl,b6,s6,e6,f6,n6⟩
 have fr6:=fun ad h=>And.intro (Nat.le_trans hbs (n6 ad h).1) (n6 ad h).2
 clear n6 hbs
 go_wp2_with fail
 replace hB:=hB.trans (b6.mono hB.size)
 refine hKK.out _ _ hHeld ?_
 clear hHeld
 intro hHeld
 clear hKK KK
 try simp only [pA]
 refine tk 9 (v:=?_) rfl (Or.inl ⟨by rfl,?_⟩) ?_
 rotate_left
 ·intro w9 hSw
  go_simp
  try with_reducible rfl
 simp only [pA]
 refine wpAnyH_done (by kernel_rfl) ?_ _
 go_wp2
 go_ret
 exact ⟨a6,c6,R6,rfl,hB,s6,e6,by rw [f6,f4,f5,nfm_append],fr6⟩
theorem collect_many (b off:Nat) (c:Nat) (n h:Nat) (l1 l2:Fo) (w:World) (hn:2≤n) (hnc:n≤c) (hm:n≤1048576) (hh:h=n / 2)
  (H0:∀ w',Below w.heap.size w w'→Calls Tryz.prog 73 #[.slice (some ⟨b,off,none⟩) n c] w' fun e w''=>e=.returned (.bool false)∧Below w'.heap.size w' w'')
  (H1:∀ w',Below w.heap.size w w'→Calls Tryz.prog 51 #[.slice (some ⟨b,off,none⟩) h c] w' (FAns w' (nfm l1)))
  (H2:∀ w',Below w.heap.size w w'→∀ a2,(h < n→a2=some ⟨b,off+h*4,none⟩)→a2≠none→Calls Tryz.prog 51 #[.slice a2 (n - h) (c - h)] w' (FAns w' (nfm l2)))
  (w1:wts l1+1≤1099511627776) (w2:wts l2+1≤1099511627776) (n1:l1.length+l2.length≤2097152) :
  Calls Tryz.prog 51 #[.slice (some ⟨b,off,none⟩) n c] w (FAns w (nfm (l1 ++ l2))) :=
 (collect_manyN b off c n h l1 l2 w hn hnc hm hh H0 H1 H2 w1 w2 n1).mono fun e w9 h=>h.ans
set_option maxHeartbeats 2000000 in
set_option maxRecDepth 100000 in
theorem collect_norm (a:Option Addr) (c n:Nat) (w:World) (H0:Calls Tryz.prog 73 #[.slice a n c] w fun e v9=>e=.returned (.bool true)∧Below w.heap.size w v9):Calls Tryz.prog 51 #[.slice a n c] w fun e v9=>e=.returned (.slice a n c)∧Below w.heap.size w v9:=by
 have G0:=xQ1 H0
 clear H0
 go_enter Tryz.func51,Tryz.ntmps51
 go_wp2_with fail
 refine G0.out.mono ?_
 rintro e w3 ⟨rfl,hB⟩
 go_wp2
 go_ret
 exact ⟨rfl,hB⟩
set_option maxHeartbeats 2000000 in
set_option maxRecDepth 100000 in
theorem collect_one (a:Option Addr) (c:Nat) (w:World) (H0:Calls Tryz.prog 73 #[.slice a 1 c] w fun e v9=>e=.returned (.bool false)∧Below w.heap.size w v9):Calls Tryz.prog 51 #[.slice a 1 c] w fun e v9=>e=.returned (.slice none 0 0)∧Below w.heap.size w v9:=by
 have G0:=xQ1 H0
 clear H0
 go_enter Tryz.func51,Tryz.ntmps51
 go_wp2_with fail
 refine G0.out.mono ?_
 rintro e w3 ⟨rfl,hB⟩
 go_wp2
 go_ret
 exact ⟨rfl,hB⟩
theorem FAt.take {w:World} {b off:Nat} {L:List Mo} (h:FAt w (some ⟨b,off,none⟩) L) (k:Nat):FAt w (some ⟨b,off,none⟩) (L.take k):=fun hn=>by
 obtain ⟨b',off',e,hl,hc⟩:=h (fun e=>hn (by rw [e];simp))
 obtain ⟨rfl,rfl⟩:b=b'∧off=off':=by simpa using e
 exact ⟨b,off,rfl,hl,fun i p hi=>hc i p (by rw [List.getElem?_take] at hi;split at hi;exact hi;cases hi)⟩
theorem FAt.drop {w:World} {b off:Nat} {L:List Mo} (h:FAt w (some ⟨b,off,none⟩) L) (k:Nat):FAt w (some ⟨b,off+k*4,none⟩) (L.drop k):=fun hn=>by
 obtain ⟨b',off',e,hl,hc⟩:=h (fun e=>hn (by rw [e];simp))
 obtain ⟨rfl,rfl⟩:b=b'∧off=off':=by simpa using e
 refine ⟨b,off+k*4,rfl,hl,fun i p hi=>?_⟩
 rw [List.getElem?_drop] at hi
 rw [show off+k*4+i*4=off+(k+i)*4 by omega]
 exact hc _ p hi
theorem isNormal_no {a:Option Addr} {c:Nat} {L:List Mo} {w:World} (hF:FAt w a L) (hE:∀ p∈L,Ent w p) (hc:L.length≤c) (hm:L.length≤1048576) (hn:¬ nrm (fo L)) :
  Calls Tryz.prog 73 #[.slice a L.length c] w fun e w'=>e=.returned (.bool false)∧Below w.heap.size w w' :=
 (isNormal_is a c L w hF hE hc hm).mono fun e w' ⟨d,he,hd,hb⟩=>⟨by
  have:d=false:=by
   cases d
   ·rfl
   ·exact absurd (hd.1 rfl) hn
  rw [he,this],hb⟩
theorem collect_is:∀ (k:Nat) (L:List Mo) (a:Option Addr) (c:Nat) (w:World),L.length≤k→Sl w a c L→(∀ p∈L,Ent w p)→L.length≤1048576→wts (fo L)+1≤1099511627776 →
  Calls Tryz.prog 51 #[.slice a L.length c] w (FAns w (nfm (fo L)))
 | k,L,a,c,w,hk,hS,hE,hm,hw=>by
  by_cases hN:nrm (fo L)
  ·refine (collect_norm a c L.length w ((isNormal_is a c L w hS.lies hE hS.len hm).mono fun e w' ⟨d,he,hd,hb⟩=>⟨by rw [he,hd.2 hN],hb⟩)).mono ?_
   rintro e w' ⟨rfl,hb⟩
   exact ⟨a,c,L,rfl,hb,hS.later hb,fun p hp=>(hE p hp).later hb,nfm_self hN⟩
  ·match L,hk,hS,hE,hm,hw,hN with
   | [],_,_,_,_,_,hN=>exact absurd nrm.nil hN
   | [p],_,hS,hE,hm,hw,hN =>
    have hno:=isNormal_no hS.lies hE hS.len hm hN
    rw [show ([p]:List Mo).length=1 from rfl] at hno ⊢
    refine (collect_one a c w hno).mono ?_
    rintro e w' ⟨rfl,hb⟩
    exact ⟨none,0,[],rfl,hb,⟨FAt.nil _ _,Nat.le_refl _,fun _=>rfl⟩,fun q hq=>absurd hq (by simp),(nfm_single hN).symm⟩
   | p :: q :: L',hk,hS,hE,hm,hw,hN =>
    match k,hk with
    | 0,hk=>simp only [List.length_cons] at hk;omega
    | k+1,hk =>
     obtain ⟨L,hL⟩:∃ L,p :: q :: L'=L:=⟨_,rfl⟩
     have h2:2≤L.length:=by rw [←hL];simp
     rw [hL] at hk hS hE hm hw hN ⊢
     obtain ⟨b,off,rfl,_,_⟩:=hS.lies (by intro e;rw [e] at h2;simp at h2)
     obtain ⟨h,hh⟩:∃ h,h=L.length / 2:=⟨_,rfl⟩
     have hsplit:fo L=fo (L.take h) ++ fo (L.drop h):=by rw [←xZ1,List.take_append_drop]
     have hlt:(L.take h).length=h:=by rw [List.length_take];omega
     have hld:(L.drop h).length=L.length - h:=List.length_drop
     have hws:wts (fo L)=wts (fo (L.take h))+wts (fo (L.drop h)):=by rw [hsplit,wts_append]
     rw [hsplit]
     refine collect_many b off c L.length h (fo (L.take h)) (fo (L.drop h)) w h2 hS.len hm hh (fun w' hb=>isNormal_no (hS.lies.later hb) (fun p hp=>(hE p hp).later hb) hS.len hm hN) (fun w' hb=>?_) (fun w' hb a2 ha hne=>?_) (by omega) (by omega) (by rw [xX3,xX3];omega)
     ·have:=collect_is k (L.take h) (some ⟨b,off,none⟩) c w' (by omega) ⟨(hS.lies.take h).later hb,by have:=hS.len;omega,fun e=>by cases e⟩ (fun p hp=>(hE p (List.mem_of_mem_take hp)).later hb) (by omega) (by omega)
      rw [hlt] at this
      exact this
     ·have:=collect_is k (L.drop h) a2 (c - h) w' (by omega) ⟨fun hn=>by rw [ha (by omega)];exact ((hS.lies.drop h).later hb) hn,by have:=hS.len;omega,fun e=>absurd e hne⟩ (fun p hp=>(hE p (List.mem_of_mem_drop hp)).later hb) (by omega) (by omega)
      rw [hld] at this
      exact this
termination_by k=>k
theorem collect_new (L:List Mo) (a:Option Addr) (c:Nat) (w:World) (B:Nat) (hS:Sl w a c L) (hE:∀ p∈L,Ent w p) (hm:L.length≤1048576) (hw:wts (fo L)+1≤1099511627776) (hB:B≤w.heap.size) (ha:∀ ad,a=some ad→B≤ad.block∧Row w ad.block) :
  Calls Tryz.prog 51 #[.slice a L.length c] w (FNew w B (nfm (fo L))):=by
 by_cases hN:nrm (fo L)
 ·refine (collect_norm a c L.length w ((isNormal_is a c L w hS.lies hE hS.len hm).mono fun e w' ⟨d,he,hd,hb⟩=>⟨by rw [he,hd.2 hN],hb⟩)).mono ?_
  rintro e w' ⟨rfl,hb⟩
  exact ⟨a,c,L,rfl,hb,hS.later hb,fun p hp=>(hE p hp).later hb,nfm_self hN,fun ad h=>⟨(ha ad h).1,xQ3 hb (ha ad h).2⟩⟩
 ·match L,hS,hE,hm,hw,hN with
  | [],_,_,_,_,hN=>exact absurd nrm.nil hN
  | [p],hS,hE,hm,hw,hN =>
   have hno:=isNormal_no hS.lies hE hS.len hm hN
   rw [show ([p]:List Mo).length=1 from rfl] at hno ⊢
   refine (collect_one a c w hno).mono ?_
   rintro e w' ⟨rfl,hb⟩
   exact ⟨none,0,[],rfl,hb,⟨FAt.nil _ _,Nat.le_refl _,fun _=>rfl⟩,fun q hq=>absurd hq (by simp),(nfm_single hN).symm,fun ad h=>by cases h⟩
  | p :: q :: L',hS,hE,hm,hw,hN =>
   obtain ⟨L,hL⟩:∃ L,p :: q :: L'=L:=⟨_,rfl⟩
   have h2:2≤L.length:=by rw [←hL];simp
   rw [hL] at hS hE hm hw hN ⊢
   obtain ⟨b,off,rfl,_,_⟩:=hS.lies (by intro e;rw [e] at h2;simp at h2)
   obtain ⟨h,hh⟩:∃ h,h=L.length / 2:=⟨_,rfl⟩
   have hsplit:fo L=fo (L.take h) ++ fo (L.drop h):=by rw [←xZ1,List.take_append_drop]
   have hlt:(L.take h).length=h:=by rw [List.length_take];omega
   have hld:(L.drop h).length=L.length - h:=List.length_drop
   have hws:wts (fo L)=wts (fo (L.take h))+wts (fo (L.drop h)):=by rw [hsplit,wts_append]
   rw [hsplit]
   refine (collect_manyN b off c L.length h (fo (L.take h)) (fo (L.drop h)) w h2 hS.len hm hh (fun w' hb=>isNormal_no (hS.lies.later hb) (fun p hp=>(hE p hp).later hb) hS.len hm hN) (fun w' hb=>?_) (fun w' hb a2 ha hne=>?_) (by omega) (by omega) (by rw [xX3,xX3];omega)).mono ?_
   ·have:=collect_is (L.take h).length (L.take h) (some ⟨b,off,none⟩) c w' (Nat.le_refl _) ⟨(hS.lies.take h).later hb,by have:=hS.len;omega,fun e=>by cases e⟩ (fun p hp=>(hE p (List.mem_of_mem_take hp)).later hb) (by omega) (by omega)
    rw [hlt] at this
    exact this
   ·have:=collect_is (L.drop h).length (L.drop h) a2 (c - h) w' (Nat.le_refl _) ⟨fun hn=>by rw [ha (by omega)];exact ((hS.lies.drop h).later hb) hn,by have:=hS.len;omega,fun e=>absurd e hne⟩ (fun p hp=>(hE p (List.mem_of_mem_drop hp)).later hb) (by omega) (by omega)
    rw [hld] at this
    exact this
   ·rintro e w9 ⟨a9,c9,R9,h1,h2,h3,h4,h5,h6⟩
    exact ⟨a9,c9,R9,h1,h2,h3,h4,h5,fun ad e=>⟨Nat.le_trans hB (h6 ad e).1,(h6 ad e).2⟩⟩
end Go.Proofs.YtgfmaejhdbmkoaaGreat
