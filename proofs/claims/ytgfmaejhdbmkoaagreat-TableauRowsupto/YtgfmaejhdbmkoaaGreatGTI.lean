import Derived.Test.YtgfmaejhdbmkoaaGreatGTC
import Derived.Test.YtgfmaejhdbmkoaaGreatWO7
import Derived.Test.YtgfmaejhdbmkoaaGreatGTF
set_option linter.unusedSimpArgs false
namespace Go.Proofs.YtgfmaejhdbmkoaaGreat
open Go.RowKit
set_option linter.unusedVariables false
theorem nrmT_of {w:World} {g:Int→Option FV} {T:Tb} {S:List RowV} (h:RF w g T) (hs:∀ x,lk S x=g x) (hr:rising S):NrmT T (tb S) :=
 ⟨by unfold rising tb;exact List.pairwise_map.2 hr,fun v=>by rw [tb_lk,hs v,h.says v]⟩
set_option maxHeartbeats 8000000 in
set_option maxRecDepth 100000 in
theorem SameForm7_is (a:Option Addr) (ca:Nat) (L:List Mo) (b:Option Addr) (cb:Nat) (M:List Mo) (w:World) (hF:FAt w a L) (hG:FAt w b M) (hE:∀ p∈L,Ent w p) (hE2:∀ p∈M,Ent w p) (hca:L.length≤ca) (hcb:M.length≤cb) (hm:L.length≤2097152) (hfo:fo L=fo M) :
  Calls Tryz.prog 7 #[.slice a L.length ca,.slice b M.length cb] w fun e w'=>e=.returned (.bool true)∧Below w.heap.size w w':=by
 have hl:M.length=L.length:=by have h:=congrArg List.length hfo;rw [xX3,xX3] at h;exact h.symm
 rw [hl]
 have HF:=xQ1 hfo
 have HL:=xQ1 hl
 rw [hl] at hcb
 clear hfo hl
 go_enter Tryz.func7,Tryz.ntmps7
 go_wp2_with fail
 go_loopw [5] (fun vi wr=>∃ k:Nat,k≤L.length∧vi=.int .i64 k∧Below w.heap.size w wr) (fun vi _=>L.length - (intOf vi).toNat)
 case atStart=>exact ⟨0,Nat.zero_le _,rfl,Below.refl _ _⟩
 case round =>
  obtain ⟨k,hk,rfl,hB⟩:=hrel
  by_cases hlt:k < L.length
  ·obtain ⟨p,hp⟩:∃ p,L[k]?=some p:=⟨L[k],List.getElem?_eq_getElem hlt⟩
   obtain ⟨q,hq⟩:∃ q,M[k]?=some q:=⟨M[k]'(by rw [HL.out];exact hlt),List.getElem?_eq_getElem _⟩
   have hpq:(p.1,p.2.val)=(q.1,q.2.val):=by
    have h1:(fo L)[k]?=some (p.1,p.2.val):=by unfold fo;rw [List.getElem?_map,hp];rfl
    have h2:(fo M)[k]?=some (q.1,q.2.val):=by unfold fo;rw [List.getElem?_map,hq];rfl
    rw [HF.out,h2] at h1
    exact (Option.some.inj h1).symm
   obtain ⟨b1,o1,rfl,hb1,hcell⟩:=hF (by intro e;rw [e] at hlt;simp at hlt)
   obtain ⟨b2,o2,rfl,hb2,hcell2⟩:=hG (by intro e;have:=HL.out;rw [e] at this;simp at this;omega)
   obtain ⟨c0,c1,c2,c3⟩:=hcell k p hp
   obtain ⟨d0,d1,d2,d3⟩:=hcell2 k q hq
   have ep:=(hE p (List.mem_of_getElem? hp)).later hB
   have eq:=(hE2 q (List.mem_of_getElem? hq)).later hB
   clear hp hq hcell hcell2
   obtain ⟨x,P⟩:=p
   obtain ⟨y,Q⟩:=q
   simp only [Prod.mk.injEq] at hpq
   obtain ⟨rfl,hv⟩:=hpq
   simp only at c0 c1 c2 c3 d0 d1 d2 d3
   replace c0:=xQ0 hB c0
   replace c1:=xQ0 hB c1
   replace c2:=xQ0 hB c2
   replace c3:=xQ0 hB c3
   replace d0:=xQ0 hB d0
   replace d1:=xQ0 hB d1
   replace d2:=xQ0 hB d2
   replace d3:=xQ0 hB d3
   have okP:P.ok wr:=ep.ok
   have okQ:Q.ok wr:=eq.ok
   have eP:=low_val (show P.low from ep.low)
   have eQ:=low_val (show Q.low from eq.low)
   rw [←hv] at eQ
   clear ep eq
   obtain ⟨r,hr⟩:∃ r,P.val=r:=⟨_,rfl⟩
   rw [hr] at eP eQ
   clear hr hv
   obtain ⟨pa,hpa⟩:∃ pa,P.a=pa:=⟨_,rfl⟩
   obtain ⟨pb,hpb⟩:∃ pb,P.b=pb:=⟨_,rfl⟩
   obtain ⟨qa,hqa⟩:∃ qa,Q.a=qa:=⟨_,rfl⟩
   obtain ⟨qb,hqb⟩:∃ qb,Q.b=qb:=⟨_,rfl⟩
   rw [hpa,hpb] at eP
   rw [hqa,hqb] at eQ
   clear hpa hpb hqa hqb
   subst eP eQ
   simp only [RatV.of] at c1 c2 c3 d1 d2 d3
   have g1:Seg wr pa (am r.num) (ln (am r.num)):=okP.1
   have g2:Seg wr pb r.den (ln r.den):=okP.2.2.2.1
   have g3:Seg wr qa (am r.num) (ln (am r.num)):=okQ.1
   have g4:Seg wr qb r.den (ln r.den):=okQ.2.2.2.1
   have l1:ln (am r.num)≤35184372087808:=okP.2.2.1
   have l2:ln r.den≤35184372087808:=okP.2.2.2.2.2
   clear okP okQ
   have GS:=xQ1 (fun w' k1 k2 k3 k4=>SameQ_is r.num r.den pa pb qa qb w' (by omega) (by omega) k1 k2 k3 k4)
   have i1:(0:Int)≤(k:Int):=by omega
   have i2:(k:Int) < (L.length:Int):=by omega
   go_wp2_with fail
   have bD:Below wr.heap.size wr wr.drew:=(Below.refl _ _).drew
   have kc0:=xQ0 bD c0
   have kc1:=xQ0 bD c1
   have kc2:=xQ0 bD c2
   have kc3:=xQ0 bD c3
   have kd0:=xQ0 bD d0
   have kd1:=xQ0 bD d1
   have kd2:=xQ0 bD d2
   have kd3:=xQ0 bD d3
   replace hB:=hB.trans (bD.mono hB.size)
   replace g1:=g1.later bD
   replace g2:=g2.later bD
   replace g3:=g3.later bD
   replace g4:=g4.later bD
   refine wp_region_held_drew (S:=fun w'=>w'.cell? ⟨b1,o1+k*4,none⟩=some (.int .i64 x)∧w'.cell? ⟨b1,o1+k*4+1,none⟩=some (.bool (ng r.num))∧w'.cell? ⟨b1,o1+k*4+1+1,none⟩=some (.slice pa (ln (am r.num)) (ln (am r.num)))∧w'.cell? ⟨b1,o1+k*4+1+2,none⟩=some (.slice pb (ln r.den) (ln r.den))∧w'.cell? ⟨b2,o2+k*4,none⟩=some (.int .i64 x)∧w'.cell? ⟨b2,o2+k*4+1,none⟩=some (.bool (ng r.num))∧w'.cell? ⟨b2,o2+k*4+1+1,none⟩=some (.slice qa (ln (am r.num)) (ln (am r.num)))∧w'.cell? ⟨b2,o2+k*4+1+2,none⟩=some (.slice qb (ln r.den) (ln r.den))) (by kernel_rfl) ⟨kc0,kc1,kc2,kc3,kd0,kd1,kd2,kd3⟩ (fun hHeld=>?_)
   clear kc0 kc1 kc2 kc3 kd0 kd1 kd2 kd3
   generalize wr.drew=w0 at bD g1 g2 g3 g4 hB hHeld ⊢
   clear bD c0 c1 c2 c3 d0 d1 d2 d3
   refine tk 0 (v:=?_) rfl (Or.inl ⟨by rfl,?_⟩) ?_
   rotate_left
   ·intro w9 hSw
    go_simp
    try with_reducible rfl
   simp only [pA]
   refine tk 1 (v:=?_) rfl (Or.inl ⟨by rfl,?_⟩) ?_
   rotate_left
   ·intro w9 hSw
    go_simp
    try with_reducible rfl
   simp only [pA]
   refine tk 2 (v:=?_) rfl (Or.inl ⟨by rfl,?_⟩) ?_
   rotate_left
   ·intro w9 hSw
    go_simp
    try with_reducible rfl
   simp only [pA]
   refine tk 3 (v:=?_) rfl (Or.inl ⟨by rfl,?_⟩) ?_
   rotate_left
   ·intro w9 hSw
    go_simp
    try with_reducible rfl
   simp only [pA]
   refine tk 4 (v:=?_) rfl (Or.inl ⟨by rfl,?_⟩) ?_
   rotate_left
   ·intro w9 hSw
    go_simp
    try with_reducible rfl
   simp only [pA]
   refine tk 5 (v:=?_) rfl (Or.inl ⟨by rfl,?_⟩) ?_
   rotate_left
   ·intro w9 hSw
    go_simp
    try with_reducible rfl
   simp only [pA]
   refine tk 6 (v:=?_) rfl (Or.inl ⟨by rfl,?_⟩) ?_
   rotate_left
   ·intro w9 hSw
    go_simp
    try with_reducible rfl
   simp only [pA]
   refine tk 7 (v:=?_) rfl (Or.inl ⟨by rfl,?_⟩) ?_
   rotate_left
   ·intro w9 hSw
    go_simp
    try with_reducible rfl
   simp only [pA]
   refine tk 8 (v:=?_) rfl (Or.inl ⟨by rfl,?_⟩) ?_
   rotate_left
   ·intro w9 hSw
    go_simp
    try with_reducible rfl
   simp only [pA]
   refine tk 9 (v:=?_) rfl (Or.inl ⟨by rfl,?_⟩) ?_
   rotate_left
   ·intro w9 hSw
    go_simp
    try with_reducible rfl
   simp only [pA]
   refine tk 10 (v:=?_) rfl (Or.inl ⟨by rfl,?_⟩) ?_
   rotate_left
   ·intro w9 hSw
    go_simp
    try with_reducible rfl
   simp only [pA]
   refine tk 11 (v:=?_) rfl (Or.inl ⟨by rfl,?_⟩) ?_
   rotate_left
   ·intro w9 hSw
    go_simp
    try with_reducible rfl
   simp only [pA]
   refine tk 12 (v:=?_) rfl (Or.inl ⟨by rfl,?_⟩) ?_
   rotate_left
   ·intro w9 hSw
    go_simp
    try with_reducible rfl
   simp only [pA]
   refine tk 13 (v:=?_) rfl (Or.inl ⟨by rfl,?_⟩) ?_
   rotate_left
   ·intro w9 hSw
    go_simp
    try with_reducible rfl
   simp only [pA]
   refine tk 14 (v:=?_) rfl (Or.inl ⟨by rfl,?_⟩) ?_
   rotate_left
   ·intro w9 hSw
    go_simp
    try with_reducible rfl
   simp only [pA]
   refine tk 15 (v:=?_) rfl (Or.inl ⟨by rfl,?_⟩) ?_
   rotate_left
   ·intro w9 hSw
    go_simp
    try with_reducible rfl
   simp only [pA]
   refine tk 16 (v:=?_) rfl (Or.inl ⟨by rfl,?_⟩) ?_
   rotate_left
   ·intro w9 hSw
    go_simp
    try with_reducible rfl
   simp only [pA]
   refine tk 17 (v:=?_) rfl (Or.inl ⟨by rfl,?_⟩) ?_
   rotate_left
   ·intro w9 hSw
    go_simp
    try with_reducible rfl
   simp only [pA]
   refine tk 18 (v:=?_) rfl (Or.inl ⟨by rfl,?_⟩) ?_
   rotate_left
   ·intro w9 hSw
    go_simp
    try with_reducible rfl
   simp only [pA]
   refine tk 19 (v:=?_) rfl (Or.inl ⟨by rfl,?_⟩) ?_
   rotate_left
   ·intro w9 hSw
    go_simp
    try with_reducible rfl
   simp only [pA]
   refine tk 20 (v:=?_) rfl (Or.inl ⟨by rfl,?_⟩) ?_
   rotate_left
   ·intro w9 hSw
    go_simp
    try with_reducible rfl
   simp only [pA]
   refine tk 21 (v:=?_) rfl (Or.inl ⟨by rfl,?_⟩) ?_
   rotate_left
   ·intro w9 hSw
    go_simp
    try with_reducible rfl
   simp only [pA]
   refine wpAnyH_ready (rs:=[22]) (by kernel_rfl) (by simp) ?_
   refine xX0 rfl (fun KK hKK=>?_)
   go_simp
   refine (GS.out _ g1 g2 g3 g4).mono ?_
   rintro e w2 ⟨rfl,b2⟩
   have bC:=b2
   replace hB:=hB.trans (bC.mono hB.size)
   replace g1:=g1.later bC
   replace g2:=g2.later bC
   replace g3:=g3.later bC
   replace g4:=g4.later bC
   replace hHeld:=(⟨xQ0 bC hHeld.1,xQ0 bC hHeld.2.1,xQ0 bC hHeld.2.2.1,xQ0 bC hHeld.2.2.2.1,xQ0 bC hHeld.2.2.2.2.1,xQ0 bC hHeld.2.2.2.2.2.1,xQ0 bC hHeld.2.2.2.2.2.2.1,xQ0 bC hHeld.2.2.2.2.2.2.2⟩:_∧_∧_∧_∧_∧_∧_∧_)
   clear bC
   go_wp2_with fail
   clear b2 GS
   refine hKK.out _ _ hHeld ?_
   clear hHeld
   intro hHeld
   clear hKK KK
   try simp only [pA]
   refine tk 23 (v:=?_) rfl (Or.inl ⟨by rfl,?_⟩) ?_
   rotate_left
   ·intro w9 hSw
    go_simp
    try with_reducible rfl
   simp only [pA]
   refine tk 24 (v:=?_) rfl (Or.inl ⟨by rfl,?_⟩) ?_
   rotate_left
   ·intro w9 hSw
    go_simp
    try with_reducible rfl
   simp only [pA]
   refine wpAnyH_done (by kernel_rfl) ?_ _
   go_wp2
   go_roundw
   case rel=>exact ⟨k+1,by omega,by go_num,hB⟩
   case measure=>simp [intOf];omega
  ·obtain rfl:k=L.length:=by omega
   have i1:¬ (L.length:Int) < (L.length:Int):=by omega
   go_wp2
   go_ret
   exact ⟨rfl,hB⟩
set_option maxHeartbeats 8000000 in
set_option maxRecDepth 100000 in
theorem Alike_is (V:Int) (a:Option Addr) (c:Nat) (R:List RowV) (b:Option Addr) (d:Nat) (S:List RowV) (w:World) (hR:TNk w a R) (hS:TNk w b S) (hc:R.length≤c) (hd:S.length≤d) (hm:R.length≤1048576) (hfl:∀ r∈R,r.2.L.length≤2097152) (hfo:tb R=tb S) :
  Calls Tryz.prog 50 #[.agg #[.int .i64 V,.slice a R.length c],.agg #[.int .i64 V,.slice b S.length d]] w fun e w'=>e=.returned (.bool true)∧Below w.heap.size w w':=by
 have hl:S.length=R.length:=by have h:=congrArg List.length hfo;rw [tb_length,tb_length] at h;exact h.symm
 rw [hl]
 have HF:=xQ1 hfo
 have HL:=xQ1 hl
 rw [hl] at hd
 clear hfo hl
 have b1:=xQ2 (w:=w) (.cells #[.int .i64 V,.slice a R.length c] 24)
 have b2:=xQ2 (w:=w.alloc (.cells #[.int .i64 V,.slice a R.length c] 24)) (.cells #[.int .i64 V,.slice b R.length d] 24)
 have bA:=b1.trans (b2.mono b1.size)
 clear b1 b2
 have m0:((w.alloc (.cells #[.int .i64 V,.slice a R.length c] 24)).alloc (.cells #[.int .i64 V,.slice b R.length d] 24)).cell? ⟨w.heap.size,0,none⟩=some (.int .i64 V):=by go_simp
 have m1:((w.alloc (.cells #[.int .i64 V,.slice a R.length c] 24)).alloc (.cells #[.int .i64 V,.slice b R.length d] 24)).cell? ⟨w.heap.size,1,none⟩=some (.slice a R.length c):=by go_simp
 have n0:((w.alloc (.cells #[.int .i64 V,.slice a R.length c] 24)).alloc (.cells #[.int .i64 V,.slice b R.length d] 24)).cell? ⟨w.heap.size+1,0,none⟩=some (.int .i64 V):=by go_simp
 have n1:((w.alloc (.cells #[.int .i64 V,.slice a R.length c] 24)).alloc (.cells #[.int .i64 V,.slice b R.length d] 24)).cell? ⟨w.heap.size+1,1,none⟩=some (.slice b R.length d):=by go_simp
 have GF:=xQ1 (fun (X Y:FV) w' (hX:X.nk w') (hY:Y.nk w') (h:X.fo=Y.fo) (hlx:X.L.length≤2097152)=>SameForm7_is X.a X.c X.L Y.a Y.c Y.L w' hX.sl.lies hY.sl.lies hX.en hY.en hX.sl.len hY.sl.len hlx h)
 have HR:=xQ1 hR
 have HS:=xQ1 hS
 have HFL:=xQ1 hfl
 clear hR hS hfl
 go_enter Tryz.func50,Tryz.ntmps50
 go_wp2_with fail
 obtain ⟨wA,hwA⟩:∃ wA,((w.alloc (.cells #[.int .i64 V,.slice a R.length c] 24)).alloc (.cells #[.int .i64 V,.slice b R.length d] 24))=wA:=⟨_,rfl⟩
 rw [hwA] at bA m0 m1 n0 n1 ⊢
 clear hwA
 go_loopw [5] (fun vi wr=>∃ k:Nat,k≤R.length∧vi=.int .i64 k∧Below wA.heap.size wA wr) (fun vi _=>R.length - (intOf vi).toNat)
 case atStart=>exact ⟨0,Nat.zero_le _,rfl,Below.refl _ _⟩
 case round =>
  obtain ⟨k,hk,rfl,hB⟩:=hrel
  have hBw:=bA.trans (hB.mono bA.size)
  replace m0:=xQ0 hB m0
  replace m1:=xQ0 hB m1
  replace n0:=xQ0 hB n0
  replace n1:=xQ0 hB n1
  by_cases hlt:k < R.length
  ·obtain ⟨r,hr⟩:∃ r,R[k]?=some r:=⟨R[k],List.getElem?_eq_getElem hlt⟩
   obtain ⟨s,hs⟩:∃ s,S[k]?=some s:=⟨S[k]'(by rw [HL.out];exact hlt),List.getElem?_eq_getElem _⟩
   have hrs:r.1=s.1∧r.2.fo=s.2.fo:=by
     have h1:=tb_at hr
     rw [HF.out,tb_at hs] at h1
     have h2:=Option.some.inj h1
     simp only [Prod.mk.injEq] at h2
     exact ⟨h2.1.symm,h2.2.symm⟩
   obtain ⟨b1,o1,rfl,hb1,hc1⟩:=HR.out.at_ (by intro e;rw [e] at hlt;simp at hlt)
   obtain ⟨b2,o2,rfl,hb2,hc2⟩:=HS.out.at_ (by intro e;have:=HL.out;rw [e] at this;simp at this;omega)
   obtain ⟨c0,c1⟩:=hc1 k r hr
   obtain ⟨d0,d1⟩:=hc2 k s hs
   replace c0:=xQ0 hBw c0
   replace c1:=xQ0 hBw c1
   replace d0:=xQ0 hBw d0
   replace d1:=xQ0 hBw d1
   have hX:=(HR.out.forms r (List.mem_of_getElem? hr)).later hBw
   have hY:=(HS.out.forms s (List.mem_of_getElem? hs)).later hBw
   have G:=xQ1 (fun w' (hb:Below wr.heap.size wr w')=>GF.out r.2 s.2 w' (hX.later hb) (hY.later hb) hrs.2 (HFL.out r (List.mem_of_getElem? hr)))
   obtain ⟨x,X⟩:=r
   obtain ⟨y,Y⟩:=s
   obtain ⟨hxy,_⟩:=hrs
   simp only at hxy c0 c1 d0 d1 G
   subst hxy
   obtain ⟨Xa,Xc,XL⟩:=X
   obtain ⟨Ya,Yc,YL⟩:=Y
   unfold FV.val at c1 d1
   simp only at c1 d1 G
   have i1:(0:Int)≤(k:Int):=by omega
   have i2:(k:Int) < (R.length:Int):=by omega
   clear hr hs hc1 hc2 hX hY GF HR HS HFL HF
   go_wp2_with fail
   have bT:Below wr.heap.size wr wr:=Below.refl _ _
   have bD:Below wr.heap.size wr wr.drew:=(Below.refl _ _).drew
   have km0:=xQ0 bD m0
   have km1:=xQ0 bD m1
   have kn0:=xQ0 bD n0
   have kn1:=xQ0 bD n1
   have kc0:=xQ0 bD c0
   have kc1:=xQ0 bD c1
   have kd0:=xQ0 bD d0
   have kd1:=xQ0 bD d1
   replace hB:=hB.trans (bD.mono hB.size)
   replace hBw:=hBw.trans (bD.mono hBw.size)
   replace bT:=bT.trans (bD.mono bT.size)
   refine wp_region_held_drew (S:=fun w'=>w'.cell? ⟨w.heap.size,0,none⟩=some (.int .i64 V)∧w'.cell? ⟨w.heap.size,1,none⟩=some (.slice (some ⟨b1,o1,none⟩) R.length c)∧w'.cell? ⟨w.heap.size+1,0,none⟩=some (.int .i64 V)∧w'.cell? ⟨w.heap.size+1,1,none⟩=some (.slice (some ⟨b2,o2,none⟩) R.length d)∧w'.cell? ⟨b1,o1+k*2,none⟩=some (.int .i64 x)∧w'.cell? ⟨b1,o1+k*2+1,none⟩=some (.slice Xa XL.length Xc)∧w'.cell? ⟨b2,o2+k*2,none⟩=some (.int .i64 x)∧w'.cell? ⟨b2,o2+k*2+1,none⟩=some (.slice Ya YL.length Yc)) (by kernel_rfl) ⟨km0,km1,kn0,kn1,kc0,kc1,kd0,kd1⟩ (fun hHeld=>?_)
   clear km0 km1 kn0 kn1 kc0 kc1 kd0 kd1
   generalize wr.drew=w4 at bD hB hBw bT hHeld ⊢
   clear bD m0 m1 n0 n1 c0 c1 d0 d1
   refine tk 0 (v:=?_) rfl (Or.inl ⟨by rfl,?_⟩) ?_
   rotate_left
   ·intro w9 hSw
    go_simp
    try with_reducible rfl
   simp only [pA]
   refine tk 1 (v:=?_) rfl (Or.inl ⟨by rfl,?_⟩) ?_
   rotate_left
   ·intro w9 hSw
    go_simp
    try with_reducible rfl
   simp only [pA]
   refine tk 2 (v:=?_) rfl (Or.inl ⟨by rfl,?_⟩) ?_
   rotate_left
   ·intro w9 hSw
    go_simp
    try with_reducible rfl
   simp only [pA]
   refine tk 3 (v:=?_) rfl (Or.inl ⟨by rfl,?_⟩) ?_
   rotate_left
   ·intro w9 hSw
    go_simp
    try with_reducible rfl
   simp only [pA]
   refine tk 4 (v:=?_) rfl (Or.inl ⟨by rfl,?_⟩) ?_
   rotate_left
   ·intro w9 hSw
    go_simp
    try with_reducible rfl
   simp only [pA]
   refine tk 5 (v:=?_) rfl (Or.inl ⟨by rfl,?_⟩) ?_
   rotate_left
   ·intro w9 hSw
    go_simp
    try with_reducible rfl
   simp only [pA]
   refine tk 6 (v:=?_) rfl (Or.inl ⟨by rfl,?_⟩) ?_
   rotate_left
   ·intro w9 hSw
    go_simp
    try with_reducible rfl
   simp only [pA]
   refine tk 7 (v:=?_) rfl (Or.inl ⟨by rfl,?_⟩) ?_
   rotate_left
   ·intro w9 hSw
    go_simp
    try with_reducible rfl
   simp only [pA]
   refine tk 8 (v:=?_) rfl (Or.inl ⟨by rfl,?_⟩) ?_
   rotate_left
   ·intro w9 hSw
    go_simp
    try with_reducible rfl
   simp only [pA]
   refine tk 9 (v:=?_) rfl (Or.inl ⟨by rfl,?_⟩) ?_
   rotate_left
   ·intro w9 hSw
    go_simp
    try with_reducible rfl
   simp only [pA]
   refine tk 10 (v:=?_) rfl (Or.inl ⟨by rfl,?_⟩) ?_
   rotate_left
   ·intro w9 hSw
    go_simp
    try with_reducible rfl
   simp only [pA]
   refine tk 11 (v:=?_) rfl (Or.inl ⟨by rfl,?_⟩) ?_
   rotate_left
   ·intro w9 hSw
    go_simp
    try with_reducible rfl
   simp only [pA]
   refine tk 12 (v:=?_) rfl (Or.inl ⟨by rfl,?_⟩) ?_
   rotate_left
   ·intro w9 hSw
    go_simp
    try with_reducible rfl
   simp only [pA]
   refine tk 13 (v:=?_) rfl (Or.inl ⟨by rfl,?_⟩) ?_
   rotate_left
   ·intro w9 hSw
    go_simp
    try with_reducible rfl
   simp only [pA]
   refine tk 14 (v:=?_) rfl (Or.inl ⟨by rfl,?_⟩) ?_
   rotate_left
   ·intro w9 hSw
    go_simp
    try with_reducible rfl
   simp only [pA]
   refine tk 15 (v:=?_) rfl (Or.inl ⟨by rfl,?_⟩) ?_
   rotate_left
   ·intro w9 hSw
    go_simp
    try with_reducible rfl
   simp only [pA]
   refine tk 16 (v:=?_) rfl (Or.inl ⟨by rfl,?_⟩) ?_
   rotate_left
   ·intro w9 hSw
    go_simp
    try with_reducible rfl
   simp only [pA]
   refine tk 17 (v:=?_) rfl (Or.inl ⟨by rfl,?_⟩) ?_
   rotate_left
   ·intro w9 hSw
    go_simp
    try with_reducible rfl
   simp only [pA]
   refine tk 18 (v:=?_) rfl (Or.inl ⟨by rfl,?_⟩) ?_
   rotate_left
   ·intro w9 hSw
    go_simp
    try with_reducible rfl
   simp only [pA]
   refine tk 19 (v:=?_) rfl (Or.inl ⟨by rfl,?_⟩) ?_
   rotate_left
   ·intro w9 hSw
    go_simp
    try with_reducible rfl
   simp only [pA]
   refine tk 20 (v:=?_) rfl (Or.inl ⟨by rfl,?_⟩) ?_
   rotate_left
   ·intro w9 hSw
    go_simp
    try with_reducible rfl
   simp only [pA]
   refine tk 21 (v:=?_) rfl (Or.inl ⟨by rfl,?_⟩) ?_
   rotate_left
   ·intro w9 hSw
    go_simp
    try with_reducible rfl
   simp only [pA]
   refine tk 22 (v:=?_) rfl (Or.inl ⟨by rfl,?_⟩) ?_
   rotate_left
   ·intro w9 hSw
    go_simp
    try with_reducible rfl
   simp only [pA]
   refine tk 23 (v:=?_) rfl (Or.inl ⟨by rfl,?_⟩) ?_
   rotate_left
   ·intro w9 hSw
    go_simp
    try with_reducible rfl
   simp only [pA]
   refine tk 24 (v:=?_) rfl (Or.inl ⟨by rfl,?_⟩) ?_
   rotate_left
   ·intro w9 hSw
    go_simp
    try with_reducible rfl
   simp only [pA]
   refine tk 25 (v:=?_) rfl (Or.inl ⟨by rfl,?_⟩) ?_
   rotate_left
   ·intro w9 hSw
    go_simp
    try with_reducible rfl
   simp only [pA]
   refine wpAnyH_ready (rs:=[26]) (by kernel_rfl) (by simp) ?_
   refine xX0 rfl (fun KK hKK=>?_)
   go_simp
   refine (G.out _ bT).mono ?_
   rintro e w5 ⟨rfl,b5⟩
   have bC:=b5
   replace hB:=hB.trans (bC.mono hB.size)
   replace hBw:=hBw.trans (bC.mono hBw.size)
   replace bT:=bT.trans (bC.mono bT.size)
   replace hHeld:=(⟨xQ0 bC hHeld.1,xQ0 bC hHeld.2.1,xQ0 bC hHeld.2.2.1,xQ0 bC hHeld.2.2.2.1,xQ0 bC hHeld.2.2.2.2.1,xQ0 bC hHeld.2.2.2.2.2.1,xQ0 bC hHeld.2.2.2.2.2.2.1,xQ0 bC hHeld.2.2.2.2.2.2.2⟩:_∧_∧_∧_∧_∧_∧_∧_)
   clear bC
   go_wp2_with fail
   clear b5 G
   refine hKK.out _ _ hHeld ?_
   clear hHeld
   intro hHeld
   clear hKK KK
   try simp only [pA]
   refine tk 27 (v:=?_) rfl (Or.inl ⟨by rfl,?_⟩) ?_
   rotate_left
   ·intro w9 hSw
    go_simp
    try with_reducible rfl
   simp only [pA]
   refine tk 28 (v:=?_) rfl (Or.inl ⟨by rfl,?_⟩) ?_
   rotate_left
   ·intro w9 hSw
    go_simp
    try with_reducible rfl
   simp only [pA]
   refine wpAnyH_done (by kernel_rfl) ?_ _
   go_wp2
   go_roundw
   case rel=>exact ⟨k+1,by omega,by go_num,hB⟩
   case measure=>simp only [intOf];omega
  ·obtain rfl:k=R.length:=by omega
   have i1:¬ (R.length:Int) < (R.length:Int):=by omega
   go_wp2
   first | exact ⟨rfl,hBw⟩ | (go_ret;exact ⟨rfl,hBw⟩)
set_option maxHeartbeats 4000000 in
set_option maxRecDepth 100000 in
theorem alike_is (V:Int) (a:Option Addr) (c:Nat) (R:List RowV) (b:Option Addr) (d:Nat) (S:List RowV) (w:World) (hR:TNk w a R) (hS:TNk w b S) (hc:R.length≤c) (hd:S.length≤d) (hm:R.length≤1048576) (hfl:∀ r∈R,r.2.L.length≤2097152) (hfo:tb R=tb S) :
  Calls Tryz.prog 32 #[.agg #[.int .i64 V,.slice a R.length c],.agg #[.int .i64 V,.slice b S.length d]] w fun e w'=>e=.returned (.bool true)∧Below w.heap.size w w':=by
 have b1:=xQ2 (w:=w) (.cells #[.int .i64 V,.slice a R.length c] 24)
 have b2:=xQ2 (w:=w.alloc (.cells #[.int .i64 V,.slice a R.length c] 24)) (.cells #[.int .i64 V,.slice b S.length d] 24)
 have bA:=b1.trans (b2.mono b1.size)
 clear b1 b2
 have m0:((w.alloc (.cells #[.int .i64 V,.slice a R.length c] 24)).alloc (.cells #[.int .i64 V,.slice b S.length d] 24)).cell? ⟨w.heap.size,0,none⟩=some (.int .i64 V):=by go_simp
 have m1:((w.alloc (.cells #[.int .i64 V,.slice a R.length c] 24)).alloc (.cells #[.int .i64 V,.slice b S.length d] 24)).cell? ⟨w.heap.size,1,none⟩=some (.slice a R.length c):=by go_simp
 have n0:((w.alloc (.cells #[.int .i64 V,.slice a R.length c] 24)).alloc (.cells #[.int .i64 V,.slice b S.length d] 24)).cell? ⟨w.heap.size+1,0,none⟩=some (.int .i64 V):=by go_simp
 have n1:((w.alloc (.cells #[.int .i64 V,.slice a R.length c] 24)).alloc (.cells #[.int .i64 V,.slice b S.length d] 24)).cell? ⟨w.heap.size+1,1,none⟩=some (.slice b S.length d):=by go_simp
 have G:=xQ1 (fun w' (hb:Below w.heap.size w w')=>Alike_is V a c R b d S w' (hR.later hb) (hS.later hb) hc hd hm hfl hfo)
 clear hR hS hfo
 go_enter Tryz.func32,Tryz.ntmps32
 go_wp2_with fail
 obtain ⟨wA,hwA⟩:∃ wA,((w.alloc (.cells #[.int .i64 V,.slice a R.length c] 24)).alloc (.cells #[.int .i64 V,.slice b S.length d] 24))=wA:=⟨_,rfl⟩
 rw [hwA] at bA m0 m1 n0 n1 ⊢
 clear hwA
 try go_wp2_with fail
 refine (G.out _ bA).mono ?_
 rintro e w1 ⟨rfl,b1⟩
 have hB:=bA.trans (b1.mono bA.size)
 clear b1 bA G
 go_wp2
 first | exact ⟨rfl,hB⟩ | (go_ret;exact ⟨rfl,hB⟩)
theorem results_ctt7 {fn:Func} {p u t:Tmp} {ty:TypeId} (h:fn.results=#[.cell p ty,.tmp u,.tmp t]) (tmps:Array Value) (P:Program) (w:World) :
  (results fn tmps).run P w=((asAddr (tmps.getD p undef)).run P w).andThen fun a w1=>((loadVar ty a).run P w1).andThen fun v w2=>.ok (.tuple #[v,tmps.getD u undef,tmps.getD t undef]) w2:=by
 simp only [results,h]
 simp [Sem.run_bind]
def DfA (w:World) (V:Int) (T:Tb) (f:Fo) (n:Nat) (e:Ending) (w':World):Prop :=
 ((¬ mayBe V T∧e=.returned (.tuple #[noTb,.int .i64 0,.int .i64 70]))∨(mayBe V T∧¬ inV V f∧e=.returned (.tuple #[noTb,.int .i64 0,.int .i64 61]))∨(mayBe V T∧inV V f∧V=65536∧e=.returned (.tuple #[noTb,.int .i64 0,.int .i64 2])))∧Below w.heap.size w w' ∨
 (mayBe V T∧inV V f∧V≠65536∧∃ v S,e=.returned (.tuple #[v,.int .i64 V,.int .i64 0])∧TbA w (V+1) S v w'∧NrmT (T ++ [(V,exF T f)]) (tb S)∧S.length≤n+1)
theorem Mvd.bk2 {b:Nat} {w w':World} (h:Mvd b w w') {c:Nat} {z:Int} {a:Option Addr} {n m:Nat} (hk:Bk2 w c z a n m) (hc:c≠b):Bk2 w' c z a n m:=by
 obtain ⟨t,ht⟩:=hk
 exact ⟨t,(h.block c hc).trans ht⟩
theorem exF_self (T:Tb) (f:Fo):nfm (exF T f)=exF T f:=by unfold exF;exact (nfm_self (nfm_nrm _)).symm
set_option maxHeartbeats 16000000 in
set_option maxRecDepth 100000 in
theorem pDefine_is (V:Int) (a:Option Addr) (c:Nat) (R:List RowV) (X:FV) (w:World) (hT:TIn w a R) (hc:R.length≤c) (hbu:bulT R≤1048576) (hw:∀ r∈R,wfo r.2.fo) (hX:X.sm w) (hwX:wfo X.fo)
  (hcost:∀ w1 g,RF w1 g (tb R)→∀ FL:List Mo,(∀ p∈FL,p.2.low)→fo FL=nfm X.fo→costL g FL≤2097152) :
  Calls Tryz.prog 30 #[.agg #[.int .i64 V,.slice a R.length c],X.val] w (DfA w V (tb R) X.fo R.length):=by
 obtain ⟨TQ,hTQ⟩:∃ TQ,DfA w V (tb R) X.fo R.length=TQ:=⟨_,rfl⟩
 rw [hTQ]
 replace hTQ:=xQ1 hTQ
 have hlen:3*R.length≤1048576:=by have:=bulT_len R;omega
 have GR:=xQ1 (fun w' (hb:Below w.heap.size w w')=>tabRead_is V a c R w' (hT.later hb) hc hbu hw)
 have GX:=xQ1 (fun w' (hb:Below w.heap.size w w') b g (hM:MapT w' b R.length g) (hG:RF w' g (tb R))=>pexpress_is V b R.length g (tb R) X w' hM hG (hX.later hb) hwX (hcost w' g hG))
 clear hT hw hX hwX hcost
 obtain ⟨f,hf⟩:∃ f,X.fo=f:=⟨_,rfl⟩
 rw [hf] at hTQ GX
 clear hf
 obtain ⟨Xv,hXv⟩:∃ v,X.val=v:=⟨_,rfl⟩
 rw [hXv] at GX ⊢
 clear hXv
 have b1:=xQ2 (w:=w) (.cells #[.int .i64 V,.slice a R.length c] 24)
 have b2:=xQ2 (w:=w.alloc (.cells #[.int .i64 V,.slice a R.length c] 24)) (.cells #[.int .i64 0,.slice none 0 0] 24)
 have m0:((w.alloc (.cells #[.int .i64 V,.slice a R.length c] 24)).alloc (.cells #[.int .i64 0,.slice none 0 0] 24)).cell? ⟨w.heap.size,0,none⟩=some (.int .i64 V):=by go_simp
 have m1:((w.alloc (.cells #[.int .i64 V,.slice a R.length c] 24)).alloc (.cells #[.int .i64 0,.slice none 0 0] 24)).cell? ⟨w.heap.size,1,none⟩=some (.slice a R.length c):=by go_simp
 have k2:Bk2 ((w.alloc (.cells #[.int .i64 V,.slice a R.length c] 24)).alloc (.cells #[.int .i64 0,.slice none 0 0] 24)) (w.heap.size+1) 0 none 0 0:=by have:=Bk2.new (w.alloc (.cells #[.int .i64 V,.slice a R.length c] 24)) 0 none 0 0 24;simpa using this
 have hsz:((w.alloc (.cells #[.int .i64 V,.slice a R.length c] 24)).alloc (.cells #[.int .i64 0,.slice none 0 0] 24)).heap.size=w.heap.size+1+1:=by simp
 have hBw:=b1.trans (b2.mono b1.size)
 clear b1 b2
 go_enter Tryz.func30,Tryz.ntmps30
 go_wp2_with fail
 obtain ⟨wA,hwA⟩:∃ wA,((w.alloc (.cells #[.int .i64 V,.slice a R.length c] 24)).alloc (.cells #[.int .i64 0,.slice none 0 0] 24))=wA:=⟨_,rfl⟩
 rw [hwA] at m0 m1 hBw k2 hsz ⊢
 clear hwA
 obtain ⟨rb,hrb⟩:∃ rb,w.heap.size+1=rb:=⟨_,rfl⟩
 rw [hrb] at k2 hsz
 try rw [hrb]
 have HQ:=xQ1 (show w.heap.size≤rb∧rb < wA.heap.size∧w.heap.size≠rb by omega)
 clear hrb hsz
 refine (GR.out _ hBw).mono ?_
 rintro e w1 ⟨b1,⟨hmb,rfl⟩ | ⟨hmb,b,g,rfl,hbb,hM,hRF⟩⟩
 ·skip
  replace m0:=xQ0 b1 m0
  replace m1:=xQ0 b1 m1
  replace k2:=k2.later b1
  replace hBw:=hBw.trans (b1.mono hBw.size)
  have hs1:=b1.size
  clear b1 GR
  have z0:=k2.cell0
  have z1:=k2.cell1
  have fz:=fun o=>k2.row.frozen o
  have HX:=xQ1 (show ∀ w',Below w.heap.size w w'→DfA w V (tb R) f R.length (.returned (.tuple #[noTb,.int .i64 0,.int .i64 70])) w' from fun w' hb=>Or.inl ⟨Or.inl ⟨hmb,rfl⟩,hb⟩)
  rw [hTQ.out] at HX
  clear hmb k2 GX
  go_wp2
  first | exact HX.out _ (by first | exact hBw | (refine Below.setCell (Below.setCell hBw ?_ _) ?_ _ <;> exact HQ.out.1)) | (refine bodyPost_ret (v:=.tuple #[noTb,.int .i64 0,.int .i64 70]) (by rw [results_ctt7 rfl];go_simp) rfl ?_;exact HX.out _ (by first | exact hBw | (refine Below.setCell (Below.setCell hBw ?_ _) ?_ _ <;> exact HQ.out.1)))
 ·skip
  replace m0:=xQ0 b1 m0
  replace m1:=xQ0 b1 m1
  replace k2:=k2.later b1
  replace hBw:=hBw.trans (b1.mono hBw.size)
  have hs1:=b1.size
  clear b1 GR
  have G2:=xQ1 (GX.out w1 hBw b g hM hRF)
  have HMB:=xQ1 hmb
  have HRF:=xQ1 hRF
  have HMg:=xQ1 hmb.basic
  have hgV:=xQ1 (show g V=none from hRF.miss.2 (lk_none.2 fun r hr e=>by have:=(hmb.basic r hr).2;omega))
  have hV:=xQ1 (show 0≤V∧V≤65536 from ⟨hmb.lo,hmb.hi⟩)
  clear hmb hRF GX HMg
  go_wp2_with fail
  refine G2.out.mono ?_
  rintro e w2 ⟨hb2,⟨hin,F,rfl,hfo,hnk⟩ | ⟨hin,rfl⟩⟩
  ·skip
   replace m0:=xQ0 hb2 m0
   replace m1:=xQ0 hb2 m1
   replace k2:=k2.later hb2
   replace hBw:=hBw.trans (hb2.mono hBw.size)
   have hM2:=hM.later hb2
   have hs2:=hb2.size
   replace HRF:=xQ1 (HRF.out.later hb2)
   clear hM hb2 G2
   have HIn:=xQ1 hin
   clear hin
   by_cases hv:V=65536
   ·have z0:=k2.cell0
    have z1:=k2.cell1
    have fz:=fun o=>k2.row.frozen o
    have HVV:=xQ1 hv
    rw [hv] at m0
    have HX:=xQ1 (show ∀ w',Below w.heap.size w w'→DfA w V (tb R) f R.length (.returned (.tuple #[noTb,.int .i64 0,.int .i64 2])) w' from fun w' hb=>Or.inl ⟨Or.inr (Or.inr ⟨HMB.out,HIn.out,HVV.out,rfl⟩),hb⟩)
    rw [hTQ.out] at HX
    clear hv k2 hM2 HRF HMB HIn
    go_wp2
    first | exact HX.out _ (by first | exact hBw | (refine Below.setCell (Below.setCell hBw ?_ _) ?_ _ <;> exact HQ.out.1)) | (refine bodyPost_ret (v:=.tuple #[noTb,.int .i64 0,.int .i64 2]) (by rw [results_ctt7 rfl];go_simp) rfl ?_;exact HX.out _ (by first | exact hBw | (refine Below.setCell (Below.setCell hBw ?_ _) ?_ _ <;> exact HQ.out.1)))
   ·have HVN:=xQ1 hv
    have hwV:wfI V:=by have:=hV.out;exact wfI_of (by omega) (by omega)
    have hkm:R.length < maxLen:=by simp only [maxLen];omega
    have HF0:=xQ1 hfo
    have HNk:=xQ1 hnk
    clear hfo hnk
    obtain ⟨Fa,Fc,FL⟩:=F
    unfold FV.val
    simp only
    have HGo:=xQ1 (fun w3 (hM3:MapI Tryz.prog 3 w3 b (R.length+1) (fput (mapf g) V (FV.val ⟨Fa,Fc,FL⟩))) (hd:Mvd b w2 w3)=>by
      rw [mapf_put] at hM3
      have hr3:RF w3 (gput g V ⟨Fa,Fc,FL⟩) (tb R ++ [(V,exF (tb R) f)]):=HRF.out.put hgV.out hd.kc (HNk.out.kc hd.kc) (by rw [HF0.out,exF_self])
      exact (⟨hr3,hM3⟩:RF w3 (gput g V ⟨Fa,Fc,FL⟩) (tb R ++ [(V,exF (tb R) f)])∧MapT w3 b (R.length+1) (gput g V ⟨Fa,Fc,FL⟩)))
    have HBs:=xQ1 hBw.size
    have HBe:=xQ1 (fun w3 (hd:Mvd b w2 w3)=>hBw.trans (hd.below (by have h1:=HQ.out;have h2:=hbb;have h3:=HBs.out;omega)))
    have hrb:rb≠b:=by have:=HQ.out;omega
    have hVs:=hV.out
    clear HRF HNk HF0 hgV hs2 hs1
    go_wp2_with (at_mapUpdate;refine wpList_put _ rfl _ _ _ _ rfl xZ9 xZ7 b R.length (mapf g) rfl hM2 hkm V rfl hwV (.slice Fa FL.length Fc) rfl ?_;intro w3 hM3 hd3)
    obtain ⟨hr3,G3⟩:=HGo.out w3 hM3 hd3
    have HR3:=xQ1 hr3
    replace hBw:=HBe.out w3 hd3
    replace m0:=hd3.cell m0
    replace k2:=hd3.bk2 k2 hrb
    have HMP:=xQ1 G3
    have hs3:=hd3.size
    have hq3:rb < w3.heap.size:=k2.lt
    clear hr3 G3 hM3 hd3 HGo HBe hM2 m1 hrb hs3
    go_wp2_with fail
    have bT:Below w3.heap.size w3 w3:=Below.refl _ _
    have GU:=xQ1 (fun w' (hb:Below w3.heap.size w3 w')=>(told_is (V+1) b (R.length+1) (gput g V ⟨Fa,Fc,FL⟩) w' (HMP.out.later hb) (by omega) (HR3.out.later hb).nk))
    have hwr:IntKind.i64.wrap (V+1)=V+1:=by rw [IntKind.wrap_i64];omega
    have bD:Below w3.heap.size w3 w3.drew:=(Below.refl _ _).drew
    have km0:=xQ0 bD m0
    replace hBw:=hBw.trans (bD.mono hBw.size)
    replace bT:=bT.trans (bD.mono bT.size)
    replace k2:=k2.later bD
    refine wp_region_held_drew (S:=fun w'=>w'.cell? ⟨w.heap.size,0,none⟩=some (.int .i64 V)) (by kernel_rfl) km0 (fun hHeld=>?_)
    clear km0
    generalize w3.drew=w4 at bD k2 hBw bT hHeld ⊢
    clear bD m0
    have hs4:=bT.size
    refine tk 0 (v:=?_) rfl (Or.inl ⟨by rfl,?_⟩) ?_
    rotate_left
    ·intro w9 hSw
     go_simp
     try with_reducible rfl
    simp only [pA]
    refine tk 1 (v:=?_) rfl (Or.inl ⟨by rfl,?_⟩) ?_
    rotate_left
    ·intro w9 hSw
     go_simp
     try with_reducible rfl
    simp only [pA]
    refine tk 2 (v:=?_) rfl (Or.inl ⟨by rfl,?_⟩) ?_
    rotate_left
    ·intro w9 hSw
     go_simp
     try with_reducible rfl
    simp only [pA]
    refine tk 3 (v:=?_) rfl (Or.inl ⟨by rfl,?_⟩) ?_
    rotate_left
    ·intro w9 hSw
     go_simp
     try with_reducible rfl
    simp only [pA]
    refine tk 5 (v:=?_) rfl (Or.inl ⟨by rfl,?_⟩) ?_
    rotate_left
    ·intro w9 hSw
     go_simp
     try with_reducible rfl
    simp only [pA]
    refine tk 6 (v:=?_) rfl (Or.inl ⟨by rfl,?_⟩) ?_
    rotate_left
    ·intro w9 hSw
     go_simp
     try with_reducible rfl
    simp only [pA]
    refine wpAnyH_ready (rs:=[4]) (by kernel_rfl) (by simp) ?_
    refine xX0 rfl (fun KK hKK=>?_)
    go_simp
    try rw [hwr]
    refine (GU.out _ bT).mono ?_
    rintro e w5 ⟨v,S,rfl,⟨⟨ar,cr,rfl,hn,hl,hff⟩,hb5,hr⟩,hSl,hlk⟩
    have HNR:=xQ1 (nrmT_of HR3.out hlk hr)
    have hq4:rb < w4.heap.size:=by omega
    have hw4:=hBw.size
    have HSl:=xQ1 hSl
    clear hSl hlk
    have bC:=hb5
    replace hBw:=hBw.trans (bC.mono hBw.size)
    replace bT:=bT.trans (bC.mono bT.size)
    replace k2:=k2.later bC
    replace hHeld:=xQ0 bC hHeld
    clear bC hb5 GU HMP
    go_wp2_with fail
    refine hKK.out _ _ hHeld ?_
    clear hHeld
    intro hHeld
    clear hKK KK
    try simp only [pA]
    refine wpAnyH_ready (rs:=[7]) (by kernel_rfl) (by simp) ?_
    refine xX0 rfl (fun KK hKK=>?_)
    have HX:=xQ1 (show DfA w V (tb R) f R.length (.returned (.tuple #[.agg #[.int .i64 (V+1),.slice ar S.length cr],.int .i64 V,.int .i64 0])) ((w5.setCell ⟨rb,0,none⟩ (.int .i64 (V+1))).setCell ⟨rb,1,none⟩ (.slice ar S.length cr)) from Or.inr ⟨HMB.out,HIn.out,HVN.out,_,S,rfl,TbA.store hn hl hff hw4 hBw hr k2 hq4 HQ.out.1,HNR.out,HSl.out⟩)
    rw [hTQ.out] at HX
    have z0:=k2.cell0
    have z1:=k2.cell1
    have fz:=fun o=>k2.row.frozen o
    have hH2:=far1 (q:=rb) (o:=1) (u:=.slice ar S.length cr) (far1 (q:=rb) (o:=0) (u:=.int .i64 (V+1)) hHeld HQ.out.2.2) HQ.out.2.2
    have hy0:((w5.setCell ⟨rb,0,none⟩ (.int .i64 (V+1))).setCell ⟨rb,1,none⟩ (.slice ar S.length cr)).cell? ⟨rb,0,none⟩=some (.int .i64 (V+1)):=(World.cell?_setCell_other _ _ _ _ (fun e=>by simp at e)).trans (World.cell?_setCell_same _ _ _ z0)
    have hy1:((w5.setCell ⟨rb,0,none⟩ (.int .i64 (V+1))).setCell ⟨rb,1,none⟩ (.slice ar S.length cr)).cell? ⟨rb,1,none⟩=some (.slice ar S.length cr):=World.cell?_setCell_same _ _ _ ((World.cell?_setCell_other _ _ _ _ (fun e=>by simp at e)).trans z1)
    clear hn hl hff hr k2 hBw bT
    go_simp
    refine hKK.out _ _ hH2 ?_
    clear hHeld
    intro hHeld
    clear hKK KK
    try simp only [pA]
    clear hH2 z0 z1 fz
    generalize ((w5.setCell ⟨rb,0,none⟩ (.int .i64 (V+1))).setCell ⟨rb,1,none⟩ (.slice ar S.length cr))=w7 at HX hy0 hy1 hHeld ⊢
    refine tk 8 (v:=?_) rfl (Or.inl ⟨by rfl,?_⟩) ?_
    rotate_left
    ·intro w9 hSw
     go_simp
     try with_reducible rfl
    simp only [pA]
    refine tk 9 (v:=?_) rfl (Or.inl ⟨by rfl,?_⟩) ?_
    rotate_left
    ·intro w9 hSw
     go_simp
     try with_reducible rfl
    simp only [pA]
    refine wpAnyH_done (by kernel_rfl) ?_ _
    go_wp2
    first | exact HX.out | (refine bodyPost_ret (v:=.tuple #[.agg #[.int .i64 (V+1),.slice ar S.length cr],.int .i64 V,.int .i64 0]) (by rw [results_ctt7 rfl];go_simp) rfl ?_;exact HX.out)
  ·skip
   replace m0:=xQ0 hb2 m0
   replace m1:=xQ0 hb2 m1
   replace k2:=k2.later hb2
   replace hBw:=hBw.trans (hb2.mono hBw.size)
   have hM2:=hM.later hb2
   have hs2:=hb2.size
   replace HRF:=xQ1 (HRF.out.later hb2)
   clear hM hb2 G2
   have z0:=k2.cell0
   have z1:=k2.cell1
   have fz:=fun o=>k2.row.frozen o
   have HX:=xQ1 (show ∀ w',Below w.heap.size w w'→DfA w V (tb R) f R.length (.returned (.tuple #[noTb,.int .i64 0,.int .i64 61])) w' from fun w' hb=>Or.inl ⟨Or.inr (Or.inl ⟨HMB.out,hin,rfl⟩),hb⟩)
   rw [hTQ.out] at HX
   clear hin k2 hM2 HRF HMB
   go_wp2
   first | exact HX.out _ (by first | exact hBw | (refine Below.setCell (Below.setCell hBw ?_ _) ?_ _ <;> exact HQ.out.1)) | (refine bodyPost_ret (v:=.tuple #[noTb,.int .i64 0,.int .i64 61]) (by rw [results_ctt7 rfl];go_simp) rfl ?_;exact HX.out _ (by first | exact hBw | (refine Below.setCell (Below.setCell hBw ?_ _) ?_ _ <;> exact HQ.out.1)))
def oneQ (p q:Option Addr):RatV:=⟨false,p,1,1,1,q,1,1,1⟩
theorem oneQ_eq (p q:Option Addr):oneQ p q=RatV.of (1:Rat).num (1:Rat).den p q:=by
 show oneQ p q=RatV.of (1:Int) (1:Nat) p q
 unfold oneQ RatV.of
 rw [show am 1=1 from rfl,ln_one]
 rfl
theorem oneQ_val (p q:Option Addr):(oneQ p q).val=1:=by rw [oneQ_eq];exact val_ofR 1 p q
theorem oneQ_low (p q:Option Addr):(oneQ p q).low:=by rw [oneQ_eq];exact ofR_low 1 p q
structure OneQ (w:World) (B:Nat) (Q:RatV):Prop where
 ok:Q.ok w
 low:Q.low
 frm:Q.frm B
 val:Q.val=1
 n:Q.n=1
 m:Q.m=1
theorem OneQ.later {w w':World} {B:Nat} {Q:RatV} (h:OneQ w B Q) (hb:Below w.heap.size w w'):OneQ w' B Q:=⟨okR_kc h.ok (Kc.of hb),h.low,h.frm,h.val,h.n,h.m⟩
theorem OneQ.of {w:World} {B:Nat} {p q:Option Addr} (s1:Seg w p 1 1) (s2:Seg w q 1 1) (f1:∀ ad,p=some ad→B≤ad.block) (f2:∀ ad,q=some ad→B≤ad.block):OneQ w B (oneQ p q) :=
 ⟨⟨s1,Nat.le_refl _,by show 1≤_;omega,s2,Nat.le_refl _,by show 1≤_;omega⟩,oneQ_low p q,⟨fun _=>f1,fun _=>f2⟩,oneQ_val p q,rfl,rfl⟩
def MoA (v:Int) (w:World) (e:Ending) (w':World):Prop:=∃ Q:RatV,e=.returned (.agg #[.int .i64 v,.bool Q.s,.slice Q.a Q.n Q.c,.slice Q.b Q.m Q.e])∧OneQ w' w.heap.size Q∧Below w.heap.size w w'
set_option maxHeartbeats 4000000 in
set_option maxRecDepth 100000 in
theorem mono1_is (v:Int) (w:World):Calls Tryz.prog 31 #[.int .i64 v,.int .i64 1] w (MoA v w):=by
 obtain ⟨TQ,hTQ⟩:∃ TQ,MoA v w=TQ:=⟨_,rfl⟩
 rw [hTQ]
 replace hTQ:=xQ1 hTQ
 have G:=xQ1 (fun w'=>(show Calls Tryz.prog 49 #[.int .i64 1] w' fun e w''=>∃ p q,e=.returned (.agg #[.bool false,.slice p 1 1,.slice q 1 1])∧New w' w'' p 1 1∧New w' w'' q 1 1 from by have h:=vqWhole_is 1 w' (by omega) (by omega);rw [show ng 1=false from rfl,show am 1=1 from rfl,ln_one] at h;exact h))
 have b1:=xQ2 (w:=w) (.cells #[.int .i64 0,.bool false,.slice none 0 0,.slice none 0 0] 57)
 have r1:=four_new w (.int .i64 0) (.bool false) (.slice none 0 0) (.slice none 0 0) 57
 go_enter Tryz.func31,Tryz.ntmps31
 go_wp2_with fail
 obtain ⟨wA,hwA⟩:∃ wA,w.alloc (.cells #[.int .i64 0,.bool false,.slice none 0 0,.slice none 0 0] 57)=wA:=⟨_,rfl⟩
 rw [hwA] at b1 r1 ⊢
 clear hwA
 refine (G.out _).mono ?_
 rintro e w1 ⟨p,q,rfl,n1,n2⟩
 have hB:=b1.trans (n1.below.mono b1.size)
 replace r1:=r1.later n1.below
 have HX:=xQ1 (show MoA v w (.returned (.agg #[.int .i64 v,.bool false,.slice p 1 1,.slice q 1 1])) (set4 w1 w.heap.size (.int .i64 v) (.bool false) (.slice p 1 1) (.slice q 1 1)) from ⟨oneQ p q,rfl,OneQ.of (r1.seg (u0:=.int .i64 v) (u1:=.bool false) (u2:=.slice p 1 1) (u3:=.slice q 1 1) (by simp) (by simp) (by simp) (by simp) n1.seg) (r1.seg (u0:=.int .i64 v) (u1:=.bool false) (u2:=.slice p 1 1) (u3:=.slice q 1 1) (by simp) (by simp) (by simp) (by simp) n2.seg) (fun ad e=>Nat.le_trans b1.size (n1.fr (by omega) ad e)) (fun ad e=>Nat.le_trans b1.size (n2.fr (by omega) ad e)),below_set4 (u0:=.int .i64 v) (u1:=.bool false) (u2:=.slice p 1 1) (u3:=.slice q 1 1) hB (Nat.le_refl _)⟩)
 rw [hTQ.out] at HX
 have vN2:=r1.put (u0:=.int .i64 v) (u1:=.bool false) (u2:=.slice p 1 1) (u3:=.slice q 1 1)
 have z0:=r1.1.1
 have z1:=r1.1.2.1
 have z2:=r1.1.2.2.1
 have z3:=r1.1.2.2.2
 have fz:=fun o=>r1.2.frozen o
 clear n1 n2 hB b1 r1 G
 have y0:=vN2.1.1
 have y1:=vN2.1.2.1
 have y2:=vN2.1.2.2.1
 have y3:=vN2.1.2.2.2
 clear vN2
 unfold set4 at HX y0 y1 y2 y3
 go_wp2_with fail
 clear z0 z1 z2 z3 fz
 generalize ((((w1.setCell ⟨w.heap.size,0,none⟩ (.int .i64 v)).setCell ⟨w.heap.size,1,none⟩ (.bool false)).setCell ⟨w.heap.size,2,none⟩ (.slice p 1 1)).setCell ⟨w.heap.size,3,none⟩ (.slice q 1 1))=w9 at HX y0 y1 y2 y3 ⊢
 go_wp2
 first | exact HX.out | (refine bodyPost_ret (v:=.agg #[.int .i64 v,.bool false,.slice p 1 1,.slice q 1 1]) (by rw [xQ5 rfl];go_simp) rfl ?_;exact HX.out)
theorem nfm_ab:nfm [((1:Int),(1:Rat)),(0,1)]=[(0,1),(1,1)]:=(nfm_uniq ⟨by simp,fun p hp=>by simp at hp;rcases hp with rfl | rfl <;> exact (by decide)⟩ fun x=>by simp only [co];grind).symm
theorem exL_nil:∀ l:Fo,exL [] l=l
 | []=>rfl
 | p :: l=>by
  simp only [exL,exL_nil l]
  show fmap (fun r=>p.2*r) [(p.1,1)] ++ l=p :: l
  simp [fmap,Rat.mul_one]
theorem exF_two:exF [] [((1:Int),(1:Rat)),(0,1)]=[(0,1),(1,1)]:=by
 unfold exF
 rw [exL_nil,nfm_ab,←nfm_ab]
 exact (nfm_self (nfm_nrm _)).symm
theorem one_len {q:RatV} (h:q.low) (hv:q.val=1):q.n=1∧q.m=1:=by
 have e:=low_val h
 rw [hv] at e
 rw [e]
 exact ⟨ln_one,ln_one⟩
theorem cost_ones {g:Int→Option FV}:∀ {FL:List Mo},(∀ p∈FL,g p.1=none)→(∀ p∈FL,p.2.low)→(∀ p∈FL,p.2.val=1)→costL g FL=7*FL.length
 | [],_,_,_=>rfl
 | p :: FL,h1,h2,h3=>by
  have e:=one_len (h2 p List.mem_cons_self) (h3 p List.mem_cons_self)
  simp only [costL,cost_ones (fun q hq=>h1 q (List.mem_cons_of_mem _ hq)) (fun q hq=>h2 q (List.mem_cons_of_mem _ hq)) (fun q hq=>h3 q (List.mem_cons_of_mem _ hq)),cost1,h1 p List.mem_cons_self,e.1,e.2,List.length_cons]
  omega
theorem cost_two {w1:World} {g:Int→Option FV} (hG:RF w1 g []) {FL:List Mo} (hl:∀ p∈FL,p.2.low) (hf:fo FL=nfm [((1:Int),(1:Rat)),(0,1)]):costL g FL≤2097152:=by
 rw [nfm_ab] at hf
 have hlen:FL.length=2:=by have:=congrArg List.length hf;rw [xX3] at this;simpa using this
 rw [cost_ones (fun p hp=>hG.miss.2 rfl) hl fun p hp=>?_,hlen]
 ·omega
 ·have:(p.1,p.2.val)∈fo FL:=List.mem_map.2 ⟨p,hp,rfl⟩
  rw [hf] at this
  simp at this
  rcases this with h | h <;> exact h.2
theorem two_at {w:World} {b:Nat} {x y:Int} {P Q:RatV} {t:TypeId} (h:w.heap[b]?=some (.cells #[.int .i64 x,.bool P.s,.slice P.a P.n P.c,.slice P.b P.m P.e,.int .i64 y,.bool Q.s,.slice Q.a Q.n Q.c,.slice Q.b Q.m Q.e] t (0,0))):FAt w (some ⟨b,0,none⟩) [(x,P),(y,Q)]:=fun _=>by
 refine ⟨b,0,rfl,(Array.getElem?_eq_some_iff.1 h).1,fun i p hi=>?_⟩
 match i with
 | 0 =>
  simp only [List.getElem?_cons_zero,Option.some.injEq] at hi
  subst hi
  refine ⟨?_,?_,?_,?_⟩ <;> simp [World.cell?,h]
 | 1 =>
  simp only [List.getElem?_cons_succ,List.getElem?_cons_zero,Option.some.injEq] at hi
  subst hi
  refine ⟨?_,?_,?_,?_⟩ <;> simp [World.cell?,h]
 | i+2=>simp at hi
theorem two_nk {w:World} {b:Nat} {x y:Int} {P Q:RatV} {B C:Nat} (h:FAt w (some ⟨b,0,none⟩) [(x,P),(y,Q)]) (hP:OneQ w B P) (hQ:OneQ w C Q):FV.nk w ⟨some ⟨b,0,none⟩,2,[(x,P),(y,Q)]⟩:=by
 refine ⟨⟨h,Nat.le_refl _,fun h=>(by cases h)⟩,fun p hp=>?_⟩
 simp at hp
 rcases hp with rfl | rfl
 ·exact ⟨hP.ok,hP.low⟩
 ·exact ⟨hQ.ok,hQ.low⟩
theorem two_fo {b:Nat} {x y:Int} {P Q:RatV} {w:World} {B C:Nat} (hP:OneQ w B P) (hQ:OneQ w C Q):(FV.mk (some ⟨b,0,none⟩) 2 [(x,P),(y,Q)]).fo=[(x,1),(y,1)]:=by
 show [(x,P.val),(y,Q.val)]=_
 rw [hP.val,hQ.val]
theorem two_sm {w:World} {b:Nat} {x y:Int} {P Q:RatV} {B C:Nat} (h:FAt w (some ⟨b,0,none⟩) [(x,P),(y,Q)]) (hP:OneQ w B P) (hQ:OneQ w C Q):FV.sm w ⟨some ⟨b,0,none⟩,2,[(x,P),(y,Q)]⟩ :=
 ⟨(two_nk h hP hQ).ok,by simp only [bul,hP.n,hP.m,hQ.n,hQ.m];omega⟩
theorem row_at {w:World} {b:Nat} {x:Int} {F:FV} {t:TypeId} (h:w.heap[b]?=some (.cells #[.int .i64 x,F.val] t (0,0))):TAt w (some ⟨b,0,none⟩) [(x,F)]:=fun _=>by
 refine ⟨b,0,rfl,(Array.getElem?_eq_some_iff.1 h).1,fun i p hi=>?_⟩
 match i with
 | 0 =>
  simp only [List.getElem?_cons_zero,Option.some.injEq] at hi
  subst hi
  refine ⟨?_,?_⟩ <;> simp [World.cell?,h]
 | i+1=>simp at hi
def DfB (w:World) (e:Ending) (w':World):Prop:=∃ (a:Option Addr) (c:Nat) (S:List RowV),e=.returned (.tuple #[.agg #[.int .i64 3,.slice a S.length c],.int .i64 2,.int .i64 0])∧TNk w' a S∧S.length≤c∧S.length≤1∧tb S=[(2,[(0,1),(1,1)])]∧Below w.heap.size w w'∧∀ ad,a=some ad→S≠[]→w.heap.size≤ad.block
theorem define2_is {w:World} {b:Nat} {P Q:RatV} {B C:Nat} (h:FAt w (some ⟨b,0,none⟩) [(1,P),(0,Q)]) (hP:OneQ w B P) (hQ:OneQ w C Q) :
  Calls Tryz.prog 30 #[.agg #[.int .i64 2,.slice none 0 0],.slice (some ⟨b,0,none⟩) 2 2] w (DfB w):=by
 have hfo:=two_fo (b:=b) (x:=1) (y:=0) hP hQ
 have hmb:mayBe 2 (tb ([]:List RowV)):=⟨by omega,by omega,List.Pairwise.nil,fun r hr=>absurd hr (by simp [tb]),fun r hr=>absurd hr (by simp [tb])⟩
 have hin:inV 2 (FV.mk (some ⟨b,0,none⟩) 2 [(1,P),(0,Q)]).fo:=by
  rw [hfo]
  unfold inV
  rw [nfm_ab]
  intro p hp
  simp at hp
  rcases hp with rfl | rfl <;> simp
 have H:=pDefine_is 2 none 0 [] ⟨some ⟨b,0,none⟩,2,[(1,P),(0,Q)]⟩ w ⟨fun hn=>absurd rfl hn,fun r hr=>absurd hr (by simp),fun r hr=>absurd hr (by simp)⟩ (Nat.le_refl _) (by simp [bulT]) (fun r hr=>absurd hr (by simp)) (two_sm h hP hQ)
  (by rw [hfo];intro p hp;simp at hp;rcases hp with rfl | rfl <;> exact wfI_of (by omega) (by omega))
  (fun w1 g hG FL hl hf=>by rw [hfo] at hf;exact cost_two hG hl hf)
 refine H.mono ?_
 rintro e w' (⟨(⟨h1,_⟩ | ⟨_,h1,_⟩ | ⟨_,_,h1,_⟩),_⟩ | ⟨_,_,_,v,S,rfl,⟨⟨a,c,rfl,hn,hl,hf⟩,hb,hr⟩,hN,hSl⟩)
 ·exact absurd hmb h1
 ·exact absurd hin h1
 ·exact absurd h1 (by decide)
 ·refine ⟨a,c,S,rfl,hn,hl,hSl,?_,hb,hf⟩
  refine hN.uniq ⟨List.pairwise_singleton _ _,fun v=>?_⟩
  rw [hfo]
  show lk [(2,[(0,1),(1,1)])] v=(lk [(2,exF [] [((1:Int),(1:Rat)),(0,1)])] v).map nfm
  rw [exF_two]
  simp only [lk]
  split
  ·show some _=some (nfm _)
   rw [←nfm_ab,←nfm_self (nfm_nrm _)]
  ·rfl
end Go.Proofs.YtgfmaejhdbmkoaaGreat
