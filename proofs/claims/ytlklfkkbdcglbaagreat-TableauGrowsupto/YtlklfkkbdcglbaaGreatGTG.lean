import Derived.Test.YtlklfkkbdcglbaaGreatGTC
import Derived.Test.YtlklfkkbdcglbaaGreatWO7
import Derived.Test.YtlklfkkbdcglbaaGreatGTF
set_option linter.unusedSimpArgs false
namespace Go.Proofs.YtlklfkkbdcglbaaGreat
open Go.RowKit
set_option linter.unusedVariables false
theorem nrmT_of {w:World} {g:Int→Option FV} {T:Tb} {S:List RowV} (h:RF w g T) (hs:∀ x,lk S x=g x) (hr:rising S):NrmT T (tb S) :=
 ⟨by unfold rising tb;exact List.pairwise_map.2 hr,fun v=>by rw [tb_lk,hs v,h.says v]⟩
set_option maxHeartbeats 8000000 in
set_option maxRecDepth 100000 in
theorem SameForm7_is (a:Option Addr) (ca:Nat) (L:List Mo) (b:Option Addr) (cb:Nat) (M:List Mo) (w:World) (hF:FAt w a L) (hG:FAt w b M) (hE:∀ p∈L,Ent w p) (hE2:∀ p∈M,Ent w p) (hca:L.length≤ca) (hcb:M.length≤cb) (hm:L.length≤2097152) (hfo:fo L=fo M) :
  Calls Tryz.prog 25 #[.slice a L.length ca,.slice b M.length cb] w fun e w'=>e=.returned (.bool true)∧Below w.heap.size w w':=by
 have hl:M.length=L.length:=by have h:=congrArg List.length hfo;rw [xQ8,xQ8] at h;exact h.symm
 rw [hl]
 have HF:=xQ2 hfo
 have HL:=xQ2 hl
 rw [hl] at hcb
 clear hfo hl
 go_enter Tryz.func25,Tryz.ntmps25
 go_wp2_with fail
 go_loopw [5] (fun vi wr=>∃ k:Nat,k≤L.length∧vi=.int .i64 k∧Below w.heap.size w wr) (fun vi _=>L.length - (intOf vi).toNat)
 case atStart=>exact ⟨0,Nat.zero_le _,rfl,Below.refl _ _⟩
 case round =>
  obtain ⟨k,hk,rfl,hB⟩:=hrel
  by_cases hlt:k < L.length
  ·obtain ⟨p,hp⟩:∃ p,L[k]?=some p:=⟨L[k],List.getElem?_eq_getElem hlt⟩
   obtain ⟨q,hq⟩:∃ q,M[k]?=some q:=⟨M[k]'(by rw [HL.out];exact hlt),List.getElem?_eq_getElem _⟩
   have hpq:(p.1,p.2.val)=(q.1,q.2.val):=by
    have h1:(fo L)[k]?=some (p.1,p.2.val):=by unfold fo;rw [List.getElem?_map,hp];rfl
    have h2:(fo M)[k]?=some (q.1,q.2.val):=by unfold fo;rw [List.getElem?_map,hq];rfl
    rw [HF.out,h2] at h1
    exact (Option.some.inj h1).symm
   obtain ⟨b1,o1,rfl,hb1,hcell⟩:=hF (by intro e;rw [e] at hlt;simp at hlt)
   obtain ⟨b2,o2,rfl,hb2,hcell2⟩:=hG (by intro e;have:=HL.out;rw [e] at this;simp at this;omega)
   obtain ⟨c0,c1,c2,c3⟩:=hcell k p hp
   obtain ⟨d0,d1,d2,d3⟩:=hcell2 k q hq
   have ep:=(hE p (List.mem_of_getElem? hp)).later hB
   have eq:=(hE2 q (List.mem_of_getElem? hq)).later hB
   clear hp hq hcell hcell2
   obtain ⟨x,P⟩:=p
   obtain ⟨y,Q⟩:=q
   simp only [Prod.mk.injEq] at hpq
   obtain ⟨rfl,hv⟩:=hpq
   simp only at c0 c1 c2 c3 d0 d1 d2 d3
   replace c0:=xQ0 hB c0
   replace c1:=xQ0 hB c1
   replace c2:=xQ0 hB c2
   replace c3:=xQ0 hB c3
   replace d0:=xQ0 hB d0
   replace d1:=xQ0 hB d1
   replace d2:=xQ0 hB d2
   replace d3:=xQ0 hB d3
   have okP:P.ok wr:=ep.ok
   have okQ:Q.ok wr:=eq.ok
   have eP:=low_val (show P.low from ep.low)
   have eQ:=low_val (show Q.low from eq.low)
   rw [←hv] at eQ
   clear ep eq
   obtain ⟨r,hr⟩:∃ r,P.val=r:=⟨_,rfl⟩
   rw [hr] at eP eQ
   clear hr hv
   obtain ⟨pa,hpa⟩:∃ pa,P.a=pa:=⟨_,rfl⟩
   obtain ⟨pb,hpb⟩:∃ pb,P.b=pb:=⟨_,rfl⟩
   obtain ⟨qa,hqa⟩:∃ qa,Q.a=qa:=⟨_,rfl⟩
   obtain ⟨qb,hqb⟩:∃ qb,Q.b=qb:=⟨_,rfl⟩
   rw [hpa,hpb] at eP
   rw [hqa,hqb] at eQ
   clear hpa hpb hqa hqb
   subst eP eQ
   simp only [RatV.of] at c1 c2 c3 d1 d2 d3
   have g1:Seg wr pa (am r.num) (ln (am r.num)):=okP.1
   have g2:Seg wr pb r.den (ln r.den):=okP.2.2.2.1
   have g3:Seg wr qa (am r.num) (ln (am r.num)):=okQ.1
   have g4:Seg wr qb r.den (ln r.den):=okQ.2.2.2.1
   have l1:ln (am r.num)≤35184372087808:=okP.2.2.1
   have l2:ln r.den≤35184372087808:=okP.2.2.2.2.2
   clear okP okQ
   have GS:=xQ2 (fun w' k1 k2 k3 k4=>SameQ_is r.num r.den pa pb qa qb w' (by omega) (by omega) k1 k2 k3 k4)
   have i1:(0:Int)≤(k:Int):=by omega
   have i2:(k:Int) < (L.length:Int):=by omega
   go_wp2_with fail
   have bD:Below wr.heap.size wr wr.drew:=(Below.refl _ _).drew
   have kc0:=xQ0 bD c0
   have kc1:=xQ0 bD c1
   have kc2:=xQ0 bD c2
   have kc3:=xQ0 bD c3
   have kd0:=xQ0 bD d0
   have kd1:=xQ0 bD d1
   have kd2:=xQ0 bD d2
   have kd3:=xQ0 bD d3
   replace hB:=hB.trans (bD.mono hB.size)
   replace g1:=g1.later bD
   replace g2:=g2.later bD
   replace g3:=g3.later bD
   replace g4:=g4.later bD
   refine wp_region_held_drew (S:=fun w'=>w'.cell? ⟨b1,o1+k*4,none⟩=some (.int .i64 x)∧w'.cell? ⟨b1,o1+k*4+1,none⟩=some (.bool (ng r.num))∧w'.cell? ⟨b1,o1+k*4+1+1,none⟩=some (.slice pa (ln (am r.num)) (ln (am r.num)))∧w'.cell? ⟨b1,o1+k*4+1+2,none⟩=some (.slice pb (ln r.den) (ln r.den))∧w'.cell? ⟨b2,o2+k*4,none⟩=some (.int .i64 x)∧w'.cell? ⟨b2,o2+k*4+1,none⟩=some (.bool (ng r.num))∧w'.cell? ⟨b2,o2+k*4+1+1,none⟩=some (.slice qa (ln (am r.num)) (ln (am r.num)))∧w'.cell? ⟨b2,o2+k*4+1+2,none⟩=some (.slice qb (ln r.den) (ln r.den))) (by kernel_rfl) ⟨kc0,kc1,kc2,kc3,kd0,kd1,kd2,kd3⟩ (fun hHeld=>?_)
   clear kc0 kc1 kc2 kc3 kd0 kd1 kd2 kd3
   generalize wr.drew=w0 at bD g1 g2 g3 g4 hB hHeld ⊢
   clear bD c0 c1 c2 c3 d0 d1 d2 d3
   refine tk 0 (v:=?_) rfl (Or.inl ⟨by rfl,?_⟩) ?_
   rotate_left
   ·intro w9 hSw
    go_simp
    try with_reducible rfl
   simp only [pA]
   refine tk 1 (v:=?_) rfl (Or.inl ⟨by rfl,?_⟩) ?_
   rotate_left
   ·intro w9 hSw
    go_simp
    try with_reducible rfl
   simp only [pA]
   refine tk 2 (v:=?_) rfl (Or.inl ⟨by rfl,?_⟩) ?_
   rotate_left
   ·intro w9 hSw
    go_simp
    try with_reducible rfl
   simp only [pA]
   refine tk 3 (v:=?_) rfl (Or.inl ⟨by rfl,?_⟩) ?_
   rotate_left
   ·intro w9 hSw
    go_simp
    try with_reducible rfl
   simp only [pA]
   refine tk 4 (v:=?_) rfl (Or.inl ⟨by rfl,?_⟩) ?_
   rotate_left
   ·intro w9 hSw
    go_simp
    try with_reducible rfl
   simp only [pA]
   refine tk 5 (v:=?_) rfl (Or.inl ⟨by rfl,?_⟩) ?_
   rotate_left
   ·intro w9 hSw
    go_simp
    try with_reducible rfl
   simp only [pA]
   refine tk 6 (v:=?_) rfl (Or.inl ⟨by rfl,?_⟩) ?_
   rotate_left
   ·intro w9 hSw
    go_simp
    try with_reducible rfl
   simp only [pA]
   refine tk 7 (v:=?_) rfl (Or.inl ⟨by rfl,?_⟩) ?_
   rotate_left
   ·intro w9 hSw
    go_simp
    try with_reducible rfl
   simp only [pA]
   refine tk 8 (v:=?_) rfl (Or.inl ⟨by rfl,?_⟩) ?_
   rotate_left
   ·intro w9 hSw
    go_simp
    try with_reducible rfl
   simp only [pA]
   refine tk 9 (v:=?_) rfl (Or.inl ⟨by rfl,?_⟩) ?_
   rotate_left
   ·intro w9 hSw
    go_simp
    try with_reducible rfl
   simp only [pA]
   refine tk 10 (v:=?_) rfl (Or.inl ⟨by rfl,?_⟩) ?_
   rotate_left
   ·intro w9 hSw
    go_simp
    try with_reducible rfl
   simp only [pA]
   refine tk 11 (v:=?_) rfl (Or.inl ⟨by rfl,?_⟩) ?_
   rotate_left
   ·intro w9 hSw
    go_simp
    try with_reducible rfl
   simp only [pA]
   refine tk 12 (v:=?_) rfl (Or.inl ⟨by rfl,?_⟩) ?_
   rotate_left
   ·intro w9 hSw
    go_simp
    try with_reducible rfl
   simp only [pA]
   refine tk 13 (v:=?_) rfl (Or.inl ⟨by rfl,?_⟩) ?_
   rotate_left
   ·intro w9 hSw
    go_simp
    try with_reducible rfl
   simp only [pA]
   refine tk 14 (v:=?_) rfl (Or.inl ⟨by rfl,?_⟩) ?_
   rotate_left
   ·intro w9 hSw
    go_simp
    try with_reducible rfl
   simp only [pA]
   refine tk 15 (v:=?_) rfl (Or.inl ⟨by rfl,?_⟩) ?_
   rotate_left
   ·intro w9 hSw
    go_simp
    try with_reducible rfl
   simp only [pA]
   refine tk 16 (v:=?_) rfl (Or.inl ⟨by rfl,?_⟩) ?_
   rotate_left
   ·intro w9 hSw
    go_simp
    try with_reducible rfl
   simp only [pA]
   refine tk 17 (v:=?_) rfl (Or.inl ⟨by rfl,?_⟩) ?_
   rotate_left
   ·intro w9 hSw
    go_simp
    try with_reducible rfl
   simp only [pA]
   refine tk 18 (v:=?_) rfl (Or.inl ⟨by rfl,?_⟩) ?_
   rotate_left
   ·intro w9 hSw
    go_simp
    try with_reducible rfl
   simp only [pA]
   refine tk 19 (v:=?_) rfl (Or.inl ⟨by rfl,?_⟩) ?_
   rotate_left
   ·intro w9 hSw
    go_simp
    try with_reducible rfl
   simp only [pA]
   refine tk 20 (v:=?_) rfl (Or.inl ⟨by rfl,?_⟩) ?_
   rotate_left
   ·intro w9 hSw
    go_simp
    try with_reducible rfl
   simp only [pA]
   refine tk 21 (v:=?_) rfl (Or.inl ⟨by rfl,?_⟩) ?_
   rotate_left
   ·intro w9 hSw
    go_simp
    try with_reducible rfl
   simp only [pA]
   refine wpAnyH_ready (rs:=[22]) (by kernel_rfl) (by simp) ?_
   refine xX1 rfl (fun KK hKK=>?_)
   go_simp
   refine (GS.out _ g1 g2 g3 g4).mono ?_
   rintro e w2 ⟨rfl,b2⟩
   have bC:=b2
   replace hB:=hB.trans (bC.mono hB.size)
   replace g1:=g1.later bC
   replace g2:=g2.later bC
   replace g3:=g3.later bC
   replace g4:=g4.later bC
   replace hHeld:=(⟨xQ0 bC hHeld.1,xQ0 bC hHeld.2.1,xQ0 bC hHeld.2.2.1,xQ0 bC hHeld.2.2.2.1,xQ0 bC hHeld.2.2.2.2.1,xQ0 bC hHeld.2.2.2.2.2.1,xQ0 bC hHeld.2.2.2.2.2.2.1,xQ0 bC hHeld.2.2.2.2.2.2.2⟩:_∧_∧_∧_∧_∧_∧_∧_)
   clear bC
   go_wp2_with fail
   clear b2 GS
   refine hKK.out _ _ hHeld ?_
   clear hHeld
   intro hHeld
   clear hKK KK
   try simp only [pA]
   refine tk 23 (v:=?_) rfl (Or.inl ⟨by rfl,?_⟩) ?_
   rotate_left
   ·intro w9 hSw
    go_simp
    try with_reducible rfl
   simp only [pA]
   refine tk 24 (v:=?_) rfl (Or.inl ⟨by rfl,?_⟩) ?_
   rotate_left
   ·intro w9 hSw
    go_simp
    try with_reducible rfl
   simp only [pA]
   refine wpAnyH_done (by kernel_rfl) ?_ _
   go_wp2
   go_roundw
   case rel=>exact ⟨k+1,by omega,by go_num,hB⟩
   case measure=>simp [intOf];omega
  ·obtain rfl:k=L.length:=by omega
   have i1:¬ (L.length:Int) < (L.length:Int):=by omega
   go_wp2
   go_ret
   exact ⟨rfl,hB⟩
set_option maxHeartbeats 8000000 in
set_option maxRecDepth 100000 in
theorem Alike_is (V:Int) (a:Option Addr) (c:Nat) (R:List RowV) (b:Option Addr) (d:Nat) (S:List RowV) (w:World) (hR:TNk w a R) (hS:TNk w b S) (hc:R.length≤c) (hd:S.length≤d) (hm:R.length≤1048576) (hfl:∀ r∈R,r.2.L.length≤2097152) (hfo:tb R=tb S) :
  Calls Tryz.prog 43 #[.agg #[.int .i64 V,.slice a R.length c],.agg #[.int .i64 V,.slice b S.length d]] w fun e w'=>e=.returned (.bool true)∧Below w.heap.size w w':=by
 have hl:S.length=R.length:=by have h:=congrArg List.length hfo;rw [tb_length,tb_length] at h;exact h.symm
 rw [hl]
 have HF:=xQ2 hfo
 have HL:=xQ2 hl
 rw [hl] at hd
 clear hfo hl
 have b1:=xQ1 (w:=w) (.cells #[.int .i64 V,.slice a R.length c] 24)
 have b2:=xQ1 (w:=w.alloc (.cells #[.int .i64 V,.slice a R.length c] 24)) (.cells #[.int .i64 V,.slice b R.length d] 24)
 have bA:=b1.trans (b2.mono b1.size)
 clear b1 b2
 have m0:((w.alloc (.cells #[.int .i64 V,.slice a R.length c] 24)).alloc (.cells #[.int .i64 V,.slice b R.length d] 24)).cell? ⟨w.heap.size,0,none⟩=some (.int .i64 V):=by go_simp
 have m1:((w.alloc (.cells #[.int .i64 V,.slice a R.length c] 24)).alloc (.cells #[.int .i64 V,.slice b R.length d] 24)).cell? ⟨w.heap.size,1,none⟩=some (.slice a R.length c):=by go_simp
 have n0:((w.alloc (.cells #[.int .i64 V,.slice a R.length c] 24)).alloc (.cells #[.int .i64 V,.slice b R.length d] 24)).cell? ⟨w.heap.size+1,0,none⟩=some (.int .i64 V):=by go_simp
 have n1:((w.alloc (.cells #[.int .i64 V,.slice a R.length c] 24)).alloc (.cells #[.int .i64 V,.slice b R.length d] 24)).cell? ⟨w.heap.size+1,1,none⟩=some (.slice b R.length d):=by go_simp
 have GF:=xQ2 (fun (X Y:FV) w' (hX:X.nk w') (hY:Y.nk w') (h:X.fo=Y.fo) (hlx:X.L.length≤2097152)=>SameForm7_is X.a X.c X.L Y.a Y.c Y.L w' hX.sl.lies hY.sl.lies hX.en hY.en hX.sl.len hY.sl.len hlx h)
 have HR:=xQ2 hR
 have HS:=xQ2 hS
 have HFL:=xQ2 hfl
 clear hR hS hfl
 go_enter Tryz.func43,Tryz.ntmps43
 go_wp2_with fail
 obtain ⟨wA,hwA⟩:∃ wA,((w.alloc (.cells #[.int .i64 V,.slice a R.length c] 24)).alloc (.cells #[.int .i64 V,.slice b R.length d] 24))=wA:=⟨_,rfl⟩
 rw [hwA] at bA m0 m1 n0 n1 ⊢
 clear hwA
 go_loopw [5] (fun vi wr=>∃ k:Nat,k≤R.length∧vi=.int .i64 k∧Below wA.heap.size wA wr) (fun vi _=>R.length - (intOf vi).toNat)
 case atStart=>exact ⟨0,Nat.zero_le _,rfl,Below.refl _ _⟩
 case round =>
  obtain ⟨k,hk,rfl,hB⟩:=hrel
  have hBw:=bA.trans (hB.mono bA.size)
  replace m0:=xQ0 hB m0
  replace m1:=xQ0 hB m1
  replace n0:=xQ0 hB n0
  replace n1:=xQ0 hB n1
  by_cases hlt:k < R.length
  ·obtain ⟨r,hr⟩:∃ r,R[k]?=some r:=⟨R[k],List.getElem?_eq_getElem hlt⟩
   obtain ⟨s,hs⟩:∃ s,S[k]?=some s:=⟨S[k]'(by rw [HL.out];exact hlt),List.getElem?_eq_getElem _⟩
   have hrs:r.1=s.1∧r.2.fo=s.2.fo:=by
     have h1:=tb_at hr
     rw [HF.out,tb_at hs] at h1
     have h2:=Option.some.inj h1
     simp only [Prod.mk.injEq] at h2
     exact ⟨h2.1.symm,h2.2.symm⟩
   obtain ⟨b1,o1,rfl,hb1,hc1⟩:=HR.out.at_ (by intro e;rw [e] at hlt;simp at hlt)
   obtain ⟨b2,o2,rfl,hb2,hc2⟩:=HS.out.at_ (by intro e;have:=HL.out;rw [e] at this;simp at this;omega)
   obtain ⟨c0,c1⟩:=hc1 k r hr
   obtain ⟨d0,d1⟩:=hc2 k s hs
   replace c0:=xQ0 hBw c0
   replace c1:=xQ0 hBw c1
   replace d0:=xQ0 hBw d0
   replace d1:=xQ0 hBw d1
   have hX:=(HR.out.forms r (List.mem_of_getElem? hr)).later hBw
   have hY:=(HS.out.forms s (List.mem_of_getElem? hs)).later hBw
   have G:=xQ2 (fun w' (hb:Below wr.heap.size wr w')=>GF.out r.2 s.2 w' (hX.later hb) (hY.later hb) hrs.2 (HFL.out r (List.mem_of_getElem? hr)))
   obtain ⟨x,X⟩:=r
   obtain ⟨y,Y⟩:=s
   obtain ⟨hxy,_⟩:=hrs
   simp only at hxy c0 c1 d0 d1 G
   subst hxy
   obtain ⟨Xa,Xc,XL⟩:=X
   obtain ⟨Ya,Yc,YL⟩:=Y
   unfold FV.val at c1 d1
   simp only at c1 d1 G
   have i1:(0:Int)≤(k:Int):=by omega
   have i2:(k:Int) < (R.length:Int):=by omega
   clear hr hs hc1 hc2 hX hY GF HR HS HFL HF
   go_wp2_with fail
   have bT:Below wr.heap.size wr wr:=Below.refl _ _
   have bD:Below wr.heap.size wr wr.drew:=(Below.refl _ _).drew
   have km0:=xQ0 bD m0
   have km1:=xQ0 bD m1
   have kn0:=xQ0 bD n0
   have kn1:=xQ0 bD n1
   have kc0:=xQ0 bD c0
   have kc1:=xQ0 bD c1
   have kd0:=xQ0 bD d0
   have kd1:=xQ0 bD d1
   replace hB:=hB.trans (bD.mono hB.size)
   replace hBw:=hBw.trans (bD.mono hBw.size)
   replace bT:=bT.trans (bD.mono bT.size)
   refine wp_region_held_drew (S:=fun w'=>w'.cell? ⟨w.heap.size,0,none⟩=some (.int .i64 V)∧w'.cell? ⟨w.heap.size,1,none⟩=some (.slice (some ⟨b1,o1,none⟩) R.length c)∧w'.cell? ⟨w.heap.size+1,0,none⟩=some (.int .i64 V)∧w'.cell? ⟨w.heap.size+1,1,none⟩=some (.slice (some ⟨b2,o2,none⟩) R.length d)∧w'.cell? ⟨b1,o1+k*2,none⟩=some (.int .i64 x)∧w'.cell? ⟨b1,o1+k*2+1,none⟩=some (.slice Xa XL.length Xc)∧w'.cell? ⟨b2,o2+k*2,none⟩=some (.int .i64 x)∧w'.cell? ⟨b2,o2+k*2+1,none⟩=some (.slice Ya YL.length Yc)) (by kernel_rfl) ⟨km0,km1,kn0,kn1,kc0,kc1,kd0,kd1⟩ (fun hHeld=>?_)
   clear km0 km1 kn0 kn1 kc0 kc1 kd0 kd1
   generalize wr.drew=w4 at bD hB hBw bT hHeld ⊢
   clear bD m0 m1 n0 n1 c0 c1 d0 d1
   refine tk 0 (v:=?_) rfl (Or.inl ⟨by rfl,?_⟩) ?_
   rotate_left
   ·intro w9 hSw
    go_simp
    try with_reducible rfl
   simp only [pA]
   refine tk 1 (v:=?_) rfl (Or.inl ⟨by rfl,?_⟩) ?_
   rotate_left
   ·intro w9 hSw
    go_simp
    try with_reducible rfl
   simp only [pA]
   refine tk 2 (v:=?_) rfl (Or.inl ⟨by rfl,?_⟩) ?_
   rotate_left
   ·intro w9 hSw
    go_simp
    try with_reducible rfl
   simp only [pA]
   refine tk 3 (v:=?_) rfl (Or.inl ⟨by rfl,?_⟩) ?_
   rotate_left
   ·intro w9 hSw
    go_simp
    try with_reducible rfl
   simp only [pA]
   refine tk 4 (v:=?_) rfl (Or.inl ⟨by rfl,?_⟩) ?_
   rotate_left
   ·intro w9 hSw
    go_simp
    try with_reducible rfl
   simp only [pA]
   refine tk 5 (v:=?_) rfl (Or.inl ⟨by rfl,?_⟩) ?_
   rotate_left
   ·intro w9 hSw
    go_simp
    try with_reducible rfl
   simp only [pA]
   refine tk 6 (v:=?_) rfl (Or.inl ⟨by rfl,?_⟩) ?_
   rotate_left
   ·intro w9 hSw
    go_simp
    try with_reducible rfl
   simp only [pA]
   refine tk 7 (v:=?_) rfl (Or.inl ⟨by rfl,?_⟩) ?_
   rotate_left
   ·intro w9 hSw
    go_simp
    try with_reducible rfl
   simp only [pA]
   refine tk 8 (v:=?_) rfl (Or.inl ⟨by rfl,?_⟩) ?_
   rotate_left
   ·intro w9 hSw
    go_simp
    try with_reducible rfl
   simp only [pA]
   refine tk 9 (v:=?_) rfl (Or.inl ⟨by rfl,?_⟩) ?_
   rotate_left
   ·intro w9 hSw
    go_simp
    try with_reducible rfl
   simp only [pA]
   refine tk 10 (v:=?_) rfl (Or.inl ⟨by rfl,?_⟩) ?_
   rotate_left
   ·intro w9 hSw
    go_simp
    try with_reducible rfl
   simp only [pA]
   refine tk 11 (v:=?_) rfl (Or.inl ⟨by rfl,?_⟩) ?_
   rotate_left
   ·intro w9 hSw
    go_simp
    try with_reducible rfl
   simp only [pA]
   refine tk 12 (v:=?_) rfl (Or.inl ⟨by rfl,?_⟩) ?_
   rotate_left
   ·intro w9 hSw
    go_simp
    try with_reducible rfl
   simp only [pA]
   refine tk 13 (v:=?_) rfl (Or.inl ⟨by rfl,?_⟩) ?_
   rotate_left
   ·intro w9 hSw
    go_simp
    try with_reducible rfl
   simp only [pA]
   refine tk 14 (v:=?_) rfl (Or.inl ⟨by rfl,?_⟩) ?_
   rotate_left
   ·intro w9 hSw
    go_simp
    try with_reducible rfl
   simp only [pA]
   refine tk 15 (v:=?_) rfl (Or.inl ⟨by rfl,?_⟩) ?_
   rotate_left
   ·intro w9 hSw
    go_simp
    try with_reducible rfl
   simp only [pA]
   refine tk 16 (v:=?_) rfl (Or.inl ⟨by rfl,?_⟩) ?_
   rotate_left
   ·intro w9 hSw
    go_simp
    try with_reducible rfl
   simp only [pA]
   refine tk 17 (v:=?_) rfl (Or.inl ⟨by rfl,?_⟩) ?_
   rotate_left
   ·intro w9 hSw
    go_simp
    try with_reducible rfl
   simp only [pA]
   refine tk 18 (v:=?_) rfl (Or.inl ⟨by rfl,?_⟩) ?_
   rotate_left
   ·intro w9 hSw
    go_simp
    try with_reducible rfl
   simp only [pA]
   refine tk 19 (v:=?_) rfl (Or.inl ⟨by rfl,?_⟩) ?_
   rotate_left
   ·intro w9 hSw
    go_simp
    try with_reducible rfl
   simp only [pA]
   refine tk 20 (v:=?_) rfl (Or.inl ⟨by rfl,?_⟩) ?_
   rotate_left
   ·intro w9 hSw
    go_simp
    try with_reducible rfl
   simp only [pA]
   refine tk 21 (v:=?_) rfl (Or.inl ⟨by rfl,?_⟩) ?_
   rotate_left
   ·intro w9 hSw
    go_simp
    try with_reducible rfl
   simp only [pA]
   refine tk 22 (v:=?_) rfl (Or.inl ⟨by rfl,?_⟩) ?_
   rotate_left
   ·intro w9 hSw
    go_simp
    try with_reducible rfl
   simp only [pA]
   refine tk 23 (v:=?_) rfl (Or.inl ⟨by rfl,?_⟩) ?_
   rotate_left
   ·intro w9 hSw
    go_simp
    try with_reducible rfl
   simp only [pA]
   refine tk 24 (v:=?_) rfl (Or.inl ⟨by rfl,?_⟩) ?_
   rotate_left
   ·intro w9 hSw
    go_simp
    try with_reducible rfl
   simp only [pA]
   refine tk 25 (v:=?_) rfl (Or.inl ⟨by rfl,?_⟩) ?_
   rotate_left
   ·intro w9 hSw
    go_simp
    try with_reducible rfl
   simp only [pA]
   refine wpAnyH_ready (rs:=[26]) (by kernel_rfl) (by simp) ?_
   refine xX1 rfl (fun KK hKK=>?_)
   go_simp
   refine (G.out _ bT).mono ?_
   rintro e w5 ⟨rfl,b5⟩
   have bC:=b5
   replace hB:=hB.trans (bC.mono hB.size)
   replace hBw:=hBw.trans (bC.mono hBw.size)
   replace bT:=bT.trans (bC.mono bT.size)
   replace hHeld:=(⟨xQ0 bC hHeld.1,xQ0 bC hHeld.2.1,xQ0 bC hHeld.2.2.1,xQ0 bC hHeld.2.2.2.1,xQ0 bC hHeld.2.2.2.2.1,xQ0 bC hHeld.2.2.2.2.2.1,xQ0 bC hHeld.2.2.2.2.2.2.1,xQ0 bC hHeld.2.2.2.2.2.2.2⟩:_∧_∧_∧_∧_∧_∧_∧_)
   clear bC
   go_wp2_with fail
   clear b5 G
   refine hKK.out _ _ hHeld ?_
   clear hHeld
   intro hHeld
   clear hKK KK
   try simp only [pA]
   refine tk 27 (v:=?_) rfl (Or.inl ⟨by rfl,?_⟩) ?_
   rotate_left
   ·intro w9 hSw
    go_simp
    try with_reducible rfl
   simp only [pA]
   refine tk 28 (v:=?_) rfl (Or.inl ⟨by rfl,?_⟩) ?_
   rotate_left
   ·intro w9 hSw
    go_simp
    try with_reducible rfl
   simp only [pA]
   refine wpAnyH_done (by kernel_rfl) ?_ _
   go_wp2
   go_roundw
   case rel=>exact ⟨k+1,by omega,by go_num,hB⟩
   case measure=>simp only [intOf];omega
  ·obtain rfl:k=R.length:=by omega
   have i1:¬ (R.length:Int) < (R.length:Int):=by omega
   go_wp2
   first | exact ⟨rfl,hBw⟩ | (go_ret;exact ⟨rfl,hBw⟩)
set_option maxHeartbeats 4000000 in
set_option maxRecDepth 100000 in
theorem alike_is (V:Int) (a:Option Addr) (c:Nat) (R:List RowV) (b:Option Addr) (d:Nat) (S:List RowV) (w:World) (hR:TNk w a R) (hS:TNk w b S) (hc:R.length≤c) (hd:S.length≤d) (hm:R.length≤1048576) (hfl:∀ r∈R,r.2.L.length≤2097152) (hfo:tb R=tb S) :
  Calls Tryz.prog 11 #[.agg #[.int .i64 V,.slice a R.length c],.agg #[.int .i64 V,.slice b S.length d]] w fun e w'=>e=.returned (.bool true)∧Below w.heap.size w w':=by
 have b1:=xQ1 (w:=w) (.cells #[.int .i64 V,.slice a R.length c] 24)
 have b2:=xQ1 (w:=w.alloc (.cells #[.int .i64 V,.slice a R.length c] 24)) (.cells #[.int .i64 V,.slice b S.length d] 24)
 have bA:=b1.trans (b2.mono b1.size)
 clear b1 b2
 have m0:((w.alloc (.cells #[.int .i64 V,.slice a R.length c] 24)).alloc (.cells #[.int .i64 V,.slice b S.length d] 24)).cell? ⟨w.heap.size,0,none⟩=some (.int .i64 V):=by go_simp
 have m1:((w.alloc (.cells #[.int .i64 V,.slice a R.length c] 24)).alloc (.cells #[.int .i64 V,.slice b S.length d] 24)).cell? ⟨w.heap.size,1,none⟩=some (.slice a R.length c):=by go_simp
 have n0:((w.alloc (.cells #[.int .i64 V,.slice a R.length c] 24)).alloc (.cells #[.int .i64 V,.slice b S.length d] 24)).cell? ⟨w.heap.size+1,0,none⟩=some (.int .i64 V):=by go_simp
 have n1:((w.alloc (.cells #[.int .i64 V,.slice a R.length c] 24)).alloc (.cells #[.int .i64 V,.slice b S.length d] 24)).cell? ⟨w.heap.size+1,1,none⟩=some (.slice b S.length d):=by go_simp
 have G:=xQ2 (fun w' (hb:Below w.heap.size w w')=>Alike_is V a c R b d S w' (hR.later hb) (hS.later hb) hc hd hm hfl hfo)
 clear hR hS hfo
 go_enter Tryz.func11,Tryz.ntmps11
 go_wp2_with fail
 obtain ⟨wA,hwA⟩:∃ wA,((w.alloc (.cells #[.int .i64 V,.slice a R.length c] 24)).alloc (.cells #[.int .i64 V,.slice b S.length d] 24))=wA:=⟨_,rfl⟩
 rw [hwA] at bA m0 m1 n0 n1 ⊢
 clear hwA
 try go_wp2_with fail
 refine (G.out _ bA).mono ?_
 rintro e w1 ⟨rfl,b1⟩
 have hB:=bA.trans (b1.mono bA.size)
 clear b1 bA G
 go_wp2
 first | exact ⟨rfl,hB⟩ | (go_ret;exact ⟨rfl,hB⟩)
theorem xZ3 {fn:Func} {p u t:Tmp} {ty:TypeId} (h:fn.results=#[.cell p ty,.tmp u,.tmp t]) (tmps:Array Value) (P:Program) (w:World) :
  (results fn tmps).run P w=((asAddr (tmps.getD p undef)).run P w).andThen fun a w1=>((loadVar ty a).run P w1).andThen fun v w2=>.ok (.tuple #[v,tmps.getD u undef,tmps.getD t undef]) w2:=by
 simp only [results,h]
 simp [Sem.run_bind]
def DfA (w:World) (V:Int) (T:Tb) (f:Fo) (n:Nat) (e:Ending) (w':World):Prop :=
 ((¬ mayBe V T∧e=.returned (.tuple #[noTb,.int .i64 0,.int .i64 70]))∨(mayBe V T∧¬ inV V f∧e=.returned (.tuple #[noTb,.int .i64 0,.int .i64 61]))∨(mayBe V T∧inV V f∧V=65536∧e=.returned (.tuple #[noTb,.int .i64 0,.int .i64 2])))∧Below w.heap.size w w' ∨
 (mayBe V T∧inV V f∧V≠65536∧∃ v S,e=.returned (.tuple #[v,.int .i64 V,.int .i64 0])∧TbA w (V+1) S v w'∧NrmT (T ++ [(V,exF T f)]) (tb S)∧S.length≤n+1)
theorem Mvd.bk2 {b:Nat} {w w':World} (h:Mvd b w w') {c:Nat} {z:Int} {a:Option Addr} {n m:Nat} (hk:Bk2 w c z a n m) (hc:c≠b):Bk2 w' c z a n m:=by
 obtain ⟨t,ht⟩:=hk
 exact ⟨t,(h.block c hc).trans ht⟩
theorem exF_self (T:Tb) (f:Fo):nfm (exF T f)=exF T f:=by unfold exF;exact (nfm_self (xJ8 _)).symm
set_option maxHeartbeats 16000000 in
set_option maxRecDepth 100000 in
theorem pDefine_is (V:Int) (a:Option Addr) (c:Nat) (R:List RowV) (X:FV) (w:World) (hT:TIn w a R) (hc:R.length≤c) (hbu:bulT R≤1048576) (hw:∀ r∈R,wfo r.2.fo) (hX:X.sm w) (hwX:wfo X.fo)
  (hcost:∀ w1 g,RF w1 g (tb R)→∀ FL:List Mo,(∀ p∈FL,p.2.low)→fo FL=nfm X.fo→costL g FL≤2097152) :
  Calls Tryz.prog 20 #[.agg #[.int .i64 V,.slice a R.length c],X.val] w (DfA w V (tb R) X.fo R.length):=by
 obtain ⟨TQ,hTQ⟩:∃ TQ,DfA w V (tb R) X.fo R.length=TQ:=⟨_,rfl⟩
 rw [hTQ]
 replace hTQ:=xQ2 hTQ
 have hlen:3*R.length≤1048576:=by have:=bulT_len R;omega
 have GR:=xQ2 (fun w' (hb:Below w.heap.size w w')=>tabRead_is V a c R w' (hT.later hb) hc hbu hw)
 have GX:=xQ2 (fun w' (hb:Below w.heap.size w w') b g (hM:MapT w' b R.length g) (hG:RF w' g (tb R))=>pexpress_is V b R.length g (tb R) X w' hM hG (hX.later hb) hwX (hcost w' g hG))
 clear hT hw hX hwX hcost
 obtain ⟨f,hf⟩:∃ f,X.fo=f:=⟨_,rfl⟩
 rw [hf] at hTQ GX
 clear hf
 obtain ⟨Xv,hXv⟩:∃ v,X.val=v:=⟨_,rfl⟩
 rw [hXv] at GX ⊢
 clear hXv
 have b1:=xQ1 (w:=w) (.cells #[.int .i64 V,.slice a R.length c] 24)
 have b2:=xQ1 (w:=w.alloc (.cells #[.int .i64 V,.slice a R.length c] 24)) (.cells #[.int .i64 0,.slice none 0 0] 24)
 have m0:((w.alloc (.cells #[.int .i64 V,.slice a R.length c] 24)).alloc (.cells #[.int .i64 0,.slice none 0 0] 24)).cell? ⟨w.heap.size,0,none⟩=some (.int .i64 V):=by go_simp
 have m1:((w.alloc (.cells #[.int .i64 V,.slice a R.length c] 24)).alloc (.cells #[.int .i64 0,.slice none 0 0] 24)).cell? ⟨w.heap.size,1,none⟩=some (.slice a R.length c):=by go_simp
 have k2:Bk2 ((w.alloc (.cells #[.int .i64 V,.slice a R.length c] 24)).alloc (.cells #[.int .i64 0,.slice none 0 0] 24)) (w.heap.size+1) 0 none 0 0:=by have:=Bk2.new (w.alloc (.cells #[.int .i64 V,.slice a R.length c] 24)) 0 none 0 0 24;simpa using this
 have hsz:((w.alloc (.cells #[.int .i64 V,.slice a R.length c] 24)).alloc (.cells #[.int .i64 0,.slice none 0 0] 24)).heap.size=w.heap.size+1+1:=by simp
 have hBw:=b1.trans (b2.mono b1.size)
 clear b1 b2
 go_enter Tryz.func20,Tryz.ntmps20
 go_wp2_with fail
 obtain ⟨wA,hwA⟩:∃ wA,((w.alloc (.cells #[.int .i64 V,.slice a R.length c] 24)).alloc (.cells #[.int .i64 0,.slice none 0 0] 24))=wA:=⟨_,rfl⟩
 rw [hwA] at m0 m1 hBw k2 hsz ⊢
 clear hwA
 obtain ⟨rb,hrb⟩:∃ rb,w.heap.size+1=rb:=⟨_,rfl⟩
 rw [hrb] at k2 hsz
 try rw [hrb]
 have HQ:=xQ2 (show w.heap.size≤rb∧rb < wA.heap.size∧w.heap.size≠rb by omega)
 clear hrb hsz
 refine (GR.out _ hBw).mono ?_
 rintro e w1 ⟨b1,⟨hmb,rfl⟩ | ⟨hmb,b,g,rfl,hbb,hM,hRF⟩⟩
 ·skip
  replace m0:=xQ0 b1 m0
  replace m1:=xQ0 b1 m1
  replace k2:=k2.later b1
  replace hBw:=hBw.trans (b1.mono hBw.size)
  have hs1:=b1.size
  clear b1 GR
  have z0:=k2.cell0
  have z1:=k2.cell1
  have fz:=fun o=>k2.row.frozen o
  have HX:=xQ2 (show ∀ w',Below w.heap.size w w'→DfA w V (tb R) f R.length (.returned (.tuple #[noTb,.int .i64 0,.int .i64 70])) w' from fun w' hb=>Or.inl ⟨Or.inl ⟨hmb,rfl⟩,hb⟩)
  rw [hTQ.out] at HX
  clear hmb k2 GX
  go_wp2
  first | exact HX.out _ (by first | exact hBw | (refine Below.setCell (Below.setCell hBw ?_ _) ?_ _ <;> exact HQ.out.1)) | (refine bodyPost_ret (v:=.tuple #[noTb,.int .i64 0,.int .i64 70]) (by rw [xZ3 rfl];go_simp) rfl ?_;exact HX.out _ (by first | exact hBw | (refine Below.setCell (Below.setCell hBw ?_ _) ?_ _ <;> exact HQ.out.1)))
 ·skip
  replace m0:=xQ0 b1 m0
  replace m1:=xQ0 b1 m1
  replace k2:=k2.later b1
  replace hBw:=hBw.trans (b1.mono hBw.size)
  have hs1:=b1.size
  clear b1 GR
  have G2:=xQ2 (GX.out w1 hBw b g hM hRF)
  have HMB:=xQ2 hmb
  have HRF:=xQ2 hRF
  have HMg:=xQ2 hmb.basic
  have hgV:=xQ2 (show g V=none from hRF.miss.2 (lk_none.2 fun r hr e=>by have:=(hmb.basic r hr).2;omega))
  have hV:=xQ2 (show 0≤V∧V≤65536 from ⟨hmb.lo,hmb.hi⟩)
  clear hmb hRF GX HMg
  go_wp2_with fail
  refine G2.out.mono ?_
  rintro e w2 ⟨hb2,⟨hin,F,rfl,hfo,hnk⟩ | ⟨hin,rfl⟩⟩
  ·skip
   replace m0:=xQ0 hb2 m0
   replace m1:=xQ0 hb2 m1
   replace k2:=k2.later hb2
   replace hBw:=hBw.trans (hb2.mono hBw.size)
   have hM2:=hM.later hb2
   have hs2:=hb2.size
   replace HRF:=xQ2 (HRF.out.later hb2)
   clear hM hb2 G2
   have HIn:=xQ2 hin
   clear hin
   by_cases hv:V=65536
   ·have z0:=k2.cell0
    have z1:=k2.cell1
    have fz:=fun o=>k2.row.frozen o
    have HVV:=xQ2 hv
    rw [hv] at m0
    have HX:=xQ2 (show ∀ w',Below w.heap.size w w'→DfA w V (tb R) f R.length (.returned (.tuple #[noTb,.int .i64 0,.int .i64 2])) w' from fun w' hb=>Or.inl ⟨Or.inr (Or.inr ⟨HMB.out,HIn.out,HVV.out,rfl⟩),hb⟩)
    rw [hTQ.out] at HX
    clear hv k2 hM2 HRF HMB HIn
    go_wp2
    first | exact HX.out _ (by first | exact hBw | (refine Below.setCell (Below.setCell hBw ?_ _) ?_ _ <;> exact HQ.out.1)) | (refine bodyPost_ret (v:=.tuple #[noTb,.int .i64 0,.int .i64 2]) (by rw [xZ3 rfl];go_simp) rfl ?_;exact HX.out _ (by first | exact hBw | (refine Below.setCell (Below.setCell hBw ?_ _) ?_ _ <;> exact HQ.out.1)))
   ·have HVN:=xQ2 hv
    have hwV:wfI V:=by have:=hV.out;exact wfI_of (by omega) (by omega)
    have hkm:R.length < maxLen:=by simp only [maxLen];omega
    have HF0:=xQ2 hfo
    have HNk:=xQ2 hnk
    clear hfo hnk
    obtain ⟨Fa,Fc,FL⟩:=F
    unfold FV.val
    simp only
    have HGo:=xQ2 (fun w3 (hM3:MapI Tryz.prog 3 w3 b (R.length+1) (fput (mapf g) V (FV.val ⟨Fa,Fc,FL⟩))) (hd:Mvd b w2 w3)=>by
      rw [mapf_put] at hM3
      have hr3:RF w3 (gput g V ⟨Fa,Fc,FL⟩) (tb R ++ [(V,exF (tb R) f)]):=HRF.out.put hgV.out hd.kc (HNk.out.kc hd.kc) (by rw [HF0.out,exF_self])
      exact (⟨hr3,hM3⟩:RF w3 (gput g V ⟨Fa,Fc,FL⟩) (tb R ++ [(V,exF (tb R) f)])∧MapT w3 b (R.length+1) (gput g V ⟨Fa,Fc,FL⟩)))
    have HBs:=xQ2 hBw.size
    have HBe:=xQ2 (fun w3 (hd:Mvd b w2 w3)=>hBw.trans (hd.below (by have h1:=HQ.out;have h2:=hbb;have h3:=HBs.out;omega)))
    have hrb:rb≠b:=by have:=HQ.out;omega
    have hVs:=hV.out
    clear HRF HNk HF0 hgV hs2 hs1
    go_wp2_with (at_mapUpdate;refine wpList_put _ rfl _ _ _ _ rfl und_int und_rows b R.length (mapf g) rfl hM2 hkm V rfl hwV (.slice Fa FL.length Fc) rfl ?_;intro w3 hM3 hd3)
    obtain ⟨hr3,G3⟩:=HGo.out w3 hM3 hd3
    have HR3:=xQ2 hr3
    replace hBw:=HBe.out w3 hd3
    replace m0:=hd3.cell m0
    replace k2:=hd3.bk2 k2 hrb
    have HMP:=xQ2 G3
    have hs3:=hd3.size
    have hq3:rb < w3.heap.size:=k2.lt
    clear hr3 G3 hM3 hd3 HGo HBe hM2 m1 hrb hs3
    go_wp2_with fail
    have bT:Below w3.heap.size w3 w3:=Below.refl _ _
    have GU:=xQ2 (fun w' (hb:Below w3.heap.size w3 w')=>(told_is (V+1) b (R.length+1) (gput g V ⟨Fa,Fc,FL⟩) w' (HMP.out.later hb) (by omega) (HR3.out.later hb).nk))
    have hwr:IntKind.i64.wrap (V+1)=V+1:=by rw [IntKind.wrap_i64];omega
    have bD:Below w3.heap.size w3 w3.drew:=(Below.refl _ _).drew
    have km0:=xQ0 bD m0
    replace hBw:=hBw.trans (bD.mono hBw.size)
    replace bT:=bT.trans (bD.mono bT.size)
    replace k2:=k2.later bD
    refine wp_region_held_drew (S:=fun w'=>w'.cell? ⟨w.heap.size,0,none⟩=some (.int .i64 V)) (by kernel_rfl) km0 (fun hHeld=>?_)
    clear km0
    generalize w3.drew=w4 at bD k2 hBw bT hHeld ⊢
    clear bD m0
    have hs4:=bT.size
    refine tk 0 (v:=?_) rfl (Or.inl ⟨by rfl,?_⟩) ?_
    rotate_left
    ·intro w9 hSw
     go_simp
     try with_reducible rfl
    simp only [pA]
    refine tk 1 (v:=?_) rfl (Or.inl ⟨by rfl,?_⟩) ?_
    rotate_left
    ·intro w9 hSw
     go_simp
     try with_reducible rfl
    simp only [pA]
    refine tk 2 (v:=?_) rfl (Or.inl ⟨by rfl,?_⟩) ?_
    rotate_left
    ·intro w9 hSw
     go_simp
     try with_reducible rfl
    simp only [pA]
    refine tk 3 (v:=?_) rfl (Or.inl ⟨by rfl,?_⟩) ?_
    rotate_left
    ·intro w9 hSw
     go_simp
     try with_reducible rfl
    simp only [pA]
    refine tk 5 (v:=?_) rfl (Or.inl ⟨by rfl,?_⟩) ?_
    rotate_left
    ·intro w9 hSw
     go_simp
     try with_reducible rfl
    simp only [pA]
    refine tk 6 (v:=?_) rfl (Or.inl ⟨by rfl,?_⟩) ?_
    rotate_left
    ·intro w9 hSw
     go_simp
     try with_reducible rfl
    simp only [pA]
    refine wpAnyH_ready (rs:=[4]) (by kernel_rfl) (by simp) ?_
    refine xX1 rfl (fun KK hKK=>?_)
    go_simp
    try rw [hwr]
    refine (GU.out _ bT).mono ?_
    rintro e w5 ⟨v,S,rfl,⟨⟨ar,cr,rfl,hn,hl,hff⟩,hb5,hr⟩,hSl,hlk⟩
    have HNR:=xQ2 (nrmT_of HR3.out hlk hr)
    have hq4:rb < w4.heap.size:=by omega
    have hw4:=hBw.size
    have HSl:=xQ2 hSl
    clear hSl hlk
    have bC:=hb5
    replace hBw:=hBw.trans (bC.mono hBw.size)
    replace bT:=bT.trans (bC.mono bT.size)
    replace k2:=k2.later bC
    replace hHeld:=xQ0 bC hHeld
    clear bC hb5 GU HMP
    go_wp2_with fail
    refine hKK.out _ _ hHeld ?_
    clear hHeld
    intro hHeld
    clear hKK KK
    try simp only [pA]
    refine wpAnyH_ready (rs:=[7]) (by kernel_rfl) (by simp) ?_
    refine xX1 rfl (fun KK hKK=>?_)
    have HX:=xQ2 (show DfA w V (tb R) f R.length (.returned (.tuple #[.agg #[.int .i64 (V+1),.slice ar S.length cr],.int .i64 V,.int .i64 0])) ((w5.setCell ⟨rb,0,none⟩ (.int .i64 (V+1))).setCell ⟨rb,1,none⟩ (.slice ar S.length cr)) from Or.inr ⟨HMB.out,HIn.out,HVN.out,_,S,rfl,TbA.store hn hl hff hw4 hBw hr k2 hq4 HQ.out.1,HNR.out,HSl.out⟩)
    rw [hTQ.out] at HX
    have z0:=k2.cell0
    have z1:=k2.cell1
    have fz:=fun o=>k2.row.frozen o
    have hH2:=far1 (q:=rb) (o:=1) (u:=.slice ar S.length cr) (far1 (q:=rb) (o:=0) (u:=.int .i64 (V+1)) hHeld HQ.out.2.2) HQ.out.2.2
    have hy0:((w5.setCell ⟨rb,0,none⟩ (.int .i64 (V+1))).setCell ⟨rb,1,none⟩ (.slice ar S.length cr)).cell? ⟨rb,0,none⟩=some (.int .i64 (V+1)):=(World.cell?_setCell_other _ _ _ _ (fun e=>by simp at e)).trans (World.cell?_setCell_same _ _ _ z0)
    have hy1:((w5.setCell ⟨rb,0,none⟩ (.int .i64 (V+1))).setCell ⟨rb,1,none⟩ (.slice ar S.length cr)).cell? ⟨rb,1,none⟩=some (.slice ar S.length cr):=World.cell?_setCell_same _ _ _ ((World.cell?_setCell_other _ _ _ _ (fun e=>by simp at e)).trans z1)
    clear hn hl hff hr k2 hBw bT
    go_simp
    refine hKK.out _ _ hH2 ?_
    clear hHeld
    intro hHeld
    clear hKK KK
    try simp only [pA]
    clear hH2 z0 z1 fz
    generalize ((w5.setCell ⟨rb,0,none⟩ (.int .i64 (V+1))).setCell ⟨rb,1,none⟩ (.slice ar S.length cr))=w7 at HX hy0 hy1 hHeld ⊢
    refine tk 8 (v:=?_) rfl (Or.inl ⟨by rfl,?_⟩) ?_
    rotate_left
    ·intro w9 hSw
     go_simp
     try with_reducible rfl
    simp only [pA]
    refine tk 9 (v:=?_) rfl (Or.inl ⟨by rfl,?_⟩) ?_
    rotate_left
    ·intro w9 hSw
     go_simp
     try with_reducible rfl
    simp only [pA]
    refine wpAnyH_done (by kernel_rfl) ?_ _
    go_wp2
    first | exact HX.out | (refine bodyPost_ret (v:=.tuple #[.agg #[.int .i64 (V+1),.slice ar S.length cr],.int .i64 V,.int .i64 0]) (by rw [xZ3 rfl];go_simp) rfl ?_;exact HX.out)
  ·skip
   replace m0:=xQ0 hb2 m0
   replace m1:=xQ0 hb2 m1
   replace k2:=k2.later hb2
   replace hBw:=hBw.trans (hb2.mono hBw.size)
   have hM2:=hM.later hb2
   have hs2:=hb2.size
   replace HRF:=xQ2 (HRF.out.later hb2)
   clear hM hb2 G2
   have z0:=k2.cell0
   have z1:=k2.cell1
   have fz:=fun o=>k2.row.frozen o
   have HX:=xQ2 (show ∀ w',Below w.heap.size w w'→DfA w V (tb R) f R.length (.returned (.tuple #[noTb,.int .i64 0,.int .i64 61])) w' from fun w' hb=>Or.inl ⟨Or.inr (Or.inl ⟨HMB.out,hin,rfl⟩),hb⟩)
   rw [hTQ.out] at HX
   clear hin k2 hM2 HRF HMB
   go_wp2
   first | exact HX.out _ (by first | exact hBw | (refine Below.setCell (Below.setCell hBw ?_ _) ?_ _ <;> exact HQ.out.1)) | (refine bodyPost_ret (v:=.tuple #[noTb,.int .i64 0,.int .i64 61]) (by rw [xZ3 rfl];go_simp) rfl ?_;exact HX.out _ (by first | exact hBw | (refine Below.setCell (Below.setCell hBw ?_ _) ?_ _ <;> exact HQ.out.1)))
end Go.Proofs.YtlklfkkbdcglbaaGreat
