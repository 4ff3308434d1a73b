import Derived.Test.YtlklfkkbdcglbaaGreatGTC
set_option linter.unusedSimpArgs false
namespace Go.Proofs.YtlklfkkbdcglbaaGreat
open Go.RowKit
set_option linter.unusedVariables false
set_option maxHeartbeats 2000000 in
set_option maxRecDepth 30000 in
theorem SameQ_is (Z:Int) (V:Nat) (p q p2 q2:Option Addr) (w:World) (hm:ln (am Z)≤70368744177664) (hm2:ln V≤70368744177664) (hS:Seg w p (am Z) (ln (am Z))) (hT:Seg w q V (ln V)) (hS2:Seg w p2 (am Z) (ln (am Z))) (hT2:Seg w q2 V (ln V)) :
  Calls Tryz.prog 56 #[.agg #[.bool (ng Z),.slice p (ln (am Z)) (ln (am Z)),.slice q (ln V) (ln V)],.agg #[.bool (ng Z),.slice p2 (ln (am Z)) (ln (am Z)),.slice q2 (ln V) (ln V)]] w fun e w'=>e=.returned (.bool true)∧Below w.heap.size w w':=by
 have hs:=sameB_self (ln (am Z)) (am Z)
 have hs2:=sameB_self (ln V) V
 have hbb:(ng Z == ng Z)=true:=by simp
 have H1:=hide' (fun w' k1 k2=>Same_any p p2 (ln (am Z)) (ln (am Z)) (am Z) (ln (am Z)) (ln (am Z)) (am Z) w' hm hm k1 k2)
 have H2:=hide' (fun w' k1 k2=>Same_any q q2 (ln V) (ln V) V (ln V) (ln V) V w' hm2 hm2 k1 k2)
 go_enter Tryz.func56,Tryz.ntmps56
 go_wp2_with fail
 obtain ⟨W,hW⟩:∃ W,((w.alloc (.cells #[.bool (ng Z),.slice p (ln (am Z)) (ln (am Z)),.slice q (ln V) (ln V)] 74)).alloc (.cells #[.bool (ng Z),.slice p2 (ln (am Z)) (ln (am Z)),.slice q2 (ln V) (ln V)] 74))=W:=⟨_,rfl⟩
 have q00:W.cell? ⟨w.heap.size,0,none⟩=some (.bool (ng Z)):=by subst hW;go_simp
 have q01:W.cell? ⟨w.heap.size,1,none⟩=some (.slice p (ln (am Z)) (ln (am Z))):=by subst hW;go_simp
 have q02:W.cell? ⟨w.heap.size,2,none⟩=some (.slice q (ln V) (ln V)):=by subst hW;go_simp
 have q10:W.cell? ⟨w.heap.size+1,0,none⟩=some (.bool (ng Z)):=by subst hW;go_simp
 have q11:W.cell? ⟨w.heap.size+1,1,none⟩=some (.slice p2 (ln (am Z)) (ln (am Z))):=by subst hW;go_simp
 have q12:W.cell? ⟨w.heap.size+1,2,none⟩=some (.slice q2 (ln V) (ln V)):=by subst hW;go_simp
 have hB:Below w.heap.size w W:=by subst hW;exact (((Below.refl _ _).alloc (by (try simp only [World.size_alloc]);omega) _).alloc (by (try simp only [World.size_alloc]);omega) _)
 have hz:W.heap.size=w.heap.size+1+1:=by subst hW;simp only [World.size_alloc]
 rw [hW]
 clear hW
 have hBW:Below W.heap.size W W:=Below.refl _ _
 refine (H1.out _ (sb hS hB hBW) (sb hS2 hB hBW)).mono ?_
 rintro e w41 ⟨rfl,dd41⟩
 have b41:=dd41.below W.heap.size
 replace hBW:=hBW.trans (b41.mono hBW.size)
 replace q00:=below_cell b41 q00
 replace q01:=below_cell b41 q01
 replace q02:=below_cell b41 q02
 replace q10:=below_cell b41 q10
 replace q11:=below_cell b41 q11
 replace q12:=below_cell b41 q12
 go_wp2_with fail
 refine (H2.out _ (sb hT hB hBW) (sb hT2 hB hBW)).mono ?_
 rintro e w42 ⟨rfl,dd42⟩
 have b42:=dd42.below w41.heap.size
 replace hBW:=hBW.trans (b42.mono hBW.size)
 replace q00:=below_cell b42 q00
 replace q01:=below_cell b42 q01
 replace q02:=below_cell b42 q02
 replace q10:=below_cell b42 q10
 replace q11:=below_cell b42 q11
 replace q12:=below_cell b42 q12
 go_wp2
 go_ret
 exact ⟨rfl,hB.trans (hBW.mono hB.size)⟩
theorem nrmT_of {w:World} {g:Int→Option FV} {T:Tb} {S:List RowV} (h:RF w g T) (hs:∀ x,lk S x=g x) (hr:rising S):NrmT T (tb S) :=
 ⟨by unfold rising tb;exact List.pairwise_map.2 hr,fun v=>by rw [tb_lk,hs v,h.says v]⟩
set_option maxHeartbeats 8000000 in
set_option maxRecDepth 100000 in
theorem SameForm7_is (a:Option Addr) (ca:Nat) (L:List Mo) (b:Option Addr) (cb:Nat) (M:List Mo) (w:World) (hF:FAt w a L) (hG:FAt w b M) (hE:∀ p∈L,Ent w p) (hE2:∀ p∈M,Ent w p) (hca:L.length≤ca) (hcb:M.length≤cb) (hm:L.length≤2097152) (hfo:fo L=fo M) :
  Calls Tryz.prog 25 #[.slice a L.length ca,.slice b M.length cb] w fun e w'=>e=.returned (.bool true)∧Below w.heap.size w w':=by
 have hl:M.length=L.length:=by have h:=congrArg List.length hfo;rw [fo_length,fo_length] at h;exact h.symm
 rw [hl]
 have HF:=hide' hfo
 have HL:=hide' hl
 rw [hl] at hcb
 clear hfo hl
 go_enter Tryz.func25,Tryz.ntmps25
 go_wp2_with fail
 go_loopw [5] (fun vi wr=>∃ k:Nat,k≤L.length∧vi=.int .i64 k∧Below w.heap.size w wr) (fun vi _=>L.length - (intOf vi).toNat)
 case atStart=>exact ⟨0,Nat.zero_le _,rfl,Below.refl _ _⟩
 case round =>
  obtain ⟨k,hk,rfl,hB⟩:=hrel
  by_cases hlt:k < L.length
  ·obtain ⟨p,hp⟩:∃ p,L[k]?=some p:=⟨L[k],List.getElem?_eq_getElem hlt⟩
   obtain ⟨q,hq⟩:∃ q,M[k]?=some q:=⟨M[k]'(by rw [HL.out];exact hlt),List.getElem?_eq_getElem _⟩
   have hpq:(p.1,p.2.val)=(q.1,q.2.val):=by
    have h1:(fo L)[k]?=some (p.1,p.2.val):=by unfold fo;rw [List.getElem?_map,hp];rfl
    have h2:(fo M)[k]?=some (q.1,q.2.val):=by unfold fo;rw [List.getElem?_map,hq];rfl
    rw [HF.out,h2] at h1
    exact (Option.some.inj h1).symm
   obtain ⟨b1,o1,rfl,hb1,hcell⟩:=hF (by intro e;rw [e] at hlt;simp at hlt)
   obtain ⟨b2,o2,rfl,hb2,hcell2⟩:=hG (by intro e;have:=HL.out;rw [e] at this;simp at this;omega)
   obtain ⟨c0,c1,c2,c3⟩:=hcell k p hp
   obtain ⟨d0,d1,d2,d3⟩:=hcell2 k q hq
   have ep:=(hE p (List.mem_of_getElem? hp)).later hB
   have eq:=(hE2 q (List.mem_of_getElem? hq)).later hB
   clear hp hq hcell hcell2
   obtain ⟨x,P⟩:=p
   obtain ⟨y,Q⟩:=q
   simp only [Prod.mk.injEq] at hpq
   obtain ⟨rfl,hv⟩:=hpq
   simp only at c0 c1 c2 c3 d0 d1 d2 d3
   replace c0:=below_cell hB c0
   replace c1:=below_cell hB c1
   replace c2:=below_cell hB c2
   replace c3:=below_cell hB c3
   replace d0:=below_cell hB d0
   replace d1:=below_cell hB d1
   replace d2:=below_cell hB d2
   replace d3:=below_cell hB d3
   have okP:P.ok wr:=ep.ok
   have okQ:Q.ok wr:=eq.ok
   have eP:=low_val (show P.low from ep.low)
   have eQ:=low_val (show Q.low from eq.low)
   rw [←hv] at eQ
   clear ep eq
   obtain ⟨r,hr⟩:∃ r,P.val=r:=⟨_,rfl⟩
   rw [hr] at eP eQ
   clear hr hv
   obtain ⟨pa,hpa⟩:∃ pa,P.a=pa:=⟨_,rfl⟩
   obtain ⟨pb,hpb⟩:∃ pb,P.b=pb:=⟨_,rfl⟩
   obtain ⟨qa,hqa⟩:∃ qa,Q.a=qa:=⟨_,rfl⟩
   obtain ⟨qb,hqb⟩:∃ qb,Q.b=qb:=⟨_,rfl⟩
   rw [hpa,hpb] at eP
   rw [hqa,hqb] at eQ
   clear hpa hpb hqa hqb
   subst eP eQ
   simp only [RatV.of] at c1 c2 c3 d1 d2 d3
   have g1:Seg wr pa (am r.num) (ln (am r.num)):=okP.1
   have g2:Seg wr pb r.den (ln r.den):=okP.2.2.2.1
   have g3:Seg wr qa (am r.num) (ln (am r.num)):=okQ.1
   have g4:Seg wr qb r.den (ln r.den):=okQ.2.2.2.1
   have l1:ln (am r.num)≤35184372087808:=okP.2.2.1
   have l2:ln r.den≤35184372087808:=okP.2.2.2.2.2
   clear okP okQ
   have GS:=hide' (fun w' k1 k2 k3 k4=>SameQ_is r.num r.den pa pb qa qb w' (by omega) (by omega) k1 k2 k3 k4)
   have i1:(0:Int)≤(k:Int):=by omega
   have i2:(k:Int) < (L.length:Int):=by omega
   go_wp2_with fail
   have bD:Below wr.heap.size wr wr.drew:=(Below.refl _ _).drew
   have kc0:=below_cell bD c0
   have kc1:=below_cell bD c1
   have kc2:=below_cell bD c2
   have kc3:=below_cell bD c3
   have kd0:=below_cell bD d0
   have kd1:=below_cell bD d1
   have kd2:=below_cell bD d2
   have kd3:=below_cell bD d3
   replace hB:=hB.trans (bD.mono hB.size)
   replace g1:=g1.later bD
   replace g2:=g2.later bD
   replace g3:=g3.later bD
   replace g4:=g4.later bD
   refine wp_region_held_drew (S:=fun w'=>w'.cell? ⟨b1,o1+k*4,none⟩=some (.int .i64 x)∧w'.cell? ⟨b1,o1+k*4+1,none⟩=some (.bool (ng r.num))∧w'.cell? ⟨b1,o1+k*4+1+1,none⟩=some (.slice pa (ln (am r.num)) (ln (am r.num)))∧w'.cell? ⟨b1,o1+k*4+1+2,none⟩=some (.slice pb (ln r.den) (ln r.den))∧w'.cell? ⟨b2,o2+k*4,none⟩=some (.int .i64 x)∧w'.cell? ⟨b2,o2+k*4+1,none⟩=some (.bool (ng r.num))∧w'.cell? ⟨b2,o2+k*4+1+1,none⟩=some (.slice qa (ln (am r.num)) (ln (am r.num)))∧w'.cell? ⟨b2,o2+k*4+1+2,none⟩=some (.slice qb (ln r.den) (ln r.den))) (by kernel_rfl) ⟨kc0,kc1,kc2,kc3,kd0,kd1,kd2,kd3⟩ (fun hHeld=>?_)
   clear kc0 kc1 kc2 kc3 kd0 kd1 kd2 kd3
   generalize wr.drew=w0 at bD g1 g2 g3 g4 hB hHeld ⊢
   clear bD c0 c1 c2 c3 d0 d1 d2 d3
   refine tk 0 (v:=?_) rfl (Or.inl ⟨by rfl,?_⟩) ?_
   rotate_left
   ·intro w9 hSw
    go_simp
    first | done | with_reducible rfl
   simp only [pP,pN,pS,pZ,pC]
   refine tk 1 (v:=?_) rfl (Or.inl ⟨by rfl,?_⟩) ?_
   rotate_left
   ·intro w9 hSw
    go_simp
    first | done | with_reducible rfl
   simp only [pP,pN,pS,pZ,pC]
   refine tk 2 (v:=?_) rfl (Or.inl ⟨by rfl,?_⟩) ?_
   rotate_left
   ·intro w9 hSw
    go_simp
    first | done | with_reducible rfl
   simp only [pP,pN,pS,pZ,pC]
   refine tk 3 (v:=?_) rfl (Or.inl ⟨by rfl,?_⟩) ?_
   rotate_left
   ·intro w9 hSw
    go_simp
    first | done | with_reducible rfl
   simp only [pP,pN,pS,pZ,pC]
   refine tk 4 (v:=?_) rfl (Or.inl ⟨by rfl,?_⟩) ?_
   rotate_left
   ·intro w9 hSw
    go_simp
    first | done | with_reducible rfl
   simp only [pP,pN,pS,pZ,pC]
   refine tk 5 (v:=?_) rfl (Or.inl ⟨by rfl,?_⟩) ?_
   rotate_left
   ·intro w9 hSw
    go_simp
    first | done | with_reducible rfl
   simp only [pP,pN,pS,pZ,pC]
   refine tk 6 (v:=?_) rfl (Or.inl ⟨by rfl,?_⟩) ?_
   rotate_left
   ·intro w9 hSw
    go_simp
    first | done | with_reducible rfl
   simp only [pP,pN,pS,pZ,pC]
   refine tk 7 (v:=?_) rfl (Or.inl ⟨by rfl,?_⟩) ?_
   rotate_left
   ·intro w9 hSw
    go_simp
    first | done | with_reducible rfl
   simp only [pP,pN,pS,pZ,pC]
   refine tk 8 (v:=?_) rfl (Or.inl ⟨by rfl,?_⟩) ?_
   rotate_left
   ·intro w9 hSw
    go_simp
    first | done | with_reducible rfl
   simp only [pP,pN,pS,pZ,pC]
   refine tk 9 (v:=?_) rfl (Or.inl ⟨by rfl,?_⟩) ?_
   rotate_left
   ·intro w9 hSw
    go_simp
    first | done | with_reducible rfl
   simp only [pP,pN,pS,pZ,pC]
   refine tk 10 (v:=?_) rfl (Or.inl ⟨by rfl,?_⟩) ?_
   rotate_left
   ·intro w9 hSw
    go_simp
    first | done | with_reducible rfl
   simp only [pP,pN,pS,pZ,pC]
   refine tk 11 (v:=?_) rfl (Or.inl ⟨by rfl,?_⟩) ?_
   rotate_left
   ·intro w9 hSw
    go_simp
    first | done | with_reducible rfl
   simp only [pP,pN,pS,pZ,pC]
   refine tk 12 (v:=?_) rfl (Or.inl ⟨by rfl,?_⟩) ?_
   rotate_left
   ·intro w9 hSw
    go_simp
    first | done | with_reducible rfl
   simp only [pP,pN,pS,pZ,pC]
   refine tk 13 (v:=?_) rfl (Or.inl ⟨by rfl,?_⟩) ?_
   rotate_left
   ·intro w9 hSw
    go_simp
    first | done | with_reducible rfl
   simp only [pP,pN,pS,pZ,pC]
   refine tk 14 (v:=?_) rfl (Or.inl ⟨by rfl,?_⟩) ?_
   rotate_left
   ·intro w9 hSw
    go_simp
    first | done | with_reducible rfl
   simp only [pP,pN,pS,pZ,pC]
   refine tk 15 (v:=?_) rfl (Or.inl ⟨by rfl,?_⟩) ?_
   rotate_left
   ·intro w9 hSw
    go_simp
    first | done | with_reducible rfl
   simp only [pP,pN,pS,pZ,pC]
   refine tk 16 (v:=?_) rfl (Or.inl ⟨by rfl,?_⟩) ?_
   rotate_left
   ·intro w9 hSw
    go_simp
    first | done | with_reducible rfl
   simp only [pP,pN,pS,pZ,pC]
   refine tk 17 (v:=?_) rfl (Or.inl ⟨by rfl,?_⟩) ?_
   rotate_left
   ·intro w9 hSw
    go_simp
    first | done | with_reducible rfl
   simp only [pP,pN,pS,pZ,pC]
   refine tk 18 (v:=?_) rfl (Or.inl ⟨by rfl,?_⟩) ?_
   rotate_left
   ·intro w9 hSw
    go_simp
    first | done | with_reducible rfl
   simp only [pP,pN,pS,pZ,pC]
   refine tk 19 (v:=?_) rfl (Or.inl ⟨by rfl,?_⟩) ?_
   rotate_left
   ·intro w9 hSw
    go_simp
    first | done | with_reducible rfl
   simp only [pP,pN,pS,pZ,pC]
   refine tk 20 (v:=?_) rfl (Or.inl ⟨by rfl,?_⟩) ?_
   rotate_left
   ·intro w9 hSw
    go_simp
    first | done | with_reducible rfl
   simp only [pP,pN,pS,pZ,pC]
   refine tk 21 (v:=?_) rfl (Or.inl ⟨by rfl,?_⟩) ?_
   rotate_left
   ·intro w9 hSw
    go_simp
    first | done | with_reducible rfl
   simp only [pP,pN,pS,pZ,pC]
   refine wpAnyH_ready (rs:=[22]) (by kernel_rfl) (by simp) ?_
   refine cons' rfl (fun KK hKK=>?_)
   go_simp
   refine (GS.out _ g1 g2 g3 g4).mono ?_
   rintro e w2 ⟨rfl,b2⟩
   have bC:=b2
   replace hB:=hB.trans (bC.mono hB.size)
   replace g1:=g1.later bC
   replace g2:=g2.later bC
   replace g3:=g3.later bC
   replace g4:=g4.later bC
   replace hHeld:=(⟨below_cell bC hHeld.1,below_cell bC hHeld.2.1,below_cell bC hHeld.2.2.1,below_cell bC hHeld.2.2.2.1,below_cell bC hHeld.2.2.2.2.1,below_cell bC hHeld.2.2.2.2.2.1,below_cell bC hHeld.2.2.2.2.2.2.1,below_cell bC hHeld.2.2.2.2.2.2.2⟩:_∧_∧_∧_∧_∧_∧_∧_)
   clear bC
   go_wp2_with fail
   clear b2 GS
   refine hKK.out _ _ hHeld ?_
   clear hHeld
   intro hHeld
   clear hKK KK
   try simp only [pP,pN,pS,pZ,pC]
   refine tk 23 (v:=?_) rfl (Or.inl ⟨by rfl,?_⟩) ?_
   rotate_left
   ·intro w9 hSw
    go_simp
    first | done | with_reducible rfl
   simp only [pP,pN,pS,pZ,pC]
   refine tk 24 (v:=?_) rfl (Or.inl ⟨by rfl,?_⟩) ?_
   rotate_left
   ·intro w9 hSw
    go_simp
    first | done | with_reducible rfl
   simp only [pP,pN,pS,pZ,pC]
   refine wpAnyH_done (by kernel_rfl) ?_ _
   go_wp2
   go_roundw
   case rel=>exact ⟨k+1,by omega,by go_num,hB⟩
   case measure=>simp [intOf];omega
  ·obtain rfl:k=L.length:=by omega
   have i1:¬ (L.length:Int) < (L.length:Int):=by omega
   go_wp2
   go_ret
   exact ⟨rfl,hB⟩
set_option maxHeartbeats 8000000 in
set_option maxRecDepth 100000 in
theorem Alike_is (V:Int) (a:Option Addr) (c:Nat) (R:List RowV) (b:Option Addr) (d:Nat) (S:List RowV) (w:World) (hR:TNk w a R) (hS:TNk w b S) (hc:R.length≤c) (hd:S.length≤d) (hm:R.length≤1048576) (hfl:∀ r∈R,r.2.L.length≤2097152) (hfo:tb R=tb S) :
  Calls Tryz.prog 43 #[.agg #[.int .i64 V,.slice a R.length c],.agg #[.int .i64 V,.slice b S.length d]] w fun e w'=>e=.returned (.bool true)∧Below w.heap.size w w':=by
 have hl:S.length=R.length:=by have h:=congrArg List.length hfo;rw [tb_length,tb_length] at h;exact h.symm
 rw [hl]
 have HF:=hide' hfo
 have HL:=hide' hl
 rw [hl] at hd
 clear hfo hl
 have b1:=below_alloc (w:=w) (.cells #[.int .i64 V,.slice a R.length c] 24)
 have b2:=below_alloc (w:=w.alloc (.cells #[.int .i64 V,.slice a R.length c] 24)) (.cells #[.int .i64 V,.slice b R.length d] 24)
 have bA:=b1.trans (b2.mono b1.size)
 clear b1 b2
 have m0:((w.alloc (.cells #[.int .i64 V,.slice a R.length c] 24)).alloc (.cells #[.int .i64 V,.slice b R.length d] 24)).cell? ⟨w.heap.size,0,none⟩=some (.int .i64 V):=by go_simp
 have m1:((w.alloc (.cells #[.int .i64 V,.slice a R.length c] 24)).alloc (.cells #[.int .i64 V,.slice b R.length d] 24)).cell? ⟨w.heap.size,1,none⟩=some (.slice a R.length c):=by go_simp
 have n0:((w.alloc (.cells #[.int .i64 V,.slice a R.length c] 24)).alloc (.cells #[.int .i64 V,.slice b R.length d] 24)).cell? ⟨w.heap.size+1,0,none⟩=some (.int .i64 V):=by go_simp
 have n1:((w.alloc (.cells #[.int .i64 V,.slice a R.length c] 24)).alloc (.cells #[.int .i64 V,.slice b R.length d] 24)).cell? ⟨w.heap.size+1,1,none⟩=some (.slice b R.length d):=by go_simp
 have GF:=hide' (fun (X Y:FV) w' (hX:X.nk w') (hY:Y.nk w') (h:X.fo=Y.fo) (hlx:X.L.length≤2097152)=>SameForm7_is X.a X.c X.L Y.a Y.c Y.L w' hX.sl.lies hY.sl.lies hX.en hY.en hX.sl.len hY.sl.len hlx h)
 have HR:=hide' hR
 have HS:=hide' hS
 have HFL:=hide' hfl
 clear hR hS hfl
 go_enter Tryz.func43,Tryz.ntmps43
 go_wp2_with fail
 obtain ⟨wA,hwA⟩:∃ wA,((w.alloc (.cells #[.int .i64 V,.slice a R.length c] 24)).alloc (.cells #[.int .i64 V,.slice b R.length d] 24))=wA:=⟨_,rfl⟩
 rw [hwA] at bA m0 m1 n0 n1 ⊢
 clear hwA
 go_loopw [5] (fun vi wr=>∃ k:Nat,k≤R.length∧vi=.int .i64 k∧Below wA.heap.size wA wr) (fun vi _=>R.length - (intOf vi).toNat)
 case atStart=>exact ⟨0,Nat.zero_le _,rfl,Below.refl _ _⟩
 case round =>
  obtain ⟨k,hk,rfl,hB⟩:=hrel
  have hBw:=bA.trans (hB.mono bA.size)
  replace m0:=below_cell hB m0
  replace m1:=below_cell hB m1
  replace n0:=below_cell hB n0
  replace n1:=below_cell hB n1
  by_cases hlt:k < R.length
  ·obtain ⟨r,hr⟩:∃ r,R[k]?=some r:=⟨R[k],List.getElem?_eq_getElem hlt⟩
   obtain ⟨s,hs⟩:∃ s,S[k]?=some s:=⟨S[k]'(by rw [HL.out];exact hlt),List.getElem?_eq_getElem _⟩
   have hrs:r.1=s.1∧r.2.fo=s.2.fo:=by
     have h1:=tb_at hr
     rw [HF.out,tb_at hs] at h1
     have h2:=Option.some.inj h1
     simp only [Prod.mk.injEq] at h2
     exact ⟨h2.1.symm,h2.2.symm⟩
   obtain ⟨b1,o1,rfl,hb1,hc1⟩:=HR.out.at_ (by intro e;rw [e] at hlt;simp at hlt)
   obtain ⟨b2,o2,rfl,hb2,hc2⟩:=HS.out.at_ (by intro e;have:=HL.out;rw [e] at this;simp at this;omega)
   obtain ⟨c0,c1⟩:=hc1 k r hr
   obtain ⟨d0,d1⟩:=hc2 k s hs
   replace c0:=below_cell hBw c0
   replace c1:=below_cell hBw c1
   replace d0:=below_cell hBw d0
   replace d1:=below_cell hBw d1
   have hX:=(HR.out.forms r (List.mem_of_getElem? hr)).later hBw
   have hY:=(HS.out.forms s (List.mem_of_getElem? hs)).later hBw
   have G:=hide' (fun w' (hb:Below wr.heap.size wr w')=>GF.out r.2 s.2 w' (hX.later hb) (hY.later hb) hrs.2 (HFL.out r (List.mem_of_getElem? hr)))
   obtain ⟨x,X⟩:=r
   obtain ⟨y,Y⟩:=s
   obtain ⟨hxy,_⟩:=hrs
   simp only at hxy c0 c1 d0 d1 G
   subst hxy
   obtain ⟨Xa,Xc,XL⟩:=X
   obtain ⟨Ya,Yc,YL⟩:=Y
   unfold FV.val at c1 d1
   simp only at c1 d1 G
   have i1:(0:Int)≤(k:Int):=by omega
   have i2:(k:Int) < (R.length:Int):=by omega
   clear hr hs hc1 hc2 hX hY GF HR HS HFL HF
   go_wp2_with fail
   have bT:Below wr.heap.size wr wr:=Below.refl _ _
   have bD:Below wr.heap.size wr wr.drew:=(Below.refl _ _).drew
   have km0:=below_cell bD m0
   have km1:=below_cell bD m1
   have kn0:=below_cell bD n0
   have kn1:=below_cell bD n1
   have kc0:=below_cell bD c0
   have kc1:=below_cell bD c1
   have kd0:=below_cell bD d0
   have kd1:=below_cell bD d1
   replace hB:=hB.trans (bD.mono hB.size)
   replace hBw:=hBw.trans (bD.mono hBw.size)
   replace bT:=bT.trans (bD.mono bT.size)
   refine wp_region_held_drew (S:=fun w'=>w'.cell? ⟨w.heap.size,0,none⟩=some (.int .i64 V)∧w'.cell? ⟨w.heap.size,1,none⟩=some (.slice (some ⟨b1,o1,none⟩) R.length c)∧w'.cell? ⟨w.heap.size+1,0,none⟩=some (.int .i64 V)∧w'.cell? ⟨w.heap.size+1,1,none⟩=some (.slice (some ⟨b2,o2,none⟩) R.length d)∧w'.cell? ⟨b1,o1+k*2,none⟩=some (.int .i64 x)∧w'.cell? ⟨b1,o1+k*2+1,none⟩=some (.slice Xa XL.length Xc)∧w'.cell? ⟨b2,o2+k*2,none⟩=some (.int .i64 x)∧w'.cell? ⟨b2,o2+k*2+1,none⟩=some (.slice Ya YL.length Yc)) (by kernel_rfl) ⟨km0,km1,kn0,kn1,kc0,kc1,kd0,kd1⟩ (fun hHeld=>?_)
   clear km0 km1 kn0 kn1 kc0 kc1 kd0 kd1
   generalize wr.drew=w4 at bD hB hBw bT hHeld ⊢
   clear bD m0 m1 n0 n1 c0 c1 d0 d1
   refine tk 0 (v:=?_) rfl (Or.inl ⟨by rfl,?_⟩) ?_
   rotate_left
   ·intro w9 hSw
    go_simp
    first | done | with_reducible rfl
   simp only [pP,pN,pS,pZ,pC]
   refine tk 1 (v:=?_) rfl (Or.inl ⟨by rfl,?_⟩) ?_
   rotate_left
   ·intro w9 hSw
    go_simp
    first | done | with_reducible rfl
   simp only [pP,pN,pS,pZ,pC]
   refine tk 2 (v:=?_) rfl (Or.inl ⟨by rfl,?_⟩) ?_
   rotate_left
   ·intro w9 hSw
    go_simp
    first | done | with_reducible rfl
   simp only [pP,pN,pS,pZ,pC]
   refine tk 3 (v:=?_) rfl (Or.inl ⟨by rfl,?_⟩) ?_
   rotate_left
   ·intro w9 hSw
    go_simp
    first | done | with_reducible rfl
   simp only [pP,pN,pS,pZ,pC]
   refine tk 4 (v:=?_) rfl (Or.inl ⟨by rfl,?_⟩) ?_
   rotate_left
   ·intro w9 hSw
    go_simp
    first | done | with_reducible rfl
   simp only [pP,pN,pS,pZ,pC]
   refine tk 5 (v:=?_) rfl (Or.inl ⟨by rfl,?_⟩) ?_
   rotate_left
   ·intro w9 hSw
    go_simp
    first | done | with_reducible rfl
   simp only [pP,pN,pS,pZ,pC]
   refine tk 6 (v:=?_) rfl (Or.inl ⟨by rfl,?_⟩) ?_
   rotate_left
   ·intro w9 hSw
    go_simp
    first | done | with_reducible rfl
   simp only [pP,pN,pS,pZ,pC]
   refine tk 7 (v:=?_) rfl (Or.inl ⟨by rfl,?_⟩) ?_
   rotate_left
   ·intro w9 hSw
    go_simp
    first | done | with_reducible rfl
   simp only [pP,pN,pS,pZ,pC]
   refine tk 8 (v:=?_) rfl (Or.inl ⟨by rfl,?_⟩) ?_
   rotate_left
   ·intro w9 hSw
    go_simp
    first | done | with_reducible rfl
   simp only [pP,pN,pS,pZ,pC]
   refine tk 9 (v:=?_) rfl (Or.inl ⟨by rfl,?_⟩) ?_
   rotate_left
   ·intro w9 hSw
    go_simp
    first | done | with_reducible rfl
   simp only [pP,pN,pS,pZ,pC]
   refine tk 10 (v:=?_) rfl (Or.inl ⟨by rfl,?_⟩) ?_
   rotate_left
   ·intro w9 hSw
    go_simp
    first | done | with_reducible rfl
   simp only [pP,pN,pS,pZ,pC]
   refine tk 11 (v:=?_) rfl (Or.inl ⟨by rfl,?_⟩) ?_
   rotate_left
   ·intro w9 hSw
    go_simp
    first | done | with_reducible rfl
   simp only [pP,pN,pS,pZ,pC]
   refine tk 12 (v:=?_) rfl (Or.inl ⟨by rfl,?_⟩) ?_
   rotate_left
   ·intro w9 hSw
    go_simp
    first | done | with_reducible rfl
   simp only [pP,pN,pS,pZ,pC]
   refine tk 13 (v:=?_) rfl (Or.inl ⟨by rfl,?_⟩) ?_
   rotate_left
   ·intro w9 hSw
    go_simp
    first | done | with_reducible rfl
   simp only [pP,pN,pS,pZ,pC]
   refine tk 14 (v:=?_) rfl (Or.inl ⟨by rfl,?_⟩) ?_
   rotate_left
   ·intro w9 hSw
    go_simp
    first | done | with_reducible rfl
   simp only [pP,pN,pS,pZ,pC]
   refine tk 15 (v:=?_) rfl (Or.inl ⟨by rfl,?_⟩) ?_
   rotate_left
   ·intro w9 hSw
    go_simp
    first | done | with_reducible rfl
   simp only [pP,pN,pS,pZ,pC]
   refine tk 16 (v:=?_) rfl (Or.inl ⟨by rfl,?_⟩) ?_
   rotate_left
   ·intro w9 hSw
    go_simp
    first | done | with_reducible rfl
   simp only [pP,pN,pS,pZ,pC]
   refine tk 17 (v:=?_) rfl (Or.inl ⟨by rfl,?_⟩) ?_
   rotate_left
   ·intro w9 hSw
    go_simp
    first | done | with_reducible rfl
   simp only [pP,pN,pS,pZ,pC]
   refine tk 18 (v:=?_) rfl (Or.inl ⟨by rfl,?_⟩) ?_
   rotate_left
   ·intro w9 hSw
    go_simp
    first | done | with_reducible rfl
   simp only [pP,pN,pS,pZ,pC]
   refine tk 19 (v:=?_) rfl (Or.inl ⟨by rfl,?_⟩) ?_
   rotate_left
   ·intro w9 hSw
    go_simp
    first | done | with_reducible rfl
   simp only [pP,pN,pS,pZ,pC]
   refine tk 20 (v:=?_) rfl (Or.inl ⟨by rfl,?_⟩) ?_
   rotate_left
   ·intro w9 hSw
    go_simp
    first | done | with_reducible rfl
   simp only [pP,pN,pS,pZ,pC]
   refine tk 21 (v:=?_) rfl (Or.inl ⟨by rfl,?_⟩) ?_
   rotate_left
   ·intro w9 hSw
    go_simp
    first | done | with_reducible rfl
   simp only [pP,pN,pS,pZ,pC]
   refine tk 22 (v:=?_) rfl (Or.inl ⟨by rfl,?_⟩) ?_
   rotate_left
   ·intro w9 hSw
    go_simp
    first | done | with_reducible rfl
   simp only [pP,pN,pS,pZ,pC]
   refine tk 23 (v:=?_) rfl (Or.inl ⟨by rfl,?_⟩) ?_
   rotate_left
   ·intro w9 hSw
    go_simp
    first | done | with_reducible rfl
   simp only [pP,pN,pS,pZ,pC]
   refine tk 24 (v:=?_) rfl (Or.inl ⟨by rfl,?_⟩) ?_
   rotate_left
   ·intro w9 hSw
    go_simp
    first | done | with_reducible rfl
   simp only [pP,pN,pS,pZ,pC]
   refine tk 25 (v:=?_) rfl (Or.inl ⟨by rfl,?_⟩) ?_
   rotate_left
   ·intro w9 hSw
    go_simp
    first | done | with_reducible rfl
   simp only [pP,pN,pS,pZ,pC]
   refine wpAnyH_ready (rs:=[26]) (by kernel_rfl) (by simp) ?_
   refine cons' rfl (fun KK hKK=>?_)
   go_simp
   refine (G.out _ bT).mono ?_
   rintro e w5 ⟨rfl,b5⟩
   have bC:=b5
   replace hB:=hB.trans (bC.mono hB.size)
   replace hBw:=hBw.trans (bC.mono hBw.size)
   replace bT:=bT.trans (bC.mono bT.size)
   replace hHeld:=(⟨below_cell bC hHeld.1,below_cell bC hHeld.2.1,below_cell bC hHeld.2.2.1,below_cell bC hHeld.2.2.2.1,below_cell bC hHeld.2.2.2.2.1,below_cell bC hHeld.2.2.2.2.2.1,below_cell bC hHeld.2.2.2.2.2.2.1,below_cell bC hHeld.2.2.2.2.2.2.2⟩:_∧_∧_∧_∧_∧_∧_∧_)
   clear bC
   go_wp2_with fail
   clear b5 G
   refine hKK.out _ _ hHeld ?_
   clear hHeld
   intro hHeld
   clear hKK KK
   try simp only [pP,pN,pS,pZ,pC]
   refine tk 27 (v:=?_) rfl (Or.inl ⟨by rfl,?_⟩) ?_
   rotate_left
   ·intro w9 hSw
    go_simp
    first | done | with_reducible rfl
   simp only [pP,pN,pS,pZ,pC]
   refine tk 28 (v:=?_) rfl (Or.inl ⟨by rfl,?_⟩) ?_
   rotate_left
   ·intro w9 hSw
    go_simp
    first | done | with_reducible rfl
   simp only [pP,pN,pS,pZ,pC]
   refine wpAnyH_done (by kernel_rfl) ?_ _
   go_wp2
   go_roundw
   case rel=>exact ⟨k+1,by omega,by go_num,hB⟩
   case measure=>simp only [intOf];omega
  ·obtain rfl:k=R.length:=by omega
   have i1:¬ (R.length:Int) < (R.length:Int):=by omega
   go_wp2
   first | exact ⟨rfl,hBw⟩ | (go_ret;exact ⟨rfl,hBw⟩)
set_option maxHeartbeats 4000000 in
set_option maxRecDepth 100000 in
theorem alike_is (V:Int) (a:Option Addr) (c:Nat) (R:List RowV) (b:Option Addr) (d:Nat) (S:List RowV) (w:World) (hR:TNk w a R) (hS:TNk w b S) (hc:R.length≤c) (hd:S.length≤d) (hm:R.length≤1048576) (hfl:∀ r∈R,r.2.L.length≤2097152) (hfo:tb R=tb S) :
  Calls Tryz.prog 11 #[.agg #[.int .i64 V,.slice a R.length c],.agg #[.int .i64 V,.slice b S.length d]] w fun e w'=>e=.returned (.bool true)∧Below w.heap.size w w':=by
 have b1:=below_alloc (w:=w) (.cells #[.int .i64 V,.slice a R.length c] 24)
 have b2:=below_alloc (w:=w.alloc (.cells #[.int .i64 V,.slice a R.length c] 24)) (.cells #[.int .i64 V,.slice b S.length d] 24)
 have bA:=b1.trans (b2.mono b1.size)
 clear b1 b2
 have m0:((w.alloc (.cells #[.int .i64 V,.slice a R.length c] 24)).alloc (.cells #[.int .i64 V,.slice b S.length d] 24)).cell? ⟨w.heap.size,0,none⟩=some (.int .i64 V):=by go_simp
 have m1:((w.alloc (.cells #[.int .i64 V,.slice a R.length c] 24)).alloc (.cells #[.int .i64 V,.slice b S.length d] 24)).cell? ⟨w.heap.size,1,none⟩=some (.slice a R.length c):=by go_simp
 have n0:((w.alloc (.cells #[.int .i64 V,.slice a R.length c] 24)).alloc (.cells #[.int .i64 V,.slice b S.length d] 24)).cell? ⟨w.heap.size+1,0,none⟩=some (.int .i64 V):=by go_simp
 have n1:((w.alloc (.cells #[.int .i64 V,.slice a R.length c] 24)).alloc (.cells #[.int .i64 V,.slice b S.length d] 24)).cell? ⟨w.heap.size+1,1,none⟩=some (.slice b S.length d):=by go_simp
 have G:=hide' (fun w' (hb:Below w.heap.size w w')=>Alike_is V a c R b d S w' (hR.later hb) (hS.later hb) hc hd hm hfl hfo)
 clear hR hS hfo
 go_enter Tryz.func11,Tryz.ntmps11
 go_wp2_with fail
 obtain ⟨wA,hwA⟩:∃ wA,((w.alloc (.cells #[.int .i64 V,.slice a R.length c] 24)).alloc (.cells #[.int .i64 V,.slice b S.length d] 24))=wA:=⟨_,rfl⟩
 rw [hwA] at bA m0 m1 n0 n1 ⊢
 clear hwA
 try go_wp2_with fail
 refine (G.out _ bA).mono ?_
 rintro e w1 ⟨rfl,b1⟩
 have hB:=bA.trans (b1.mono bA.size)
 clear b1 bA G
 go_wp2
 first | exact ⟨rfl,hB⟩ | (go_ret;exact ⟨rfl,hB⟩)
set_option maxHeartbeats 4000000 in
set_option maxRecDepth 100000 in
theorem pCheck_is (V:Int) (a:Option Addr) (c:Nat) (R:List RowV) (w:World) (hT:TIn w a R) (hc:R.length≤c) (hbu:bulT R≤1048576) (hw:∀ r∈R,wfo r.2.fo) :
  Calls Tryz.prog 12 #[.agg #[.int .i64 V,.slice a R.length c]] w (CkA w V R):=by
 obtain ⟨TQ,hTQ⟩:∃ TQ,CkA w V R=TQ:=⟨_,rfl⟩
 rw [hTQ]
 replace hTQ:=hide' hTQ
 have GR:=hide' (fun w' (hb:Below w.heap.size w w')=>tabRead_is V a c R w' (hT.later hb) hc hbu hw)
 clear hT hw
 have b1:=below_alloc (w:=w) (.cells #[.int .i64 V,.slice a R.length c] 24)
 have m0:(w.alloc (.cells #[.int .i64 V,.slice a R.length c] 24)).cell? ⟨w.heap.size,0,none⟩=some (.int .i64 V):=by go_simp
 have m1:(w.alloc (.cells #[.int .i64 V,.slice a R.length c] 24)).cell? ⟨w.heap.size,1,none⟩=some (.slice a R.length c):=by go_simp
 have hBw:=b1
 clear b1
 go_enter Tryz.func12,Tryz.ntmps12
 go_wp2_with fail
 obtain ⟨wA,hwA⟩:∃ wA,(w.alloc (.cells #[.int .i64 V,.slice a R.length c] 24))=wA:=⟨_,rfl⟩
 rw [hwA] at m0 m1 hBw ⊢
 clear hwA
 refine (GR.out _ hBw).mono ?_
 rintro e w1 ⟨b1,⟨hmb,rfl⟩ | ⟨hmb,b,g,rfl,hbb,hM,hRF⟩⟩
 ·have hB:=hBw.trans (b1.mono hBw.size)
  have HX:=hide' (show CkA w V R (.returned (.int .i64 70)) w1 from ⟨hB,Or.inr ⟨hmb,rfl⟩⟩)
  rw [hTQ.out] at HX
  clear hmb b1 GR hB
  go_wp2
  first | exact HX.out | (go_ret;exact HX.out)
 ·have hB:=hBw.trans (b1.mono hBw.size)
  have HX:=hide' (show CkA w V R (.returned (.int .i64 0)) w1 from ⟨hB,Or.inl ⟨hmb,rfl⟩⟩)
  clear hM hRF hbb
  rw [hTQ.out] at HX
  clear hmb b1 GR hB
  go_wp2
  first | exact HX.out | (go_ret;exact HX.out)
set_option maxHeartbeats 4000000 in
set_option maxRecDepth 100000 in
theorem pNormT_is (V:Int) (a:Option Addr) (c:Nat) (R:List RowV) (w:World) (hT:TIn w a R) (hc:R.length≤c) (hbu:bulT R≤1048576) (hw:∀ r∈R,wfo r.2.fo) :
  Calls Tryz.prog 15 #[.agg #[.int .i64 V,.slice a R.length c]] w (NmA w V R):=by
 obtain ⟨TQ,hTQ⟩:∃ TQ,NmA w V R=TQ:=⟨_,rfl⟩
 rw [hTQ]
 replace hTQ:=hide' hTQ
 have hlen:R.length≤1048576:=by have:=bulT_len R;omega
 have GR:=hide' (fun w' (hb:Below w.heap.size w w')=>tabRead_is V a c R w' (hT.later hb) hc hbu hw)
 clear hT hw
 have b1:=below_alloc (w:=w) (.cells #[.int .i64 V,.slice a R.length c] 24)
 have b2:=below_alloc (w:=w.alloc (.cells #[.int .i64 V,.slice a R.length c] 24)) (.cells #[.int .i64 0,.slice none 0 0] 24)
 have m0:((w.alloc (.cells #[.int .i64 V,.slice a R.length c] 24)).alloc (.cells #[.int .i64 0,.slice none 0 0] 24)).cell? ⟨w.heap.size,0,none⟩=some (.int .i64 V):=by go_simp
 have m1:((w.alloc (.cells #[.int .i64 V,.slice a R.length c] 24)).alloc (.cells #[.int .i64 0,.slice none 0 0] 24)).cell? ⟨w.heap.size,1,none⟩=some (.slice a R.length c):=by go_simp
 have k2:Bk2 ((w.alloc (.cells #[.int .i64 V,.slice a R.length c] 24)).alloc (.cells #[.int .i64 0,.slice none 0 0] 24)) (w.heap.size+1) 0 none 0 0:=by have:=Bk2.new (w.alloc (.cells #[.int .i64 V,.slice a R.length c] 24)) 0 none 0 0 24;simpa using this
 have hsz:((w.alloc (.cells #[.int .i64 V,.slice a R.length c] 24)).alloc (.cells #[.int .i64 0,.slice none 0 0] 24)).heap.size=w.heap.size+1+1:=by simp
 have hBw:=b1.trans (b2.mono b1.size)
 clear b1 b2
 go_enter Tryz.func15,Tryz.ntmps15
 go_wp2_with fail
 obtain ⟨wA,hwA⟩:∃ wA,((w.alloc (.cells #[.int .i64 V,.slice a R.length c] 24)).alloc (.cells #[.int .i64 0,.slice none 0 0] 24))=wA:=⟨_,rfl⟩
 rw [hwA] at m0 m1 hBw k2 hsz ⊢
 clear hwA
 obtain ⟨rb,hrb⟩:∃ rb,w.heap.size+1=rb:=⟨_,rfl⟩
 rw [hrb] at k2 hsz
 try rw [hrb]
 have HQ:=hide' (show w.heap.size≤rb∧rb < wA.heap.size by omega)
 clear hrb hsz
 refine (GR.out _ hBw).mono ?_
 rintro e w1 ⟨b1,⟨hmb,rfl⟩ | ⟨hmb,b,g,rfl,hbb,hM,hRF⟩⟩
 ·skip
  replace m0:=below_cell b1 m0
  replace m1:=below_cell b1 m1
  replace k2:=k2.later b1
  replace hBw:=hBw.trans (b1.mono hBw.size)
  have hs1:=b1.size
  clear b1 GR
  have z0:=k2.cell0
  have z1:=k2.cell1
  have fz:=fun o=>k2.row.frozen o
  have HX:=hide' (show ∀ w',Below w.heap.size w w'→NmA w V R (.returned (.tuple #[noTb,.int .i64 70])) w' from fun w' hb=>Or.inr ⟨hmb,rfl,hb⟩)
  rw [hTQ.out] at HX
  clear hmb k2
  go_wp2
  first | exact HX.out _ (by first | exact hBw | (refine Below.setCell (Below.setCell hBw ?_ _) ?_ _ <;> exact HQ.out.1)) | (refine bodyPost_ret (v:=.tuple #[noTb,.int .i64 70]) (by rw [results_ct rfl];go_simp) rfl ?_;exact HX.out _ (by first | exact hBw | (refine Below.setCell (Below.setCell hBw ?_ _) ?_ _ <;> exact HQ.out.1)))
 ·skip
  replace m0:=below_cell b1 m0
  replace m1:=below_cell b1 m1
  replace k2:=k2.later b1
  replace hBw:=hBw.trans (b1.mono hBw.size)
  have hs1:=b1.size
  clear b1 GR
  have G2:=hide' (told_is V b R.length g w1 hM hlen hRF.nk)
  have HMB:=hide' hmb
  have HRF:=hide' hRF
  clear hM hmb hRF hbb
  go_wp2_with fail
  refine G2.out.mono ?_
  rintro e w2 ⟨v,S,rfl,⟨⟨ar,cr,rfl,hn,hl,hf⟩,hb2,hr⟩,hSl,hlk⟩
  replace k2:=k2.later hb2
  have z0:=k2.cell0
  have z1:=k2.cell1
  have fz:=fun o=>k2.row.frozen o
  have HX:=hide' (show NmA w V R (.returned (.tuple #[.agg #[.int .i64 V,.slice ar S.length cr],.int .i64 0])) ((w2.setCell ⟨rb,0,none⟩ (.int .i64 V)).setCell ⟨rb,1,none⟩ (.slice ar S.length cr)) from Or.inl ⟨HMB.out,_,S,rfl,TbA.store hn hl hf hBw.size (hBw.trans (hb2.mono hBw.size)) hr k2 (by have:=HQ.out;omega) HQ.out.1,nrmT_of HRF.out hlk hr,hSl⟩)
  rw [hTQ.out] at HX
  clear hn hf hb2 hr hlk k2 G2
  go_wp2
  first | exact HX.out | (refine bodyPost_ret (v:=.tuple #[.agg #[.int .i64 V,.slice ar S.length cr],.int .i64 0]) (by rw [results_ct rfl];go_simp) rfl ?_;exact HX.out)
end Go.Proofs.YtlklfkkbdcglbaaGreat
