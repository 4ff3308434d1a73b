import Derived.Test.YtfppjaoddicgpaaGreatDoorWG6
set_option linter.unusedSimpArgs false
namespace Go.Proofs.YtfppjaoddicgpaaGreatDoor
open Go.RowKit
set_option linter.unusedVariables false
theorem sR_le0 {r:Rat} {C:Int} (h:sR r=C):(C≤0↔¬ 0 < r):=by rw [←h];exact sR_pos
theorem sR_lt0 {r t:Rat} {C:Int} (h:sR (r - t)=C):(C < 0↔r < t):=by rw [←h];exact lt_sR r t
set_option maxHeartbeats 8000000 in
set_option maxRecDepth 100000 in
theorem vSmall_is (a:Option Addr) (n cap:Nat) (k:Nat→GapV) (w:World) (hA:GapsAt w a n k) (hok:∀ i,i < n→(k i).ok w∧(k i).tiny) (hc:n≤cap) (hn:n≤1048576) :
  Calls Tryz.prog 16 #[.slice a n cap] w fun e w'=>((∀ i,i < n→¬ badG (k i).val)∧∃ p q,e=.returned (.tuple #[.agg #[.bool (ng (smallG (gl k n)).num),.slice p (ln (am (smallG (gl k n)).num)) (ln (am (smallG (gl k n)).num)),.slice q (ln (smallG (gl k n)).den) (ln (smallG (gl k n)).den)],.int .i64 0])∧Below w.heap.size w w'∧(nR (smallG (gl k n)) p q).ok w')∨((∃ i,i < n∧badG (k i).val)∧e=.returned (.tuple #[.agg #[.bool false,.slice none 0 0,.slice none 0 0],.int .i64 51])∧Below w.heap.size w w'):=by
 have GW:=hide' vwholeQ1
 have HK:=hide' (fun i (hi:i < n)=>hok i hi)
 have SZ:=hide' (fun j (hj:j≤n)=>small_sz (k:=k) (w:=w) j fun i hi=>hok i (by omega))
 have HA:=hide' hA
 clear hok hA
 go_enter Tryz.func16,Tryz.ntmps16
 go_wp2_with fail
 obtain ⟨wA,hwA⟩:∃ wA,w.alloc (.cells #[.bool false,.slice none 0 0,.slice none 0 0] 27)=wA:=⟨_,rfl⟩
 have hB:Below w.heap.size w wA:=by subst hwA;exact below_alloc _
 have v2:Thr wA w.heap.size (.bool false) (.slice none 0 0) (.slice none 0 0):=by subst hwA;exact ⟨⟨by go_simp,by go_simp,by go_simp⟩,row_new w _ 27⟩
 rw [hwA]
 clear hwA
 refine (GW.out _).mono ?_
 rintro e w1 ⟨p0,q0,rfl,b1,h1⟩
 replace v2:=v2.later b1
 replace hB:=hB.trans (b1.mono hB.size)
 clear b1 GW
 obtain ⟨r0,hr0⟩:∃ r:Rat,1=r:=⟨_,rfl⟩
 have hr1:smallG (gl k 0)=r0:=hr0
 rw [hr0] at h1 ⊢
 clear hr0
 obtain ⟨wC,hwC⟩:∃ wC,w1.alloc (.cells #[.bool (ng r0.num),.slice p0 (ln (am r0.num)) (ln (am r0.num)),.slice q0 (ln r0.den) (ln r0.den)] 27)=wC:=⟨_,rfl⟩
 have bC:Below w1.heap.size w1 wC:=by subst hwC;exact below_alloc _
 have v4:Thr wC w1.heap.size (.bool (ng r0.num)) (.slice p0 (ln (am r0.num)) (ln (am r0.num))) (.slice q0 (ln r0.den) (ln r0.den)):=by subst hwC;exact ⟨⟨by go_simp,by go_simp,by go_simp⟩,row_new w1 _ 27⟩
 have l2:=v2.2.lt
 replace v2:=v2.later bC
 replace hB:=hB.trans (bC.mono hB.size)
 replace h1:=h1.on bC
 clear bC
 go_wp2_with fail
 obtain ⟨c4,hc4⟩:∃ c,w1.heap.size=c:=⟨_,rfl⟩
 rw [hc4] at v4 l2 ⊢
 clear hwC hc4
 go_loopw [5] (fun vi wr=>∃ j:Nat,j≤n∧vi=.int .i64 j∧(∀ i,i < j→¬ badG (k i).val)∧Below wC.heap.size wC wr) (fun vi _=>n - (intOf vi).toNat)
 case atStart=>exact ⟨0,Nat.zero_le _,rfl,fun i hi=>absurd hi (by omega),Below.refl _ _⟩
 case round =>
  obtain ⟨j,hj,rfl,hbad,bL⟩:=hrel
  replace v2:=v2.later bL
  replace v4:=v4.later bL
  replace h1:=h1.on bL
  replace hB:=hB.trans (bL.mono hB.size)
  by_cases hlt:j < n
  ·obtain ⟨bb,off,rfl,hb,hcell⟩:=HA.out (by omega)
   obtain ⟨gk,hgk⟩:∃ gk,k j=gk:=⟨_,rfl⟩
   have hcj:=(hcell j hlt).later hB
   obtain ⟨hok,htn⟩:=HK.out j hlt
   rw [hgk] at hcj hok htn
   obtain ⟨d0,d1,d2,d3,d4,d5,d6,d7,d8,d9,d10,d11⟩:=hcj
   rw [Nat.add_zero] at d0
   have j0:(0:Int)≤(j:Int):=by omega
   have j1:(j:Int) < (n:Int):=by omega
   replace hok:=hok.on hB
   have G1:=hide' (fun w' (hb:Below wr.heap.size wr w')=>vcmpDq gk.lo gk.hi w' (hok.1.on hb) (hok.2.on hb) htn.1.short htn.2.short)
   have hbc:=bad_cmp gk
   obtain ⟨C,hC⟩:∃ C,cmpD gk.lo.val gk.hi.val=C:=⟨_,rfl⟩
   rw [hC] at G1 hbc
   replace hbc:=hide' hbc
   clear hC hcell hok htn HA HK SZ hr1
   have bR:Below wr.heap.size wr wr:=Below.refl _ _
   replace hbad:=hide' hbad
   go_wp2_with fail
   have bD:Below wr.heap.size wr wr.drew:=(Below.refl _ _).drew
   have kd0:=below_cell bD d0
   have kd1:=below_cell bD d1
   have kd2:=below_cell bD d2
   have kd3:=below_cell bD d3
   have kd4:=below_cell bD d4
   have kd5:=below_cell bD d5
   have kd6:=below_cell bD d6
   have kd7:=below_cell bD d7
   have kd8:=below_cell bD d8
   have kd9:=below_cell bD d9
   have kd10:=below_cell bD d10
   have kd11:=below_cell bD d11
   replace hB:=hB.trans (bD.mono hB.size)
   replace bR:=bR.trans (bD.mono bR.size)
   replace v2:=v2.later bD
   refine wp_region_held_drew (S:=fun w'=>w'.cell? ⟨bb,off+j*12,none⟩=some (.bool gk.lo.a.s)∧w'.cell? ⟨bb,off+j*12+1,none⟩=some (.slice gk.lo.a.a gk.lo.a.n gk.lo.a.c)∧w'.cell? ⟨bb,off+j*12+2,none⟩=some (.slice gk.lo.a.b gk.lo.a.m gk.lo.a.e)∧w'.cell? ⟨bb,off+j*12+3,none⟩=some (.bool gk.lo.b.s)∧w'.cell? ⟨bb,off+j*12+4,none⟩=some (.slice gk.lo.b.a gk.lo.b.n gk.lo.b.c)∧w'.cell? ⟨bb,off+j*12+5,none⟩=some (.slice gk.lo.b.b gk.lo.b.m gk.lo.b.e)∧w'.cell? ⟨bb,off+j*12+6,none⟩=some (.bool gk.hi.a.s)∧w'.cell? ⟨bb,off+j*12+7,none⟩=some (.slice gk.hi.a.a gk.hi.a.n gk.hi.a.c)∧w'.cell? ⟨bb,off+j*12+8,none⟩=some (.slice gk.hi.a.b gk.hi.a.m gk.hi.a.e)∧w'.cell? ⟨bb,off+j*12+9,none⟩=some (.bool gk.hi.b.s)∧w'.cell? ⟨bb,off+j*12+10,none⟩=some (.slice gk.hi.b.a gk.hi.b.n gk.hi.b.c)∧w'.cell? ⟨bb,off+j*12+11,none⟩=some (.slice gk.hi.b.b gk.hi.b.m gk.hi.b.e)) (by kernel_rfl) ⟨kd0,kd1,kd2,kd3,kd4,kd5,kd6,kd7,kd8,kd9,kd10,kd11⟩ (fun hHeld=>?_)
   clear kd0 kd1 kd2 kd3 kd4 kd5 kd6 kd7 kd8 kd9 kd10 kd11
   generalize wr.drew=w11 at bD v2 hB bR hHeld ⊢
   clear bD d0 d1 d2 d3 d4 d5 d6 d7 d8 d9 d10 d11
   refine tk 0 (v:=?_) rfl (Or.inl ⟨by rfl,?_⟩) ?_
   rotate_left
   ·intro w9 hSw
    go_simp
    first | done | with_reducible rfl
   simp only [pP,pN,pS,pZ,pC]
   refine tk 1 (v:=?_) rfl (Or.inl ⟨by rfl,?_⟩) ?_
   rotate_left
   ·intro w9 hSw
    go_simp
    first | done | with_reducible rfl
   simp only [pP,pN,pS,pZ,pC]
   refine tk 2 (v:=?_) rfl (Or.inl ⟨by rfl,?_⟩) ?_
   rotate_left
   ·intro w9 hSw
    go_simp
    first | done | with_reducible rfl
   simp only [pP,pN,pS,pZ,pC]
   refine tk 3 (v:=?_) rfl (Or.inl ⟨by rfl,?_⟩) ?_
   rotate_left
   ·intro w9 hSw
    go_simp
    first | done | with_reducible rfl
   simp only [pP,pN,pS,pZ,pC]
   refine tk 4 (v:=?_) rfl (Or.inl ⟨by rfl,?_⟩) ?_
   rotate_left
   ·intro w9 hSw
    go_simp
    first | done | with_reducible rfl
   simp only [pP,pN,pS,pZ,pC]
   refine tk 5 (v:=?_) rfl (Or.inl ⟨by rfl,?_⟩) ?_
   rotate_left
   ·intro w9 hSw
    go_simp
    first | done | with_reducible rfl
   simp only [pP,pN,pS,pZ,pC]
   refine tk 6 (v:=?_) rfl (Or.inl ⟨by rfl,?_⟩) ?_
   rotate_left
   ·intro w9 hSw
    go_simp
    first | done | with_reducible rfl
   simp only [pP,pN,pS,pZ,pC]
   refine tk 7 (v:=?_) rfl (Or.inl ⟨by rfl,?_⟩) ?_
   rotate_left
   ·intro w9 hSw
    go_simp
    first | done | with_reducible rfl
   simp only [pP,pN,pS,pZ,pC]
   refine tk 8 (v:=?_) rfl (Or.inl ⟨by rfl,?_⟩) ?_
   rotate_left
   ·intro w9 hSw
    go_simp
    first | done | with_reducible rfl
   simp only [pP,pN,pS,pZ,pC]
   refine tk 9 (v:=?_) rfl (Or.inl ⟨by rfl,?_⟩) ?_
   rotate_left
   ·intro w9 hSw
    go_simp
    first | done | with_reducible rfl
   simp only [pP,pN,pS,pZ,pC]
   refine wpAnyH_ready (rs:=[10]) (by kernel_rfl) (by simp) ?_
   refine cons' rfl (fun KK hKK=>?_)
   go_simp
   refine (G1.out _ bR).mono ?_
   rintro e w12 ⟨rfl,b5⟩
   have bC:=b5
   replace hB:=hB.trans (bC.mono hB.size)
   replace bR:=bR.trans (bC.mono bR.size)
   replace v2:=v2.later bC
   replace hHeld:=(⟨below_cell bC hHeld.1,below_cell bC hHeld.2.1,below_cell bC hHeld.2.2.1,below_cell bC hHeld.2.2.2.1,below_cell bC hHeld.2.2.2.2.1,below_cell bC hHeld.2.2.2.2.2.1,below_cell bC hHeld.2.2.2.2.2.2.1,below_cell bC hHeld.2.2.2.2.2.2.2.1,below_cell bC hHeld.2.2.2.2.2.2.2.2.1,below_cell bC hHeld.2.2.2.2.2.2.2.2.2.1,below_cell bC hHeld.2.2.2.2.2.2.2.2.2.2.1,below_cell bC hHeld.2.2.2.2.2.2.2.2.2.2.2⟩:_∧_∧_∧_∧_∧_∧_∧_∧_∧_∧_∧_)
   clear bC
   go_wp2_with fail
   clear b5
   refine hKK.out _ _ hHeld ?_
   clear hHeld
   intro hHeld
   clear hKK KK
   try simp only [pP,pN,pS,pZ,pC]
   refine tk 11 (v:=?_) rfl (Or.inl ⟨by rfl,?_⟩) ?_
   rotate_left
   ·intro w9 hSw
    go_simp
    first | done | with_reducible rfl
   simp only [pP,pN,pS,pZ,pC]
   refine wpAnyH_done (by kernel_rfl) ?_ _
   clear hHeld G1
   by_cases hbd:badG gk.val
   ·have c1:0 < C:=hbc.out.2 hbd
    have fz:=fun o=>v2.2.frozen o
    have z0:=v2.1.1
    have z1:=v2.1.2.1
    have z2:=v2.1.2.2
    have bE2:=hide' (below_set3 (u0:=.bool false) (u1:=.slice none 0 0) (u2:=.slice none 0 0) hB (Nat.le_refl _))
    have rD:=v2.put (u0:=.bool false) (u1:=.slice none 0 0) (u2:=.slice none 0 0)
    obtain ⟨⟨x0,x1,x2⟩,_⟩:=rD
    clear v2 hB bR v4 h1 bL
    go_wp2
    refine bodyPost_ret (v:=Value.tuple #[Value.agg #[Value.bool false,Value.slice none 0 0,Value.slice none 0 0],.int .i64 51]) (by rw [results_cell_tmp rfl];go_simp) rfl ?_
    exact Or.inr ⟨⟨j,hlt,by rw [hgk];exact hbd⟩,rfl,bE2.out⟩
   ·have c1:¬ 0 < C:=fun h=>hbd (hbc.out.1 h)
    have I1:=hide' (show (∀ i,i < j+1→¬ badG (k i).val)∧Below wC.heap.size wC w12 from ⟨fun i hi=>by
     rcases Nat.lt_or_ge i j with h | h
     ·exact hbad.out i h
     ·obtain rfl:i=j:=by omega
      rw [hgk];exact hbd,bL.trans (bR.mono bL.size)⟩)
    clear hbad bL bR v2 v4 h1 hB
    go_wp2
    go_roundw
    case rel=>exact ⟨j+1,by omega,by go_num,I1.out⟩
    case measure=>simp [intOf];omega
  ·obtain rfl:j=n:=by omega
   have i1:¬ (j:Int) < (j:Int):=by omega
   clear bL
   obtain ⟨wD,hwD⟩:∃ x,x=wr:=⟨wr,rfl⟩
   subst hwD
   go_wp2_with fail
   go_loopw [6] (fun vi w0=>∃ t:Nat,t≤j∧vi=.int .i64 t∧∃ p q,Below c4 wD w0∧Thr w0 c4 (.bool (ng (smallG (gl k t)).num)) (.slice p (ln (am (smallG (gl k t)).num)) (ln (am (smallG (gl k t)).num))) (.slice q (ln (smallG (gl k t)).den) (ln (smallG (gl k t)).den))∧(nR (smallG (gl k t)) p q).ok w0) (fun vi _=>j - (intOf vi).toNat)
   case atStart=>exact ⟨0,Nat.zero_le _,rfl,p0,q0,Below.refl _ _,by rw [hr1];exact v4,by rw [hr1];exact h1⟩
   case round =>
    clear v4 h1 hr1
    obtain ⟨t,ht,rfl,p,q,bL,vT,hr⟩:=hrel
    have hsz:=SZ.out t ht
    obtain ⟨r,hrr⟩:∃ r,smallG (gl k t)=r:=⟨_,rfl⟩
    rw [hrr] at vT hr hsz
    replace hrr:=hide' hrr
    have hBr:Below w.heap.size w wr:=hB.trans (bL.mono (Nat.le_of_lt l2))
    have v2r:Thr wr w.heap.size (.bool false) (.slice none 0 0) (.slice none 0 0):=⟨⟨(cell_low bL l2).trans v2.1.1,(cell_low bL l2).trans v2.1.2.1,(cell_low bL l2).trans v2.1.2.2⟩,v2.2.below bL l2⟩
    by_cases hlt2:t < j
    ·obtain ⟨bb,off,rfl,hb,hcell⟩:=HA.out (by omega)
     obtain ⟨gk,hgk⟩:∃ gk,k t=gk:=⟨_,rfl⟩
     have hcj:=(hcell t hlt2).later hBr
     obtain ⟨hok,htn⟩:=HK.out t hlt2
     have hnb:=hbad t hlt2
     rw [hgk] at hcj hok htn hnb
     obtain ⟨d0,d1,d2,d3,d4,d5,d6,d7,d8,d9,d10,d11⟩:=hcj
     rw [Nat.add_zero] at d0
     have j0:(0:Int)≤(t:Int):=by omega
     have j1:(t:Int) < (j:Int):=by omega
     replace hok:=hok.on hBr
     obtain ⟨a1,a2⟩:=tiny_sz hok.1 htn.1
     obtain ⟨e1,e2⟩:=tiny_sz hok.2 htn.2
     have sH:sz 8388622 (gk.hi.a.val - gk.lo.a.val):=(sz_subG e1 a1).mono (by omega)
     have sD:sz 8388622 (gk.lo.b.val - gk.hi.b.val):=(sz_subG a2 e2).mono (by omega)
     have G1:=hide' (fun w' (hb:Below wr.heap.size wr w')=>vsubQ gk.hi.a gk.lo.a (gk.hi.a.val - gk.lo.a.val) w' (hok.2.1.on hb) (hok.1.1.on hb) ⟨by have:=htn.2.1;omega,by have:=htn.2.2.1;omega,by have:=htn.1.1;omega,by have:=htn.1.2.1;omega⟩ rfl (sH.mono (by omega)))
     have G2:=hide' (fun w' (hb:Below wr.heap.size wr w')=>vsubQ gk.lo.b gk.hi.b (gk.lo.b.val - gk.hi.b.val) w' (hok.1.2.on hb) (hok.2.2.on hb) ⟨by have:=htn.1.2.2.1;omega,by have:=htn.1.2.2.2;omega,by have:=htn.2.2.2.1;omega,by have:=htn.2.2.2.2;omega⟩ rfl (sD.mono (by omega)))
     have hH0:nar gk.val→0 < gk.hi.a.val - gk.lo.a.val:=fun hn=>nar_high hnb hn
     have hD0:nar gk.val↔0 < gk.lo.b.val - gk.hi.b.val:=by show gk.hi.b.val < gk.lo.b.val↔_;constructor <;> intro h <;> grind
     have hS0:(gk.hi.a.val - gk.lo.a.val) / (gk.lo.b.val - gk.hi.b.val)=shutR gk.val:=rfl
     have sS:nar gk.val→sz 8388622 (shutR gk.val):=fun hn=>shut_sz hok htn hn
     obtain ⟨H,hHe⟩:∃ H,gk.hi.a.val - gk.lo.a.val=H:=⟨_,rfl⟩
     obtain ⟨D,hDe⟩:∃ D,gk.lo.b.val - gk.hi.b.val=D:=⟨_,rfl⟩
     rw [hHe] at G1 hH0 hS0 sH
     rw [hDe] at G2 hD0 hS0 sD
     have GS1:=hide' (fun w' p q (h:(nR H p q).ok w')=>show Calls Tryz.prog 40 #[.agg #[.bool (ng H.num),.slice p (ln (am H.num)) (ln (am H.num)),.slice q (ln H.den) (ln H.den)]] w' (fun e w1=>e=.returned (.int .i64 (sR H))∧Below w'.heap.size w' w1) from vsignQ (nR H p q) w' h _ (by rw [nR_val]))
     obtain ⟨C1,hC1⟩:∃ C,sR H=C:=⟨_,rfl⟩
     have LC1:=hide' (sR_le0 hC1)
     rw [hC1] at GS1
     clear hC1
     have GS2:=hide' (fun w' p q (h:(nR D p q).ok w')=>show Calls Tryz.prog 40 #[.agg #[.bool (ng D.num),.slice p (ln (am D.num)) (ln (am D.num)),.slice q (ln D.den) (ln D.den)]] w' (fun e w1=>e=.returned (.int .i64 (sR D))∧Below w'.heap.size w' w1) from vsignQ (nR D p q) w' h _ (by rw [nR_val]))
     obtain ⟨C2,hC2⟩:∃ C,sR D=C:=⟨_,rfl⟩
     have LC2:=hide' (sR_le0 hC2)
     rw [hC2] at GS2
     clear hC2
     obtain ⟨S,hSe⟩:∃ S,shutR gk.val=S:=⟨_,rfl⟩
     rw [hSe] at hS0 sS
     have GD:=hide' (fun w' p q p1 q1 (hn:nar gk.val) (h:(nR H p q).ok w') (h8:(nR D p1 q1).ok w')=>vdivQ (nR H p q) (nR D p1 q1) S w' h h8 ⟨(nR_short sH).1,(nR_short sH).2,(nR_short sD).1,(nR_short sD).2⟩ (by rw [nR_val];have:=hD0.1 hn;grind) (by rw [nR_val,nR_val];exact hS0) ((sS hn).mono (by omega)))
     have GC:=hide' (fun w' p1 q1 p q (hn:nar gk.val) (h:(nR S p1 q1).ok w') (h8:(nR r p q).ok w')=>show Calls Tryz.prog 42 #[.agg #[.bool (ng S.num),.slice p1 (ln (am S.num)) (ln (am S.num)),.slice q1 (ln S.den) (ln S.den)],.agg #[.bool (ng r.num),.slice p (ln (am r.num)) (ln (am r.num)),.slice q (ln r.den) (ln r.den)]] w' (fun e w1=>e=.returned (.int .i64 (sR (S - r)))∧Below w'.heap.size w' w1) from vcmpQ (nR S p1 q1) (nR r p q) w' h h8 ⟨(nR_short (sS hn)).1,(nR_short (sS hn)).2,(nR_short hsz).1,(nR_short hsz).2⟩ _ (by rw [nR_val,nR_val]))
     obtain ⟨C3,hC3⟩:∃ C,sR (S - r)=C:=⟨_,rfl⟩
     have LC3:=hide' (sR_lt0 hC3)
     rw [hC3] at GC
     clear hC3
     have ST1:=hide' (show nar gk.val→S < r→smallG (gl k (t+1))=S from fun hn hl=>by rw [gl_succ,smallG_snoc,hrr.out,hgk];unfold stepG;rw [hSe,if_pos ⟨hn,hl⟩])
     have ST2:=hide' (show ¬ (nar gk.val∧S < r)→smallG (gl k (t+1))=r from fun hn=>by rw [gl_succ,smallG_snoc,hrr.out,hgk];unfold stepG;rw [hSe,if_neg hn])
     replace hH0:=hide' hH0
     replace hD0:=hide' hD0
     clear hcell hok htn HA HK SZ a1 a2 e1 e2 sH sD sS hS0 hHe hDe hSe hsz hnb
     have hcl:=vT.2.lt
     have bR:Below wr.heap.size wr wr:=Below.refl _ _
     clear hBr
     go_upto_region 10 with fail
     go_cut [7] from 37 to 49 (fun s9 wx=>∃ wh9 c p q,wh9=wx∧s9=.pointer (some ⟨c,0,none⟩)∧Thr wx c (.bool (ng H.num)) (.slice p (ln (am H.num)) (ln (am H.num))) (.slice q (ln H.den) (ln H.den))∧Below wr.heap.size wr wx∧(nR H p q).ok wx)
     case first =>
      have bT:Below wr.heap.size wr wr:=Below.refl _ _
      have hbl:bb < wr.heap.size:=World.block_lt_of_cell? wr ⟨bb,off+t*12+6,none⟩ d6
      have bD:Below wr.heap.size wr wr.drew:=(Below.refl _ _).drew
      have kd6:=below_cell bD d6
      have kd7:=below_cell bD d7
      have kd8:=below_cell bD d8
      have kd0:=below_cell bD d0
      have kd1:=below_cell bD d1
      have kd2:=below_cell bD d2
      replace bT:=bT.trans (bD.mono bT.size)
      replace bR:=bR.trans (bD.mono bR.size)
      refine wp_region_held_drew (S:=fun w'=>w'.cell? ⟨bb,off+t*12+6,none⟩=some (.bool gk.hi.a.s)∧w'.cell? ⟨bb,off+t*12+7,none⟩=some (.slice gk.hi.a.a gk.hi.a.n gk.hi.a.c)∧w'.cell? ⟨bb,off+t*12+8,none⟩=some (.slice gk.hi.a.b gk.hi.a.m gk.hi.a.e)∧w'.cell? ⟨bb,off+t*12,none⟩=some (.bool gk.lo.a.s)∧w'.cell? ⟨bb,off+t*12+1,none⟩=some (.slice gk.lo.a.a gk.lo.a.n gk.lo.a.c)∧w'.cell? ⟨bb,off+t*12+2,none⟩=some (.slice gk.lo.a.b gk.lo.a.m gk.lo.a.e)) (by kernel_rfl) ⟨kd6,kd7,kd8,kd0,kd1,kd2⟩ (fun hHeld=>?_)
      clear kd6 kd7 kd8 kd0 kd1 kd2
      generalize wr.drew=wF0 at bD bT bR hHeld ⊢
      clear bD d6 d7 d8 d0 d1 d2
      refine tk 0 (v:=?_) rfl (Or.inl ⟨by rfl,?_⟩) ?_
      rotate_left
      ·intro w9 hSw
       go_simp
       first | done | with_reducible rfl
      simp only [pP,pN,pS,pZ,pC]
      refine tk 1 (v:=?_) rfl (Or.inl ⟨by rfl,?_⟩) ?_
      rotate_left
      ·intro w9 hSw
       go_simp
       first | done | with_reducible rfl
      simp only [pP,pN,pS,pZ,pC]
      refine tk 2 (v:=?_) rfl (Or.inl ⟨by rfl,?_⟩) ?_
      rotate_left
      ·intro w9 hSw
       go_simp
       first | done | with_reducible rfl
      simp only [pP,pN,pS,pZ,pC]
      refine tk 3 (v:=?_) rfl (Or.inl ⟨by rfl,?_⟩) ?_
      rotate_left
      ·intro w9 hSw
       go_simp
       first | done | with_reducible rfl
      simp only [pP,pN,pS,pZ,pC]
      refine tk 4 (v:=?_) rfl (Or.inl ⟨by rfl,?_⟩) ?_
      rotate_left
      ·intro w9 hSw
       go_simp
       first | done | with_reducible rfl
      simp only [pP,pN,pS,pZ,pC]
      refine tk 5 (v:=?_) rfl (Or.inl ⟨by rfl,?_⟩) ?_
      rotate_left
      ·intro w9 hSw
       go_simp
       first | done | with_reducible rfl
      simp only [pP,pN,pS,pZ,pC]
      refine tk 6 (v:=?_) rfl (Or.inl ⟨by rfl,?_⟩) ?_
      rotate_left
      ·intro w9 hSw
       go_simp
       first | done | with_reducible rfl
      simp only [pP,pN,pS,pZ,pC]
      refine tk 7 (v:=?_) rfl (Or.inl ⟨by rfl,?_⟩) ?_
      rotate_left
      ·intro w9 hSw
       go_simp
       first | done | with_reducible rfl
      simp only [pP,pN,pS,pZ,pC]
      refine tk 8 (v:=?_) rfl (Or.inl ⟨by rfl,?_⟩) ?_
      rotate_left
      ·intro w9 hSw
       go_simp
       first | done | with_reducible rfl
      simp only [pP,pN,pS,pZ,pC]
      refine tk 9 (v:=?_) rfl (Or.inl ⟨by rfl,?_⟩) ?_
      rotate_left
      ·intro w9 hSw
       go_simp
       first | done | with_reducible rfl
      simp only [pP,pN,pS,pZ,pC]
      refine tk 10 (v:=?_) rfl (Or.inl ⟨by rfl,?_⟩) ?_
      rotate_left
      ·intro w9 hSw
       go_simp
       first | done | with_reducible rfl
      simp only [pP,pN,pS,pZ,pC]
      refine tk 11 (v:=?_) rfl (Or.inl ⟨by rfl,?_⟩) ?_
      rotate_left
      ·intro w9 hSw
       go_simp
       first | done | with_reducible rfl
      simp only [pP,pN,pS,pZ,pC]
      refine wpAnyH_ready (rs:=[12,13]) (by kernel_rfl) (by simp) ?_
      refine consT rfl (fun KK hKK=>?_) ?_
      ·skip
       go_simp
       refine (G1.out _ bR).mono ?_
       rintro e wF1 ⟨p,q,rfl,bV,hX⟩
       replace bT:=bT.trans (bV.mono bT.size)
       replace bR:=bR.trans (bV.mono bR.size)
       replace hHeld:=(⟨below_cell bV hHeld.1,below_cell bV hHeld.2.1,below_cell bV hHeld.2.2.1,below_cell bV hHeld.2.2.2.1,below_cell bV hHeld.2.2.2.2.1,below_cell bV hHeld.2.2.2.2.2⟩:_∧_∧_∧_∧_∧_)
       clear bV
       go_wp2_with fail
       refine hKK.out _ _ hHeld ?_
       clear hHeld
       intro hHeld
       clear hKK KK
       try simp only [pP,pN,pS,pZ,pC]
       refine wpAnyH_ready (rs:=[13]) (by kernel_rfl) (by simp) ?_
       refine cons' rfl (fun KK hKK=>?_)
       go_simp
       have vN:Thr (wF1.alloc (.cells #[.bool false,.slice none 0 0,.slice none 0 0] 27)) wF1.heap.size (.bool false) (.slice none 0 0) (.slice none 0 0):=⟨⟨by go_simp,by go_simp,by go_simp⟩,row_new wF1 _ 27⟩
       have bA:=below_alloc (w:=wF1) (.cells #[.bool false,.slice none 0 0,.slice none 0 0] 27)
       have hc9:wr.heap.size≤wF1.heap.size:=bT.size
       generalize wF1.alloc (.cells #[.bool false,.slice none 0 0,.slice none 0 0] 27)=wF2 at vN bA ⊢
       replace bT:=bT.trans (bA.mono bT.size)
       replace bR:=bR.trans (bA.mono bR.size)
       replace hHeld:=(⟨below_cell bA hHeld.1,below_cell bA hHeld.2.1,below_cell bA hHeld.2.2.1,below_cell bA hHeld.2.2.2.1,below_cell bA hHeld.2.2.2.2.1,below_cell bA hHeld.2.2.2.2.2⟩:_∧_∧_∧_∧_∧_)
       replace hX:=hX.on bA
       clear bA
       refine hKK.out _ _ hHeld ?_
       clear hHeld
       intro hHeld
       clear hKK KK
       try simp only [pP,pN,pS,pZ,pC]
       obtain ⟨cc,hcc⟩:∃ cc,wF1.heap.size=cc:=⟨_,rfl⟩
       rw [hcc] at vN hc9
       try rw [hcc]
       clear hcc
       refine wpAnyH_ready (rs:=[14]) (by kernel_rfl) (by simp) ?_
       refine cons' rfl (fun KK hKK=>?_)
       have fz:=fun o=>vN.2.frozen o
       have hX2:(nR H p q).ok (set3 wF2 cc (.bool (ng H.num)) (.slice p (ln (am H.num)) (ln (am H.num))) (.slice q (ln H.den) (ln H.den))):=⟨vN.seg (by simp) (by simp) (by simp) hX.1,hX.2.1,hX.2.2.1,vN.seg (by simp) (by simp) (by simp) hX.2.2.2.1,hX.2.2.2.2.1,hX.2.2.2.2.2⟩
       replace bT:=below_set3 (u0:=.bool (ng H.num)) (u1:=.slice p (ln (am H.num)) (ln (am H.num))) (u2:=.slice q (ln H.den) (ln H.den)) bT hc9
       have hH2:=(⟨(set3_far (w:=wF2) (c:=cc) (b:=bb) (o:=off+t*12+6) (u0:=.bool (ng H.num)) (u1:=.slice p (ln (am H.num)) (ln (am H.num))) (u2:=.slice q (ln H.den) (ln H.den)) (by omega)).trans hHeld.1,(set3_far (w:=wF2) (c:=cc) (b:=bb) (o:=off+t*12+7) (u0:=.bool (ng H.num)) (u1:=.slice p (ln (am H.num)) (ln (am H.num))) (u2:=.slice q (ln H.den) (ln H.den)) (by omega)).trans hHeld.2.1,(set3_far (w:=wF2) (c:=cc) (b:=bb) (o:=off+t*12+8) (u0:=.bool (ng H.num)) (u1:=.slice p (ln (am H.num)) (ln (am H.num))) (u2:=.slice q (ln H.den) (ln H.den)) (by omega)).trans hHeld.2.2.1,(set3_far (w:=wF2) (c:=cc) (b:=bb) (o:=off+t*12) (u0:=.bool (ng H.num)) (u1:=.slice p (ln (am H.num)) (ln (am H.num))) (u2:=.slice q (ln H.den) (ln H.den)) (by omega)).trans hHeld.2.2.2.1,(set3_far (w:=wF2) (c:=cc) (b:=bb) (o:=off+t*12+1) (u0:=.bool (ng H.num)) (u1:=.slice p (ln (am H.num)) (ln (am H.num))) (u2:=.slice q (ln H.den) (ln H.den)) (by omega)).trans hHeld.2.2.2.2.1,(set3_far (w:=wF2) (c:=cc) (b:=bb) (o:=off+t*12+2) (u0:=.bool (ng H.num)) (u1:=.slice p (ln (am H.num)) (ln (am H.num))) (u2:=.slice q (ln H.den) (ln H.den)) (by omega)).trans hHeld.2.2.2.2.2⟩:_∧_∧_∧_∧_∧_)
       have vN2:=vN.put (u0:=.bool (ng H.num)) (u1:=.slice p (ln (am H.num)) (ln (am H.num))) (u2:=.slice q (ln H.den) (ln H.den))
       have z0:=vN.1.1
       have z1:=vN.1.2.1
       have z2:=vN.1.2.2
       go_simp
       clear z0 z1 z2 vN fz
       refine hKK.out _ _ hH2 ?_
       clear hHeld
       intro hHeld
       clear hKK KK
       try simp only [pP,pN,pS,pZ,pC]
       clear hH2
       refine wpAnyH_done (by kernel_rfl) ?_ _
       go_wp2_with fail
       go_meet
       exact ⟨_,cc,p,q,rfl,rfl,vN2,bT,hX2⟩
      refine consT rfl (fun KK hKK=>?_) ?_
      ·skip
       go_simp
       have vN:Thr (wF0.alloc (.cells #[.bool false,.slice none 0 0,.slice none 0 0] 27)) wF0.heap.size (.bool false) (.slice none 0 0) (.slice none 0 0):=⟨⟨by go_simp,by go_simp,by go_simp⟩,row_new wF0 _ 27⟩
       have bA:=below_alloc (w:=wF0) (.cells #[.bool false,.slice none 0 0,.slice none 0 0] 27)
       have hc9:wr.heap.size≤wF0.heap.size:=bT.size
       generalize wF0.alloc (.cells #[.bool false,.slice none 0 0,.slice none 0 0] 27)=wF3 at vN bA ⊢
       replace bT:=bT.trans (bA.mono bT.size)
       replace bR:=bR.trans (bA.mono bR.size)
       replace hHeld:=(⟨below_cell bA hHeld.1,below_cell bA hHeld.2.1,below_cell bA hHeld.2.2.1,below_cell bA hHeld.2.2.2.1,below_cell bA hHeld.2.2.2.2.1,below_cell bA hHeld.2.2.2.2.2⟩:_∧_∧_∧_∧_∧_)
       clear bA
       refine hKK.out _ _ hHeld ?_
       clear hHeld
       intro hHeld
       clear hKK KK
       try simp only [pP,pN,pS,pZ,pC]
       obtain ⟨cc,hcc⟩:∃ cc,wF0.heap.size=cc:=⟨_,rfl⟩
       rw [hcc] at vN hc9
       try rw [hcc]
       clear hcc
       refine wpAnyH_ready (rs:=[12]) (by kernel_rfl) (by simp) ?_
       refine cons' rfl (fun KK hKK=>?_)
       go_simp
       refine (G1.out _ bR).mono ?_
       rintro e wF4 ⟨p,q,rfl,bV,hX⟩
       replace bT:=bT.trans (bV.mono bT.size)
       replace bR:=bR.trans (bV.mono bR.size)
       replace vN:=vN.later bV
       replace hHeld:=(⟨below_cell bV hHeld.1,below_cell bV hHeld.2.1,below_cell bV hHeld.2.2.1,below_cell bV hHeld.2.2.2.1,below_cell bV hHeld.2.2.2.2.1,below_cell bV hHeld.2.2.2.2.2⟩:_∧_∧_∧_∧_∧_)
       clear bV
       go_wp2_with fail
       refine hKK.out _ _ hHeld ?_
       clear hHeld
       intro hHeld
       clear hKK KK
       try simp only [pP,pN,pS,pZ,pC]
       refine wpAnyH_ready (rs:=[14]) (by kernel_rfl) (by simp) ?_
       refine cons' rfl (fun KK hKK=>?_)
       have fz:=fun o=>vN.2.frozen o
       have hX2:(nR H p q).ok (set3 wF4 cc (.bool (ng H.num)) (.slice p (ln (am H.num)) (ln (am H.num))) (.slice q (ln H.den) (ln H.den))):=⟨vN.seg (by simp) (by simp) (by simp) hX.1,hX.2.1,hX.2.2.1,vN.seg (by simp) (by simp) (by simp) hX.2.2.2.1,hX.2.2.2.2.1,hX.2.2.2.2.2⟩
       replace bT:=below_set3 (u0:=.bool (ng H.num)) (u1:=.slice p (ln (am H.num)) (ln (am H.num))) (u2:=.slice q (ln H.den) (ln H.den)) bT hc9
       have hH2:=(⟨(set3_far (w:=wF4) (c:=cc) (b:=bb) (o:=off+t*12+6) (u0:=.bool (ng H.num)) (u1:=.slice p (ln (am H.num)) (ln (am H.num))) (u2:=.slice q (ln H.den) (ln H.den)) (by omega)).trans hHeld.1,(set3_far (w:=wF4) (c:=cc) (b:=bb) (o:=off+t*12+7) (u0:=.bool (ng H.num)) (u1:=.slice p (ln (am H.num)) (ln (am H.num))) (u2:=.slice q (ln H.den) (ln H.den)) (by omega)).trans hHeld.2.1,(set3_far (w:=wF4) (c:=cc) (b:=bb) (o:=off+t*12+8) (u0:=.bool (ng H.num)) (u1:=.slice p (ln (am H.num)) (ln (am H.num))) (u2:=.slice q (ln H.den) (ln H.den)) (by omega)).trans hHeld.2.2.1,(set3_far (w:=wF4) (c:=cc) (b:=bb) (o:=off+t*12) (u0:=.bool (ng H.num)) (u1:=.slice p (ln (am H.num)) (ln (am H.num))) (u2:=.slice q (ln H.den) (ln H.den)) (by omega)).trans hHeld.2.2.2.1,(set3_far (w:=wF4) (c:=cc) (b:=bb) (o:=off+t*12+1) (u0:=.bool (ng H.num)) (u1:=.slice p (ln (am H.num)) (ln (am H.num))) (u2:=.slice q (ln H.den) (ln H.den)) (by omega)).trans hHeld.2.2.2.2.1,(set3_far (w:=wF4) (c:=cc) (b:=bb) (o:=off+t*12+2) (u0:=.bool (ng H.num)) (u1:=.slice p (ln (am H.num)) (ln (am H.num))) (u2:=.slice q (ln H.den) (ln H.den)) (by omega)).trans hHeld.2.2.2.2.2⟩:_∧_∧_∧_∧_∧_)
       have vN2:=vN.put (u0:=.bool (ng H.num)) (u1:=.slice p (ln (am H.num)) (ln (am H.num))) (u2:=.slice q (ln H.den) (ln H.den))
       have z0:=vN.1.1
       have z1:=vN.1.2.1
       have z2:=vN.1.2.2
       go_simp
       clear z0 z1 z2 vN fz
       refine hKK.out _ _ hH2 ?_
       clear hHeld
       intro hHeld
       clear hKK KK
       try simp only [pP,pN,pS,pZ,pC]
       clear hH2
       refine wpAnyH_done (by kernel_rfl) ?_ _
       go_wp2_with fail
       go_meet
       exact ⟨_,cc,p,q,rfl,rfl,vN2,bT,hX2⟩
      exact AllReadyH.nil
     case rest =>
      obtain ⟨wu,c7,p7,q7,hwu,rfl,v7,bT,h7⟩:=hcut
      subst hwu
      clear G1
      replace vT:=vT.later bT
      replace v2r:=v2r.later bT
      replace hr:=hr.on bT
      replace d3:=below_cell bT d3
      replace d4:=below_cell bT d4
      replace d5:=below_cell bT d5
      replace d9:=below_cell bT d9
      replace d10:=below_cell bT d10
      replace d11:=below_cell bT d11
      replace bR:=bR.trans (bT.mono bR.size)
      clear bT
      clear d0 d1 d2 d6 d7 d8
      go_upto_region 11 with fail
      go_cut [8] from 50 to 62 (fun s9 wx=>∃ wh9 c p q,wh9=wx∧s9=.pointer (some ⟨c,0,none⟩)∧Thr wx c (.bool (ng D.num)) (.slice p (ln (am D.num)) (ln (am D.num))) (.slice q (ln D.den) (ln D.den))∧Below wu.heap.size wu wx∧(nR D p q).ok wx)
      case first =>
       have bT:Below wu.heap.size wu wu:=Below.refl _ _
       have hbl:bb < wu.heap.size:=World.block_lt_of_cell? wu ⟨bb,off+t*12+3,none⟩ d3
       have bD:Below wu.heap.size wu wu.drew:=(Below.refl _ _).drew
       have kd3:=below_cell bD d3
       have kd4:=below_cell bD d4
       have kd5:=below_cell bD d5
       have kd9:=below_cell bD d9
       have kd10:=below_cell bD d10
       have kd11:=below_cell bD d11
       replace bT:=bT.trans (bD.mono bT.size)
       replace bR:=bR.trans (bD.mono bR.size)
       refine wp_region_held_drew (S:=fun w'=>w'.cell? ⟨bb,off+t*12+3,none⟩=some (.bool gk.lo.b.s)∧w'.cell? ⟨bb,off+t*12+4,none⟩=some (.slice gk.lo.b.a gk.lo.b.n gk.lo.b.c)∧w'.cell? ⟨bb,off+t*12+5,none⟩=some (.slice gk.lo.b.b gk.lo.b.m gk.lo.b.e)∧w'.cell? ⟨bb,off+t*12+9,none⟩=some (.bool gk.hi.b.s)∧w'.cell? ⟨bb,off+t*12+10,none⟩=some (.slice gk.hi.b.a gk.hi.b.n gk.hi.b.c)∧w'.cell? ⟨bb,off+t*12+11,none⟩=some (.slice gk.hi.b.b gk.hi.b.m gk.hi.b.e)) (by kernel_rfl) ⟨kd3,kd4,kd5,kd9,kd10,kd11⟩ (fun hHeld=>?_)
       clear kd3 kd4 kd5 kd9 kd10 kd11
       generalize wu.drew=wG0 at bD bT bR hHeld ⊢
       clear bD d3 d4 d5 d9 d10 d11
       refine tk 0 (v:=?_) rfl (Or.inl ⟨by rfl,?_⟩) ?_
       rotate_left
       ·intro w9 hSw
        go_simp
        first | done | with_reducible rfl
       simp only [pP,pN,pS,pZ,pC]
       refine tk 1 (v:=?_) rfl (Or.inl ⟨by rfl,?_⟩) ?_
       rotate_left
       ·intro w9 hSw
        go_simp
        first | done | with_reducible rfl
       simp only [pP,pN,pS,pZ,pC]
       refine tk 2 (v:=?_) rfl (Or.inl ⟨by rfl,?_⟩) ?_
       rotate_left
       ·intro w9 hSw
        go_simp
        first | done | with_reducible rfl
       simp only [pP,pN,pS,pZ,pC]
       refine tk 3 (v:=?_) rfl (Or.inl ⟨by rfl,?_⟩) ?_
       rotate_left
       ·intro w9 hSw
        go_simp
        first | done | with_reducible rfl
       simp only [pP,pN,pS,pZ,pC]
       refine tk 4 (v:=?_) rfl (Or.inl ⟨by rfl,?_⟩) ?_
       rotate_left
       ·intro w9 hSw
        go_simp
        first | done | with_reducible rfl
       simp only [pP,pN,pS,pZ,pC]
       refine tk 5 (v:=?_) rfl (Or.inl ⟨by rfl,?_⟩) ?_
       rotate_left
       ·intro w9 hSw
        go_simp
        first | done | with_reducible rfl
       simp only [pP,pN,pS,pZ,pC]
       refine tk 6 (v:=?_) rfl (Or.inl ⟨by rfl,?_⟩) ?_
       rotate_left
       ·intro w9 hSw
        go_simp
        first | done | with_reducible rfl
       simp only [pP,pN,pS,pZ,pC]
       refine tk 7 (v:=?_) rfl (Or.inl ⟨by rfl,?_⟩) ?_
       rotate_left
       ·intro w9 hSw
        go_simp
        first | done | with_reducible rfl
       simp only [pP,pN,pS,pZ,pC]
       refine tk 8 (v:=?_) rfl (Or.inl ⟨by rfl,?_⟩) ?_
       rotate_left
       ·intro w9 hSw
        go_simp
        first | done | with_reducible rfl
       simp only [pP,pN,pS,pZ,pC]
       refine tk 9 (v:=?_) rfl (Or.inl ⟨by rfl,?_⟩) ?_
       rotate_left
       ·intro w9 hSw
        go_simp
        first | done | with_reducible rfl
       simp only [pP,pN,pS,pZ,pC]
       refine tk 10 (v:=?_) rfl (Or.inl ⟨by rfl,?_⟩) ?_
       rotate_left
       ·intro w9 hSw
        go_simp
        first | done | with_reducible rfl
       simp only [pP,pN,pS,pZ,pC]
       refine tk 11 (v:=?_) rfl (Or.inl ⟨by rfl,?_⟩) ?_
       rotate_left
       ·intro w9 hSw
        go_simp
        first | done | with_reducible rfl
       simp only [pP,pN,pS,pZ,pC]
       refine wpAnyH_ready (rs:=[12,13]) (by kernel_rfl) (by simp) ?_
       refine consT rfl (fun KK hKK=>?_) ?_
       ·skip
        go_simp
        refine (G2.out _ bR).mono ?_
        rintro e wG1 ⟨p,q,rfl,bV,hX⟩
        replace bT:=bT.trans (bV.mono bT.size)
        replace bR:=bR.trans (bV.mono bR.size)
        replace hHeld:=(⟨below_cell bV hHeld.1,below_cell bV hHeld.2.1,below_cell bV hHeld.2.2.1,below_cell bV hHeld.2.2.2.1,below_cell bV hHeld.2.2.2.2.1,below_cell bV hHeld.2.2.2.2.2⟩:_∧_∧_∧_∧_∧_)
        clear bV
        go_wp2_with fail
        refine hKK.out _ _ hHeld ?_
        clear hHeld
        intro hHeld
        clear hKK KK
        try simp only [pP,pN,pS,pZ,pC]
        refine wpAnyH_ready (rs:=[13]) (by kernel_rfl) (by simp) ?_
        refine cons' rfl (fun KK hKK=>?_)
        go_simp
        have vN:Thr (wG1.alloc (.cells #[.bool false,.slice none 0 0,.slice none 0 0] 27)) wG1.heap.size (.bool false) (.slice none 0 0) (.slice none 0 0):=⟨⟨by go_simp,by go_simp,by go_simp⟩,row_new wG1 _ 27⟩
        have bA:=below_alloc (w:=wG1) (.cells #[.bool false,.slice none 0 0,.slice none 0 0] 27)
        have hc9:wu.heap.size≤wG1.heap.size:=bT.size
        generalize wG1.alloc (.cells #[.bool false,.slice none 0 0,.slice none 0 0] 27)=wG2 at vN bA ⊢
        replace bT:=bT.trans (bA.mono bT.size)
        replace bR:=bR.trans (bA.mono bR.size)
        replace hHeld:=(⟨below_cell bA hHeld.1,below_cell bA hHeld.2.1,below_cell bA hHeld.2.2.1,below_cell bA hHeld.2.2.2.1,below_cell bA hHeld.2.2.2.2.1,below_cell bA hHeld.2.2.2.2.2⟩:_∧_∧_∧_∧_∧_)
        replace hX:=hX.on bA
        clear bA
        refine hKK.out _ _ hHeld ?_
        clear hHeld
        intro hHeld
        clear hKK KK
        try simp only [pP,pN,pS,pZ,pC]
        obtain ⟨cc,hcc⟩:∃ cc,wG1.heap.size=cc:=⟨_,rfl⟩
        rw [hcc] at vN hc9
        try rw [hcc]
        clear hcc
        refine wpAnyH_ready (rs:=[14]) (by kernel_rfl) (by simp) ?_
        refine cons' rfl (fun KK hKK=>?_)
        have fz:=fun o=>vN.2.frozen o
        have hX2:(nR D p q).ok (set3 wG2 cc (.bool (ng D.num)) (.slice p (ln (am D.num)) (ln (am D.num))) (.slice q (ln D.den) (ln D.den))):=⟨vN.seg (by simp) (by simp) (by simp) hX.1,hX.2.1,hX.2.2.1,vN.seg (by simp) (by simp) (by simp) hX.2.2.2.1,hX.2.2.2.2.1,hX.2.2.2.2.2⟩
        replace bT:=below_set3 (u0:=.bool (ng D.num)) (u1:=.slice p (ln (am D.num)) (ln (am D.num))) (u2:=.slice q (ln D.den) (ln D.den)) bT hc9
        have hH2:=(⟨(set3_far (w:=wG2) (c:=cc) (b:=bb) (o:=off+t*12+3) (u0:=.bool (ng D.num)) (u1:=.slice p (ln (am D.num)) (ln (am D.num))) (u2:=.slice q (ln D.den) (ln D.den)) (by omega)).trans hHeld.1,(set3_far (w:=wG2) (c:=cc) (b:=bb) (o:=off+t*12+4) (u0:=.bool (ng D.num)) (u1:=.slice p (ln (am D.num)) (ln (am D.num))) (u2:=.slice q (ln D.den) (ln D.den)) (by omega)).trans hHeld.2.1,(set3_far (w:=wG2) (c:=cc) (b:=bb) (o:=off+t*12+5) (u0:=.bool (ng D.num)) (u1:=.slice p (ln (am D.num)) (ln (am D.num))) (u2:=.slice q (ln D.den) (ln D.den)) (by omega)).trans hHeld.2.2.1,(set3_far (w:=wG2) (c:=cc) (b:=bb) (o:=off+t*12+9) (u0:=.bool (ng D.num)) (u1:=.slice p (ln (am D.num)) (ln (am D.num))) (u2:=.slice q (ln D.den) (ln D.den)) (by omega)).trans hHeld.2.2.2.1,(set3_far (w:=wG2) (c:=cc) (b:=bb) (o:=off+t*12+10) (u0:=.bool (ng D.num)) (u1:=.slice p (ln (am D.num)) (ln (am D.num))) (u2:=.slice q (ln D.den) (ln D.den)) (by omega)).trans hHeld.2.2.2.2.1,(set3_far (w:=wG2) (c:=cc) (b:=bb) (o:=off+t*12+11) (u0:=.bool (ng D.num)) (u1:=.slice p (ln (am D.num)) (ln (am D.num))) (u2:=.slice q (ln D.den) (ln D.den)) (by omega)).trans hHeld.2.2.2.2.2⟩:_∧_∧_∧_∧_∧_)
        have vN2:=vN.put (u0:=.bool (ng D.num)) (u1:=.slice p (ln (am D.num)) (ln (am D.num))) (u2:=.slice q (ln D.den) (ln D.den))
        have z0:=vN.1.1
        have z1:=vN.1.2.1
        have z2:=vN.1.2.2
        go_simp
        clear z0 z1 z2 vN fz
        refine hKK.out _ _ hH2 ?_
        clear hHeld
        intro hHeld
        clear hKK KK
        try simp only [pP,pN,pS,pZ,pC]
        clear hH2
        refine wpAnyH_done (by kernel_rfl) ?_ _
        go_wp2_with fail
        go_meet
        exact ⟨_,cc,p,q,rfl,rfl,vN2,bT,hX2⟩
       refine consT rfl (fun KK hKK=>?_) ?_
       ·skip
        go_simp
        have vN:Thr (wG0.alloc (.cells #[.bool false,.slice none 0 0,.slice none 0 0] 27)) wG0.heap.size (.bool false) (.slice none 0 0) (.slice none 0 0):=⟨⟨by go_simp,by go_simp,by go_simp⟩,row_new wG0 _ 27⟩
        have bA:=below_alloc (w:=wG0) (.cells #[.bool false,.slice none 0 0,.slice none 0 0] 27)
        have hc9:wu.heap.size≤wG0.heap.size:=bT.size
        generalize wG0.alloc (.cells #[.bool false,.slice none 0 0,.slice none 0 0] 27)=wG3 at vN bA ⊢
        replace bT:=bT.trans (bA.mono bT.size)
        replace bR:=bR.trans (bA.mono bR.size)
        replace hHeld:=(⟨below_cell bA hHeld.1,below_cell bA hHeld.2.1,below_cell bA hHeld.2.2.1,below_cell bA hHeld.2.2.2.1,below_cell bA hHeld.2.2.2.2.1,below_cell bA hHeld.2.2.2.2.2⟩:_∧_∧_∧_∧_∧_)
        clear bA
        refine hKK.out _ _ hHeld ?_
        clear hHeld
        intro hHeld
        clear hKK KK
        try simp only [pP,pN,pS,pZ,pC]
        obtain ⟨cc,hcc⟩:∃ cc,wG0.heap.size=cc:=⟨_,rfl⟩
        rw [hcc] at vN hc9
        try rw [hcc]
        clear hcc
        refine wpAnyH_ready (rs:=[12]) (by kernel_rfl) (by simp) ?_
        refine cons' rfl (fun KK hKK=>?_)
        go_simp
        refine (G2.out _ bR).mono ?_
        rintro e wG4 ⟨p,q,rfl,bV,hX⟩
        replace bT:=bT.trans (bV.mono bT.size)
        replace bR:=bR.trans (bV.mono bR.size)
        replace vN:=vN.later bV
        replace hHeld:=(⟨below_cell bV hHeld.1,below_cell bV hHeld.2.1,below_cell bV hHeld.2.2.1,below_cell bV hHeld.2.2.2.1,below_cell bV hHeld.2.2.2.2.1,below_cell bV hHeld.2.2.2.2.2⟩:_∧_∧_∧_∧_∧_)
        clear bV
        go_wp2_with fail
        refine hKK.out _ _ hHeld ?_
        clear hHeld
        intro hHeld
        clear hKK KK
        try simp only [pP,pN,pS,pZ,pC]
        refine wpAnyH_ready (rs:=[14]) (by kernel_rfl) (by simp) ?_
        refine cons' rfl (fun KK hKK=>?_)
        have fz:=fun o=>vN.2.frozen o
        have hX2:(nR D p q).ok (set3 wG4 cc (.bool (ng D.num)) (.slice p (ln (am D.num)) (ln (am D.num))) (.slice q (ln D.den) (ln D.den))):=⟨vN.seg (by simp) (by simp) (by simp) hX.1,hX.2.1,hX.2.2.1,vN.seg (by simp) (by simp) (by simp) hX.2.2.2.1,hX.2.2.2.2.1,hX.2.2.2.2.2⟩
        replace bT:=below_set3 (u0:=.bool (ng D.num)) (u1:=.slice p (ln (am D.num)) (ln (am D.num))) (u2:=.slice q (ln D.den) (ln D.den)) bT hc9
        have hH2:=(⟨(set3_far (w:=wG4) (c:=cc) (b:=bb) (o:=off+t*12+3) (u0:=.bool (ng D.num)) (u1:=.slice p (ln (am D.num)) (ln (am D.num))) (u2:=.slice q (ln D.den) (ln D.den)) (by omega)).trans hHeld.1,(set3_far (w:=wG4) (c:=cc) (b:=bb) (o:=off+t*12+4) (u0:=.bool (ng D.num)) (u1:=.slice p (ln (am D.num)) (ln (am D.num))) (u2:=.slice q (ln D.den) (ln D.den)) (by omega)).trans hHeld.2.1,(set3_far (w:=wG4) (c:=cc) (b:=bb) (o:=off+t*12+5) (u0:=.bool (ng D.num)) (u1:=.slice p (ln (am D.num)) (ln (am D.num))) (u2:=.slice q (ln D.den) (ln D.den)) (by omega)).trans hHeld.2.2.1,(set3_far (w:=wG4) (c:=cc) (b:=bb) (o:=off+t*12+9) (u0:=.bool (ng D.num)) (u1:=.slice p (ln (am D.num)) (ln (am D.num))) (u2:=.slice q (ln D.den) (ln D.den)) (by omega)).trans hHeld.2.2.2.1,(set3_far (w:=wG4) (c:=cc) (b:=bb) (o:=off+t*12+10) (u0:=.bool (ng D.num)) (u1:=.slice p (ln (am D.num)) (ln (am D.num))) (u2:=.slice q (ln D.den) (ln D.den)) (by omega)).trans hHeld.2.2.2.2.1,(set3_far (w:=wG4) (c:=cc) (b:=bb) (o:=off+t*12+11) (u0:=.bool (ng D.num)) (u1:=.slice p (ln (am D.num)) (ln (am D.num))) (u2:=.slice q (ln D.den) (ln D.den)) (by omega)).trans hHeld.2.2.2.2.2⟩:_∧_∧_∧_∧_∧_)
        have vN2:=vN.put (u0:=.bool (ng D.num)) (u1:=.slice p (ln (am D.num)) (ln (am D.num))) (u2:=.slice q (ln D.den) (ln D.den))
        have z0:=vN.1.1
        have z1:=vN.1.2.1
        have z2:=vN.1.2.2
        go_simp
        clear z0 z1 z2 vN fz
        refine hKK.out _ _ hH2 ?_
        clear hHeld
        intro hHeld
        clear hKK KK
        try simp only [pP,pN,pS,pZ,pC]
        clear hH2
        refine wpAnyH_done (by kernel_rfl) ?_ _
        go_wp2_with fail
        go_meet
        exact ⟨_,cc,p,q,rfl,rfl,vN2,bT,hX2⟩
       exact AllReadyH.nil
      case rest =>
       obtain ⟨wv,c8,p8,q8,hwv,rfl,v8,bT,h8⟩:=hcut
       subst hwv
       clear G2 d3 d4 d5 d9 d10 d11
       replace vT:=vT.later bT
       replace v2r:=v2r.later bT
       replace v7:=v7.later bT
       replace hr:=hr.on bT
       replace h7:=h7.on bT
       replace bR:=bR.trans (bT.mono bR.size)
       clear bT
       have x0:=v7.1.1
       have x1:=v7.1.2.1
       have x2:=v7.1.2.2
       have y0:=v8.1.1
       have y1:=v8.1.2.1
       have y2:=v8.1.2.2
       clear v7 v8
       have BL:=hide' (fun w9 (h:Below wr.heap.size wr w9)=>bL.trans (h.mono (Nat.le_of_lt hcl)))
       clear bL
       go_wp2_with fail
       refine (GS1.out _ p7 q7 h7).mono ?_
       rintro e w31 ⟨rfl,b1⟩
       replace vT:=vT.later b1
       replace v2r:=v2r.later b1
       replace hr:=hr.on b1
       replace h7:=h7.on b1
       replace h8:=h8.on b1
       replace x0:=below_cell b1 x0
       replace x1:=below_cell b1 x1
       replace x2:=below_cell b1 x2
       replace y0:=below_cell b1 y0
       replace y1:=below_cell b1 y1
       replace y2:=below_cell b1 y2
       replace bR:=bR.trans (b1.mono bR.size)
       clear b1
       by_cases hp:0 < H
       ·have c1:¬ C1≤0:=fun h=>LC1.out.1 h hp
        go_wp2_with fail
        refine (GS2.out _ p8 q8 h8).mono ?_
        rintro e w32 ⟨rfl,b2⟩
        replace vT:=vT.later b2
        replace v2r:=v2r.later b2
        replace hr:=hr.on b2
        replace h7:=h7.on b2
        replace h8:=h8.on b2
        replace x0:=below_cell b2 x0
        replace x1:=below_cell b2 x1
        replace x2:=below_cell b2 x2
        replace y0:=below_cell b2 y0
        replace y1:=below_cell b2 y1
        replace y2:=below_cell b2 y2
        replace bR:=bR.trans (b2.mono bR.size)
        clear b2
        by_cases hd:0 < D
        ·have c2:¬ C2≤0:=fun h=>LC2.out.1 h hd
         have hn:=hD0.out.2 hd
         go_wp2_with fail
         refine (GD.out _ p7 q7 p8 q8 hn h7 h8).mono ?_
         rintro e w33 ⟨p9,q9,rfl,b3,h9⟩
         replace vT:=vT.later b3
         replace v2r:=v2r.later b3
         replace hr:=hr.on b3
         replace bR:=bR.trans (b3.mono bR.size)
         clear b3
         clear h7 h8 x0 x1 x2 y0 y1 y2
         obtain ⟨wE,hwE⟩:∃ wE,w33.alloc (.cells #[.bool (ng S.num),.slice p9 (ln (am S.num)) (ln (am S.num)),.slice q9 (ln S.den) (ln S.den)] 27)=wE:=⟨_,rfl⟩
         have bE:Below w33.heap.size w33 wE:=by subst hwE;exact below_alloc _
         have s0:wE.cell? ⟨w33.heap.size,0,none⟩=some (.bool (ng S.num)):=by subst hwE;go_simp
         have s1:wE.cell? ⟨w33.heap.size,1,none⟩=some (.slice p9 (ln (am S.num)) (ln (am S.num))):=by subst hwE;go_simp
         have s2:wE.cell? ⟨w33.heap.size,2,none⟩=some (.slice q9 (ln S.den) (ln S.den)):=by subst hwE;go_simp
         have l33:=vT.2.lt
         replace vT:=vT.later bE
         replace v2r:=v2r.later bE
         replace hr:=hr.on bE
         replace h9:=h9.on bE
         replace bR:=bR.trans (bE.mono bR.size)
         clear bE
         have t0:=vT.1.1
         have t1:=vT.1.2.1
         have t2:=vT.1.2.2
         go_wp2_with fail
         clear hwE
         refine (GC.out _ p9 q9 p q hn h9 hr).mono ?_
         clear t0 t1 t2
         rintro e w34 ⟨rfl,b4⟩
         replace vT:=vT.later b4
         replace v2r:=v2r.later b4
         replace hr:=hr.on b4
         replace h9:=h9.on b4
         replace s0:=below_cell b4 s0
         replace s1:=below_cell b4 s1
         replace s2:=below_cell b4 s2
         replace bR:=bR.trans (b4.mono bR.size)
         clear b4
         by_cases hl:S < r
         ·have c3:C3 < 0:=LC3.out.2 hl
          have fz:=fun o=>vT.2.frozen o
          have z0:=vT.1.1
          have z1:=vT.1.2.1
          have z2:=vT.1.2.2
          have hS2:(nR S p9 q9).ok (set3 w34 c4 (.bool (ng S.num)) (.slice p9 (ln (am S.num)) (ln (am S.num))) (.slice q9 (ln S.den) (ln S.den))):=⟨vT.seg (by simp) (by simp) (by simp) h9.1,h9.2.1,h9.2.2.1,vT.seg (by simp) (by simp) (by simp) h9.2.2.2.1,h9.2.2.2.2.1,h9.2.2.2.2.2⟩
          have hB2:=below_set3 (u0:=.bool (ng S.num)) (u1:=.slice p9 (ln (am S.num)) (ln (am S.num))) (u2:=.slice q9 (ln S.den) (ln S.den)) (BL.out _ bR) (Nat.le_refl c4)
          have rD:=vT.put (u0:=.bool (ng S.num)) (u1:=.slice p9 (ln (am S.num)) (ln (am S.num))) (u2:=.slice q9 (ln S.den) (ln S.den))
          have I1:=hide' (show ∃ p q,Below c4 wD (set3 w34 c4 (.bool (ng S.num)) (.slice p9 (ln (am S.num)) (ln (am S.num))) (.slice q9 (ln S.den) (ln S.den)))∧Thr (set3 w34 c4 (.bool (ng S.num)) (.slice p9 (ln (am S.num)) (ln (am S.num))) (.slice q9 (ln S.den) (ln S.den))) c4 (.bool (ng (smallG (gl k (t+1))).num)) (.slice p (ln (am (smallG (gl k (t+1))).num)) (ln (am (smallG (gl k (t+1))).num))) (.slice q (ln (smallG (gl k (t+1))).den) (ln (smallG (gl k (t+1))).den))∧(nR (smallG (gl k (t+1))) p q).ok (set3 w34 c4 (.bool (ng S.num)) (.slice p9 (ln (am S.num)) (ln (am S.num))) (.slice q9 (ln S.den) (ln S.den))) by rw [ST1.out hn hl];exact ⟨p9,q9,hB2,rD,hS2⟩)
          clear vT v2r hr bR hS2 hB2 rD h9
          go_wp2
          go_roundw
          case rel=>exact ⟨t+1,by omega,by go_num,I1.out⟩
          case measure=>simp [intOf];omega
         ·have c3:¬ C3 < 0:=fun h=>hl (LC3.out.1 h)
          have I1:=hide' (show ∃ p q,Below c4 wD w34∧Thr w34 c4 (.bool (ng (smallG (gl k (t+1))).num)) (.slice p (ln (am (smallG (gl k (t+1))).num)) (ln (am (smallG (gl k (t+1))).num))) (.slice q (ln (smallG (gl k (t+1))).den) (ln (smallG (gl k (t+1))).den))∧(nR (smallG (gl k (t+1))) p q).ok w34 by rw [ST2.out (fun h=>hl h.2)];exact ⟨p,q,BL.out _ bR,vT,hr⟩)
          clear vT v2r hr bR h9
          go_wp2
          go_roundw
          case rel=>exact ⟨t+1,by omega,by go_num,I1.out⟩
          case measure=>simp [intOf];omega
        ·have c2:C2≤0:=LC2.out.2 hd
         have I1:=hide' (show ∃ p q,Below c4 wD w32∧Thr w32 c4 (.bool (ng (smallG (gl k (t+1))).num)) (.slice p (ln (am (smallG (gl k (t+1))).num)) (ln (am (smallG (gl k (t+1))).num))) (.slice q (ln (smallG (gl k (t+1))).den) (ln (smallG (gl k (t+1))).den))∧(nR (smallG (gl k (t+1))) p q).ok w32 by rw [ST2.out (fun h=>hd (hD0.out.1 h.1))];exact ⟨p,q,BL.out _ bR,vT,hr⟩)
         clear vT v2r hr bR h7 h8
         go_wp2
         go_roundw
         case rel=>exact ⟨t+1,by omega,by go_num,I1.out⟩
         case measure=>simp [intOf];omega
       ·have c1:C1≤0:=LC1.out.2 hp
        have I1:=hide' (show ∃ p q,Below c4 wD w31∧Thr w31 c4 (.bool (ng (smallG (gl k (t+1))).num)) (.slice p (ln (am (smallG (gl k (t+1))).num)) (ln (am (smallG (gl k (t+1))).num))) (.slice q (ln (smallG (gl k (t+1))).den) (ln (smallG (gl k (t+1))).den))∧(nR (smallG (gl k (t+1))) p q).ok w31 by rw [ST2.out (fun h=>hp (hH0.out h.1))];exact ⟨p,q,BL.out _ bR,vT,hr⟩)
        clear vT v2r hr bR h7 h8
        go_wp2
        go_roundw
        case rel=>exact ⟨t+1,by omega,by go_num,I1.out⟩
        case measure=>simp [intOf];omega
    ·obtain rfl:t=j:=by omega
     have i2:¬ (t:Int) < (t:Int):=by omega
     have fz:=fun o=>v2r.2.frozen o
     have z0:=v2r.1.1
     have z1:=v2r.1.2.1
     have z2:=v2r.1.2.2
     have t0:=vT.1.1
     have t1:=vT.1.2.1
     have t2:=vT.1.2.2
     have hR2:=hide' (show (nR r p q).ok (set3 wr w.heap.size (.bool (ng r.num)) (.slice p (ln (am r.num)) (ln (am r.num))) (.slice q (ln r.den) (ln r.den))) from ⟨v2r.seg (by simp) (by simp) (by simp) hr.1,hr.2.1,hr.2.2.1,v2r.seg (by simp) (by simp) (by simp) hr.2.2.2.1,hr.2.2.2.2.1,hr.2.2.2.2.2⟩)
     have bE2:=hide' (below_set3 (u0:=.bool (ng r.num)) (u1:=.slice p (ln (am r.num)) (ln (am r.num))) (u2:=.slice q (ln r.den) (ln r.den)) hBr (Nat.le_refl _))
     have rD:=v2r.put (u0:=.bool (ng r.num)) (u1:=.slice p (ln (am r.num)) (ln (am r.num))) (u2:=.slice q (ln r.den) (ln r.den))
     obtain ⟨⟨x0,x1,x2⟩,_⟩:=rD
     clear v2r vT hr hBr bL hB v2
     go_wp2
     refine bodyPost_ret (v:=Value.tuple #[Value.agg #[Value.bool (ng r.num),Value.slice p (ln (am r.num)) (ln (am r.num)),Value.slice q (ln r.den) (ln r.den)],.int .i64 0]) (by rw [results_cell_tmp rfl];go_simp) rfl ?_
     rw [hrr.out]
     exact Or.inl ⟨hbad,p,q,rfl,bE2.out,hR2.out⟩
end Go.Proofs.YtfppjaoddicgpaaGreatDoor
