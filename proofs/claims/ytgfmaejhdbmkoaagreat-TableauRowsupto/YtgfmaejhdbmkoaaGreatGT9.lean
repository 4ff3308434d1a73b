import Derived.Test.YtgfmaejhdbmkoaaGreatGT8
set_option linter.unusedSimpArgs false
namespace Go.Proofs.YtgfmaejhdbmkoaaGreat
open Go.RowKit
set_option linter.unusedVariables false
def CkA (w:World) (V:Int) (R:List RowV) (e:Ending) (w':World):Prop:=Below w.heap.size w w'∧((mayBe V (tb R)∧e=.returned (.int .i64 0))∨(¬ mayBe V (tb R)∧e=.returned (.int .i64 70)))
set_option maxHeartbeats 16000000 in
set_option maxRecDepth 100000 in
theorem rCheck_is (V:Int) (a:Option Addr) (c:Nat) (R:List RowV) (w:World) (hT:TSm w a R) (hc:R.length≤c) :
  Calls Tryz.prog 19 #[.agg #[.int .i64 V,.slice a R.length c]] w (CkA w V R):=by
 obtain ⟨TQ,hTQ⟩:∃ TQ,CkA w V R=TQ:=⟨_,rfl⟩
 rw [hTQ]
 replace hTQ:=xQ1 hTQ
 have hlen:=hT.len
 have HNo:=xQ1 (fun w' (hb:Below w.heap.size w w') (h:¬ mayBe V (tb R))=>show CkA w V R (.returned (.int .i64 70)) w' from ⟨hb,Or.inr ⟨h,rfl⟩⟩)
 have HYes:=xQ1 (fun w' (hb:Below w.heap.size w w') (h:mayBe V (tb R))=>show CkA w V R (.returned (.int .i64 0)) w' from ⟨hb,Or.inl ⟨h,rfl⟩⟩)
 rw [hTQ.out] at HNo HYes
 have GI:=xQ1 (fun x w'=>ris_is V x a R.length c w')
 have GR:=xQ1 (fun x w' (hb:Below w.heap.size w w')=>rrow_is V x a c R w' ((hT.later hb).tin.at_) hc (by omega))
 have GK:=xQ1 (fun r (hr:r∈R) w' (hb:Below w.heap.size w w')=>rknows_is V a R.length c r.2 w' ((hT.form hr).later hb))
 have GV:=xQ1 (fun r (hr:r∈R) w' (hb:Below w.heap.size w w')=>rVarsF_is r.2 w' ((hT.form hr).later hb))
 have HAt:=xQ1 hT.tin.at_
 have HVl:=xQ1 (fun r (hr:r∈R)=>Nat.le_trans (vsN_len r.2) (hT.form hr).len)
 clear hT
 have bA:=xQ2 (w:=w) (.cells #[.int .i64 V,.slice a R.length c] 24)
 have m0:(w.alloc (.cells #[.int .i64 V,.slice a R.length c] 24)).cell? ⟨w.heap.size,0,none⟩=some (.int .i64 V):=by go_simp
 have m1:(w.alloc (.cells #[.int .i64 V,.slice a R.length c] 24)).cell? ⟨w.heap.size,1,none⟩=some (.slice a R.length c):=by go_simp
 by_cases h1:V < 0
 ·have HZ:=xQ1 (HNo.out _ bA (fun h=>by have:=h.lo;have:=h.hi;omega))
  have c1:V < 0:=h1
  clear GI GR GK GV HNo HYes HAt HVl h1
  go_enter Tryz.func19,Tryz.ntmps19
  go_wp2
  first | exact HZ.out | (go_ret;exact HZ.out)
 by_cases h2:65536 < V
 ·have HZ:=xQ1 (HNo.out _ bA (fun h=>by have:=h.lo;have:=h.hi;omega))
  have c1:¬ V < 0:=h1
  have c2:65536 < V:=h2
  have c3:((65536:Int) < V)=True:=eq_true h2
  clear GI GR GK GV HNo HYes HAt HVl h1 h2
  go_enter Tryz.func19,Tryz.ntmps19
  go_wp2
  first | exact HZ.out | (go_ret;exact HZ.out)
 have c1:¬ V < 0:=h1
 have c3:((65536:Int) < V)=False:=eq_false h2
 have HV:=xQ1 (show 0≤V∧V≤65536 by omega)
 clear h1 h2
 go_enter Tryz.func19,Tryz.ntmps19
 go_wp2_with fail
 obtain ⟨wA,hwA⟩:∃ wA,w.alloc (.cells #[.int .i64 V,.slice a R.length c] 24)=wA:=⟨_,rfl⟩
 rw [hwA] at bA m0 m1 ⊢
 clear hwA
 go_loopw [3] (fun vi wr=>∃ k:Nat,k≤R.length∧vi=.int .i64 k∧chk1 V R k∧Below wA.heap.size wA wr) (fun vi _=>R.length - (intOf vi).toNat)
 case atStart=>exact ⟨0,Nat.zero_le _,rfl,fun i r hi=>absurd hi (by omega),Below.refl _ _⟩
 case round =>
  obtain ⟨k,hk,rfl,hN,hB⟩:=hrel
  have HN:=xQ1 hN
  clear hN
  have hBw:=bA.trans (hB.mono bA.size)
  have n0:=xQ0 hB m0
  have n1:=xQ0 hB m1
  by_cases hlt:k < R.length
  ·obtain ⟨r,hr⟩:∃ r,R[k]?=some r:=⟨R[k],List.getElem?_eq_getElem hlt⟩
   have hrm:=List.mem_of_getElem? hr
   obtain ⟨bb,off,rfl,hbb,hcell⟩:=HAt.out (by intro e;rw [e] at hlt;simp at hlt)
   obtain ⟨d0,d1⟩:=hcell k r hr
   replace d0:=xQ0 hBw d0
   replace d1:=xQ0 hBw d1
   have G1:=xQ1 (GI.out r.1)
   have G2:=xQ1 (GR.out r.1)
   have G3:=xQ1 (GK.out r hrm)
   have HF:=xQ1 (fun (h:mayBe V (tb R))=>mayBe_1 h hr)
   have HT:=xQ1 (fun (h:(0≤r.1∧r.1 < V)∧ix R r.1=(k:Int)∧inV V r.2.fo)=>show chk1 V R (k+1) from fun j q hj hq=>by
     by_cases e:j=k
     ·subst e;rw [hr] at hq;cases hq;exact h
     ·exact HN.out j q (by omega) hq)
   obtain ⟨v,X⟩:=r
   obtain ⟨Xa,Xc,XL⟩:=X
   unfold FV.val at d1 G3
   simp only at d0 d1 G1 G2 G3 HF HT
   have j0:(0:Int)≤(k:Int):=by omega
   have j1:(k:Int) < (R.length:Int):=by omega
   clear hcell hr hrm GI GK GV HAt HVl
   obtain ⟨z,hz⟩:∃ z,ix R v=z:=⟨_,rfl⟩
   rw [hz] at G2
   obtain ⟨kn,hkn⟩:∃ kn,inVs V (vsN (FV.fo ⟨Xa,Xc,XL⟩))=kn:=⟨_,rfl⟩
   rw [hkn] at G3
   have HKN:=xQ1 hkn
   have HZZ:=xQ1 hz
   clear hkn hz
   cases hd:(decide (0≤v) && decide (v < V)) with
   | false =>
    have H2:=G1.out
    rw [hd] at H2
    replace G1:=xQ1 H2
    clear H2
    have HZ:=xQ1 (fun w' (hb:Below w.heap.size w w')=>HNo.out w' hb (fun h=>by have:=(HF.out h).1;simp [this.1,this.2] at hd))
    clear hd HF HT HNo HYes
    go_wp2_with fail
    have bD:Below wr.heap.size wr wr.drew:=(Below.refl _ _).drew
    have kn0:=xQ0 bD n0
    have kn1:=xQ0 bD n1
    have kd0:=xQ0 bD d0
    have kd1:=xQ0 bD d1
    replace hB:=hB.trans (bD.mono hB.size)
    replace hBw:=hBw.trans (bD.mono hBw.size)
    refine wp_region_held_drew (S:=fun w'=>w'.cell? ⟨w.heap.size,0,none⟩=some (.int .i64 V)∧w'.cell? ⟨w.heap.size,1,none⟩=some (.slice (some ⟨bb,off,none⟩) R.length c)∧w'.cell? ⟨bb,off+k*2,none⟩=some (.int .i64 v)∧w'.cell? ⟨bb,off+k*2+1,none⟩=some (.slice Xa XL.length Xc)) (by kernel_rfl) ⟨kn0,kn1,kd0,kd1⟩ (fun hHeld=>?_)
    clear kn0 kn1 kd0 kd1
    generalize wr.drew=w4 at bD hB hBw hHeld ⊢
    clear bD n0 n1 d0 d1
    refine tk 0 (v:=?_) rfl (Or.inl ⟨by rfl,?_⟩) ?_
    rotate_left
    ·intro w9 hSw
     go_simp
     try with_reducible rfl
    simp only [pA]
    refine tk 1 (v:=?_) rfl (Or.inl ⟨by rfl,?_⟩) ?_
    rotate_left
    ·intro w9 hSw
     go_simp
     try with_reducible rfl
    simp only [pA]
    refine tk 2 (v:=?_) rfl (Or.inl ⟨by rfl,?_⟩) ?_
    rotate_left
    ·intro w9 hSw
     go_simp
     try with_reducible rfl
    simp only [pA]
    refine tk 3 (v:=?_) rfl (Or.inl ⟨by rfl,?_⟩) ?_
    rotate_left
    ·intro w9 hSw
     go_simp
     try with_reducible rfl
    simp only [pA]
    refine tk 4 (v:=?_) rfl (Or.inl ⟨by rfl,?_⟩) ?_
    rotate_left
    ·intro w9 hSw
     go_simp
     try with_reducible rfl
    simp only [pA]
    refine tk 5 (v:=?_) rfl (Or.inl ⟨by rfl,?_⟩) ?_
    rotate_left
    ·intro w9 hSw
     go_simp
     try with_reducible rfl
    simp only [pA]
    refine tk 6 (v:=?_) rfl (Or.inl ⟨by rfl,?_⟩) ?_
    rotate_left
    ·intro w9 hSw
     go_simp
     try with_reducible rfl
    simp only [pA]
    refine wpAnyH_ready (rs:=[7]) (by kernel_rfl) (by simp) ?_
    refine xX0 rfl (fun KK hKK=>?_)
    go_simp
    refine (G1.out _).mono ?_
    rintro e w5 ⟨rfl,b5⟩
    have bC:=b5
    replace hB:=hB.trans (bC.mono hB.size)
    replace hBw:=hBw.trans (bC.mono hBw.size)
    replace hHeld:=(⟨xQ0 bC hHeld.1,xQ0 bC hHeld.2.1,xQ0 bC hHeld.2.2.1,xQ0 bC hHeld.2.2.2⟩:_∧_∧_∧_)
    clear bC
    go_wp2_with fail
    clear b5 G1
    refine hKK.out _ _ hHeld ?_
    clear hHeld
    intro hHeld
    clear hKK KK
    try simp only [pA]
    refine tk 8 (v:=?_) rfl (Or.inl ⟨by rfl,?_⟩) ?_
    rotate_left
    ·intro w9 hSw
     go_simp
     try with_reducible rfl
    simp only [pA]
    refine tk 9 (v:=?_) rfl (Or.inl ⟨by rfl,?_⟩) ?_
    rotate_left
    ·intro w9 hSw
     go_simp
     try with_reducible rfl
    simp only [pA]
    refine tk 10 (v:=undef) rfl (Or.inr ⟨by rfl,rfl⟩) ?_
    simp only [pA]
    refine tk 11 (v:=undef) rfl (Or.inr ⟨by rfl,rfl⟩) ?_
    simp only [pA]
    refine tk 12 (v:=undef) rfl (Or.inr ⟨by rfl,rfl⟩) ?_
    simp only [pA]
    refine tk 13 (v:=undef) rfl (Or.inr ⟨by rfl,rfl⟩) ?_
    simp only [pA]
    refine tk 14 (v:=undef) rfl (Or.inr ⟨by rfl,rfl⟩) ?_
    simp only [pA]
    refine tk 15 (v:=undef) rfl (Or.inr ⟨by rfl,rfl⟩) ?_
    simp only [pA]
    refine tk 16 (v:=undef) rfl (Or.inr ⟨by rfl,rfl⟩) ?_
    simp only [pA]
    refine tk 17 (v:=undef) rfl (Or.inr ⟨by rfl,rfl⟩) ?_
    simp only [pA]
    refine tk 18 (v:=undef) rfl (Or.inr ⟨by rfl,rfl⟩) ?_
    simp only [pA]
    refine tk 19 (v:=undef) rfl (Or.inr ⟨by rfl,rfl⟩) ?_
    simp only [pA]
    refine tk 20 (v:=?_) rfl (Or.inl ⟨by rfl,?_⟩) ?_
    rotate_left
    ·intro w9 hSw
     go_simp
     try with_reducible rfl
    simp only [pA]
    refine tk 21 (v:=?_) rfl (Or.inl ⟨by rfl,?_⟩) ?_
    rotate_left
    ·intro w9 hSw
     go_simp
     try with_reducible rfl
    simp only [pA]
    refine tk 22 (v:=undef) rfl (Or.inr ⟨by rfl,rfl⟩) ?_
    simp only [pA]
    refine tk 23 (v:=undef) rfl (Or.inr ⟨by rfl,rfl⟩) ?_
    simp only [pA]
    refine tk 24 (v:=undef) rfl (Or.inr ⟨by rfl,rfl⟩) ?_
    simp only [pA]
    refine tk 25 (v:=undef) rfl (Or.inr ⟨by rfl,rfl⟩) ?_
    simp only [pA]
    refine tk 26 (v:=undef) rfl (Or.inr ⟨by rfl,rfl⟩) ?_
    simp only [pA]
    refine tk 27 (v:=undef) rfl (Or.inr ⟨by rfl,rfl⟩) ?_
    simp only [pA]
    refine tk 28 (v:=undef) rfl (Or.inr ⟨by rfl,rfl⟩) ?_
    simp only [pA]
    refine tk 29 (v:=undef) rfl (Or.inr ⟨by rfl,rfl⟩) ?_
    simp only [pA]
    refine tk 30 (v:=undef) rfl (Or.inr ⟨by rfl,rfl⟩) ?_
    simp only [pA]
    refine tk 31 (v:=?_) rfl (Or.inl ⟨by rfl,?_⟩) ?_
    rotate_left
    ·intro w9 hSw
     go_simp
     try with_reducible rfl
    simp only [pA]
    refine wpAnyH_done (by kernel_rfl) ?_ _
    go_wp2
    first | exact HZ.out _ hBw | (go_ret;exact HZ.out _ hBw)
   | true =>
    have H2:=G1.out
    rw [hd] at H2
    replace G1:=xQ1 H2
    clear H2
    have HD:=xQ1 hd
    clear hd
    by_cases hzk:z=(k:Int)
    ·subst hzk
     cases kn with
     | false =>
      have HZ:=xQ1 (fun w' (hb:Below w.heap.size w w')=>HNo.out w' hb (fun h=>by have:=inVs_iff.2 (HF.out h).2.2.1;rw [HKN.out] at this;cases this))
      clear HF HT HNo HYes
      go_wp2_with fail
      have bD:Below wr.heap.size wr wr.drew:=(Below.refl _ _).drew
      have kn0:=xQ0 bD n0
      have kn1:=xQ0 bD n1
      have kd0:=xQ0 bD d0
      have kd1:=xQ0 bD d1
      replace hB:=hB.trans (bD.mono hB.size)
      replace hBw:=hBw.trans (bD.mono hBw.size)
      refine wp_region_held_drew (S:=fun w'=>w'.cell? ⟨w.heap.size,0,none⟩=some (.int .i64 V)∧w'.cell? ⟨w.heap.size,1,none⟩=some (.slice (some ⟨bb,off,none⟩) R.length c)∧w'.cell? ⟨bb,off+k*2,none⟩=some (.int .i64 v)∧w'.cell? ⟨bb,off+k*2+1,none⟩=some (.slice Xa XL.length Xc)) (by kernel_rfl) ⟨kn0,kn1,kd0,kd1⟩ (fun hHeld=>?_)
      clear kn0 kn1 kd0 kd1
      generalize wr.drew=w4 at bD hB hBw hHeld ⊢
      clear bD n0 n1 d0 d1
      refine tk 0 (v:=?_) rfl (Or.inl ⟨by rfl,?_⟩) ?_
      rotate_left
      ·intro w9 hSw
       go_simp
       try with_reducible rfl
      simp only [pA]
      refine tk 1 (v:=?_) rfl (Or.inl ⟨by rfl,?_⟩) ?_
      rotate_left
      ·intro w9 hSw
       go_simp
       try with_reducible rfl
      simp only [pA]
      refine tk 2 (v:=?_) rfl (Or.inl ⟨by rfl,?_⟩) ?_
      rotate_left
      ·intro w9 hSw
       go_simp
       try with_reducible rfl
      simp only [pA]
      refine tk 3 (v:=?_) rfl (Or.inl ⟨by rfl,?_⟩) ?_
      rotate_left
      ·intro w9 hSw
       go_simp
       try with_reducible rfl
      simp only [pA]
      refine tk 4 (v:=?_) rfl (Or.inl ⟨by rfl,?_⟩) ?_
      rotate_left
      ·intro w9 hSw
       go_simp
       try with_reducible rfl
      simp only [pA]
      refine tk 5 (v:=?_) rfl (Or.inl ⟨by rfl,?_⟩) ?_
      rotate_left
      ·intro w9 hSw
       go_simp
       try with_reducible rfl
      simp only [pA]
      refine tk 6 (v:=?_) rfl (Or.inl ⟨by rfl,?_⟩) ?_
      rotate_left
      ·intro w9 hSw
       go_simp
       try with_reducible rfl
      simp only [pA]
      refine wpAnyH_ready (rs:=[7]) (by kernel_rfl) (by simp) ?_
      refine xX0 rfl (fun KK hKK=>?_)
      go_simp
      refine (G1.out _).mono ?_
      rintro e w5 ⟨rfl,b5⟩
      have bC:=b5
      replace hB:=hB.trans (bC.mono hB.size)
      replace hBw:=hBw.trans (bC.mono hBw.size)
      replace hHeld:=(⟨xQ0 bC hHeld.1,xQ0 bC hHeld.2.1,xQ0 bC hHeld.2.2.1,xQ0 bC hHeld.2.2.2⟩:_∧_∧_∧_)
      clear bC
      go_wp2_with fail
      clear b5 G1
      refine hKK.out _ _ hHeld ?_
      clear hHeld
      intro hHeld
      clear hKK KK
      try simp only [pA]
      refine tk 8 (v:=?_) rfl (Or.inl ⟨by rfl,?_⟩) ?_
      rotate_left
      ·intro w9 hSw
       go_simp
       try with_reducible rfl
      simp only [pA]
      refine tk 9 (v:=?_) rfl (Or.inl ⟨by rfl,?_⟩) ?_
      rotate_left
      ·intro w9 hSw
       go_simp
       try with_reducible rfl
      simp only [pA]
      refine tk 10 (v:=?_) rfl (Or.inl ⟨by rfl,?_⟩) ?_
      rotate_left
      ·intro w9 hSw
       go_simp
       try with_reducible rfl
      simp only [pA]
      refine tk 11 (v:=?_) rfl (Or.inl ⟨by rfl,?_⟩) ?_
      rotate_left
      ·intro w9 hSw
       go_simp
       try with_reducible rfl
      simp only [pA]
      refine tk 12 (v:=?_) rfl (Or.inl ⟨by rfl,?_⟩) ?_
      rotate_left
      ·intro w9 hSw
       go_simp
       try with_reducible rfl
      simp only [pA]
      refine tk 13 (v:=?_) rfl (Or.inl ⟨by rfl,?_⟩) ?_
      rotate_left
      ·intro w9 hSw
       go_simp
       try with_reducible rfl
      simp only [pA]
      refine tk 14 (v:=?_) rfl (Or.inl ⟨by rfl,?_⟩) ?_
      rotate_left
      ·intro w9 hSw
       go_simp
       try with_reducible rfl
      simp only [pA]
      refine tk 15 (v:=?_) rfl (Or.inl ⟨by rfl,?_⟩) ?_
      rotate_left
      ·intro w9 hSw
       go_simp
       try with_reducible rfl
      simp only [pA]
      refine tk 16 (v:=?_) rfl (Or.inl ⟨by rfl,?_⟩) ?_
      rotate_left
      ·intro w9 hSw
       go_simp
       try with_reducible rfl
      simp only [pA]
      refine tk 18 (v:=?_) rfl (Or.inl ⟨by rfl,?_⟩) ?_
      rotate_left
      ·intro w9 hSw
       go_simp
       try with_reducible rfl
      simp only [pA]
      refine wpAnyH_ready (rs:=[17]) (by kernel_rfl) (by simp) ?_
      refine xX0 rfl (fun KK hKK=>?_)
      go_simp
      refine (G2.out _ hBw).mono ?_
      rintro e w6 ⟨rfl,b6⟩
      have bC:=b6
      replace hB:=hB.trans (bC.mono hB.size)
      replace hBw:=hBw.trans (bC.mono hBw.size)
      replace hHeld:=(⟨xQ0 bC hHeld.1,xQ0 bC hHeld.2.1,xQ0 bC hHeld.2.2.1,xQ0 bC hHeld.2.2.2⟩:_∧_∧_∧_)
      clear bC
      go_wp2_with fail
      clear b6 G2
      refine hKK.out _ _ hHeld ?_
      clear hHeld
      intro hHeld
      clear hKK KK
      try simp only [pA]
      refine tk 19 (v:=?_) rfl (Or.inl ⟨by rfl,?_⟩) ?_
      rotate_left
      ·intro w9 hSw
       go_simp
       try with_reducible rfl
      simp only [pA]
      refine tk 20 (v:=?_) rfl (Or.inl ⟨by rfl,?_⟩) ?_
      rotate_left
      ·intro w9 hSw
       go_simp
       try with_reducible rfl
      simp only [pA]
      refine tk 21 (v:=?_) rfl (Or.inl ⟨by rfl,?_⟩) ?_
      rotate_left
      ·intro w9 hSw
       go_simp
       try with_reducible rfl
      simp only [pA]
      refine tk 22 (v:=?_) rfl (Or.inl ⟨by rfl,?_⟩) ?_
      rotate_left
      ·intro w9 hSw
       go_simp
       try with_reducible rfl
      simp only [pA]
      refine tk 23 (v:=?_) rfl (Or.inl ⟨by rfl,?_⟩) ?_
      rotate_left
      ·intro w9 hSw
       go_simp
       try with_reducible rfl
      simp only [pA]
      refine tk 24 (v:=?_) rfl (Or.inl ⟨by rfl,?_⟩) ?_
      rotate_left
      ·intro w9 hSw
       go_simp
       try with_reducible rfl
      simp only [pA]
      refine tk 25 (v:=?_) rfl (Or.inl ⟨by rfl,?_⟩) ?_
      rotate_left
      ·intro w9 hSw
       go_simp
       try with_reducible rfl
      simp only [pA]
      refine tk 26 (v:=?_) rfl (Or.inl ⟨by rfl,?_⟩) ?_
      rotate_left
      ·intro w9 hSw
       go_simp
       try with_reducible rfl
      simp only [pA]
      refine tk 27 (v:=?_) rfl (Or.inl ⟨by rfl,?_⟩) ?_
      rotate_left
      ·intro w9 hSw
       go_simp
       try with_reducible rfl
      simp only [pA]
      refine tk 28 (v:=?_) rfl (Or.inl ⟨by rfl,?_⟩) ?_
      rotate_left
      ·intro w9 hSw
       go_simp
       try with_reducible rfl
      simp only [pA]
      refine wpAnyH_ready (rs:=[29]) (by kernel_rfl) (by simp) ?_
      refine xX0 rfl (fun KK hKK=>?_)
      go_simp
      refine (G3.out _ hBw).mono ?_
      rintro e w7 ⟨rfl,b7⟩
      have bC:=b7
      replace hB:=hB.trans (bC.mono hB.size)
      replace hBw:=hBw.trans (bC.mono hBw.size)
      replace hHeld:=(⟨xQ0 bC hHeld.1,xQ0 bC hHeld.2.1,xQ0 bC hHeld.2.2.1,xQ0 bC hHeld.2.2.2⟩:_∧_∧_∧_)
      clear bC
      go_wp2_with fail
      clear b7 G3
      refine hKK.out _ _ hHeld ?_
      clear hHeld
      intro hHeld
      clear hKK KK
      try simp only [pA]
      refine tk 30 (v:=?_) rfl (Or.inl ⟨by rfl,?_⟩) ?_
      rotate_left
      ·intro w9 hSw
       go_simp
       try with_reducible rfl
      simp only [pA]
      refine tk 31 (v:=?_) rfl (Or.inl ⟨by rfl,?_⟩) ?_
      rotate_left
      ·intro w9 hSw
       go_simp
       try with_reducible rfl
      simp only [pA]
      refine wpAnyH_done (by kernel_rfl) ?_ _
      go_wp2
      first | exact HZ.out _ hBw | (go_ret;exact HZ.out _ hBw)
     | true =>
      have HZ:=xQ1 (HT.out ⟨by have:=HD.out;simpa using this,HZZ.out,inVs_iff.1 HKN.out⟩)
      clear HF HT HNo HYes
      go_wp2_with fail
      have bD:Below wr.heap.size wr wr.drew:=(Below.refl _ _).drew
      have kn0:=xQ0 bD n0
      have kn1:=xQ0 bD n1
      have kd0:=xQ0 bD d0
      have kd1:=xQ0 bD d1
      replace hB:=hB.trans (bD.mono hB.size)
      replace hBw:=hBw.trans (bD.mono hBw.size)
      refine wp_region_held_drew (S:=fun w'=>w'.cell? ⟨w.heap.size,0,none⟩=some (.int .i64 V)∧w'.cell? ⟨w.heap.size,1,none⟩=some (.slice (some ⟨bb,off,none⟩) R.length c)∧w'.cell? ⟨bb,off+k*2,none⟩=some (.int .i64 v)∧w'.cell? ⟨bb,off+k*2+1,none⟩=some (.slice Xa XL.length Xc)) (by kernel_rfl) ⟨kn0,kn1,kd0,kd1⟩ (fun hHeld=>?_)
      clear kn0 kn1 kd0 kd1
      generalize wr.drew=w4 at bD hB hBw hHeld ⊢
      clear bD n0 n1 d0 d1
      refine tk 0 (v:=?_) rfl (Or.inl ⟨by rfl,?_⟩) ?_
      rotate_left
      ·intro w9 hSw
       go_simp
       try with_reducible rfl
      simp only [pA]
      refine tk 1 (v:=?_) rfl (Or.inl ⟨by rfl,?_⟩) ?_
      rotate_left
      ·intro w9 hSw
       go_simp
       try with_reducible rfl
      simp only [pA]
      refine tk 2 (v:=?_) rfl (Or.inl ⟨by rfl,?_⟩) ?_
      rotate_left
      ·intro w9 hSw
       go_simp
       try with_reducible rfl
      simp only [pA]
      refine tk 3 (v:=?_) rfl (Or.inl ⟨by rfl,?_⟩) ?_
      rotate_left
      ·intro w9 hSw
       go_simp
       try with_reducible rfl
      simp only [pA]
      refine tk 4 (v:=?_) rfl (Or.inl ⟨by rfl,?_⟩) ?_
      rotate_left
      ·intro w9 hSw
       go_simp
       try with_reducible rfl
      simp only [pA]
      refine tk 5 (v:=?_) rfl (Or.inl ⟨by rfl,?_⟩) ?_
      rotate_left
      ·intro w9 hSw
       go_simp
       try with_reducible rfl
      simp only [pA]
      refine tk 6 (v:=?_) rfl (Or.inl ⟨by rfl,?_⟩) ?_
      rotate_left
      ·intro w9 hSw
       go_simp
       try with_reducible rfl
      simp only [pA]
      refine wpAnyH_ready (rs:=[7]) (by kernel_rfl) (by simp) ?_
      refine xX0 rfl (fun KK hKK=>?_)
      go_simp
      refine (G1.out _).mono ?_
      rintro e w5 ⟨rfl,b5⟩
      have bC:=b5
      replace hB:=hB.trans (bC.mono hB.size)
      replace hBw:=hBw.trans (bC.mono hBw.size)
      replace hHeld:=(⟨xQ0 bC hHeld.1,xQ0 bC hHeld.2.1,xQ0 bC hHeld.2.2.1,xQ0 bC hHeld.2.2.2⟩:_∧_∧_∧_)
      clear bC
      go_wp2_with fail
      clear b5 G1
      refine hKK.out _ _ hHeld ?_
      clear hHeld
      intro hHeld
      clear hKK KK
      try simp only [pA]
      refine tk 8 (v:=?_) rfl (Or.inl ⟨by rfl,?_⟩) ?_
      rotate_left
      ·intro w9 hSw
       go_simp
       try with_reducible rfl
      simp only [pA]
      refine tk 9 (v:=?_) rfl (Or.inl ⟨by rfl,?_⟩) ?_
      rotate_left
      ·intro w9 hSw
       go_simp
       try with_reducible rfl
      simp only [pA]
      refine tk 10 (v:=?_) rfl (Or.inl ⟨by rfl,?_⟩) ?_
      rotate_left
      ·intro w9 hSw
       go_simp
       try with_reducible rfl
      simp only [pA]
      refine tk 11 (v:=?_) rfl (Or.inl ⟨by rfl,?_⟩) ?_
      rotate_left
      ·intro w9 hSw
       go_simp
       try with_reducible rfl
      simp only [pA]
      refine tk 12 (v:=?_) rfl (Or.inl ⟨by rfl,?_⟩) ?_
      rotate_left
      ·intro w9 hSw
       go_simp
       try with_reducible rfl
      simp only [pA]
      refine tk 13 (v:=?_) rfl (Or.inl ⟨by rfl,?_⟩) ?_
      rotate_left
      ·intro w9 hSw
       go_simp
       try with_reducible rfl
      simp only [pA]
      refine tk 14 (v:=?_) rfl (Or.inl ⟨by rfl,?_⟩) ?_
      rotate_left
      ·intro w9 hSw
       go_simp
       try with_reducible rfl
      simp only [pA]
      refine tk 15 (v:=?_) rfl (Or.inl ⟨by rfl,?_⟩) ?_
      rotate_left
      ·intro w9 hSw
       go_simp
       try with_reducible rfl
      simp only [pA]
      refine tk 16 (v:=?_) rfl (Or.inl ⟨by rfl,?_⟩) ?_
      rotate_left
      ·intro w9 hSw
       go_simp
       try with_reducible rfl
      simp only [pA]
      refine tk 18 (v:=?_) rfl (Or.inl ⟨by rfl,?_⟩) ?_
      rotate_left
      ·intro w9 hSw
       go_simp
       try with_reducible rfl
      simp only [pA]
      refine wpAnyH_ready (rs:=[17]) (by kernel_rfl) (by simp) ?_
      refine xX0 rfl (fun KK hKK=>?_)
      go_simp
      refine (G2.out _ hBw).mono ?_
      rintro e w6 ⟨rfl,b6⟩
      have bC:=b6
      replace hB:=hB.trans (bC.mono hB.size)
      replace hBw:=hBw.trans (bC.mono hBw.size)
      replace hHeld:=(⟨xQ0 bC hHeld.1,xQ0 bC hHeld.2.1,xQ0 bC hHeld.2.2.1,xQ0 bC hHeld.2.2.2⟩:_∧_∧_∧_)
      clear bC
      go_wp2_with fail
      clear b6 G2
      refine hKK.out _ _ hHeld ?_
      clear hHeld
      intro hHeld
      clear hKK KK
      try simp only [pA]
      refine tk 19 (v:=?_) rfl (Or.inl ⟨by rfl,?_⟩) ?_
      rotate_left
      ·intro w9 hSw
       go_simp
       try with_reducible rfl
      simp only [pA]
      refine tk 20 (v:=?_) rfl (Or.inl ⟨by rfl,?_⟩) ?_
      rotate_left
      ·intro w9 hSw
       go_simp
       try with_reducible rfl
      simp only [pA]
      refine tk 21 (v:=?_) rfl (Or.inl ⟨by rfl,?_⟩) ?_
      rotate_left
      ·intro w9 hSw
       go_simp
       try with_reducible rfl
      simp only [pA]
      refine tk 22 (v:=?_) rfl (Or.inl ⟨by rfl,?_⟩) ?_
      rotate_left
      ·intro w9 hSw
       go_simp
       try with_reducible rfl
      simp only [pA]
      refine tk 23 (v:=?_) rfl (Or.inl ⟨by rfl,?_⟩) ?_
      rotate_left
      ·intro w9 hSw
       go_simp
       try with_reducible rfl
      simp only [pA]
      refine tk 24 (v:=?_) rfl (Or.inl ⟨by rfl,?_⟩) ?_
      rotate_left
      ·intro w9 hSw
       go_simp
       try with_reducible rfl
      simp only [pA]
      refine tk 25 (v:=?_) rfl (Or.inl ⟨by rfl,?_⟩) ?_
      rotate_left
      ·intro w9 hSw
       go_simp
       try with_reducible rfl
      simp only [pA]
      refine tk 26 (v:=?_) rfl (Or.inl ⟨by rfl,?_⟩) ?_
      rotate_left
      ·intro w9 hSw
       go_simp
       try with_reducible rfl
      simp only [pA]
      refine tk 27 (v:=?_) rfl (Or.inl ⟨by rfl,?_⟩) ?_
      rotate_left
      ·intro w9 hSw
       go_simp
       try with_reducible rfl
      simp only [pA]
      refine tk 28 (v:=?_) rfl (Or.inl ⟨by rfl,?_⟩) ?_
      rotate_left
      ·intro w9 hSw
       go_simp
       try with_reducible rfl
      simp only [pA]
      refine wpAnyH_ready (rs:=[29]) (by kernel_rfl) (by simp) ?_
      refine xX0 rfl (fun KK hKK=>?_)
      go_simp
      refine (G3.out _ hBw).mono ?_
      rintro e w7 ⟨rfl,b7⟩
      have bC:=b7
      replace hB:=hB.trans (bC.mono hB.size)
      replace hBw:=hBw.trans (bC.mono hBw.size)
      replace hHeld:=(⟨xQ0 bC hHeld.1,xQ0 bC hHeld.2.1,xQ0 bC hHeld.2.2.1,xQ0 bC hHeld.2.2.2⟩:_∧_∧_∧_)
      clear bC
      go_wp2_with fail
      clear b7 G3
      refine hKK.out _ _ hHeld ?_
      clear hHeld
      intro hHeld
      clear hKK KK
      try simp only [pA]
      refine tk 30 (v:=?_) rfl (Or.inl ⟨by rfl,?_⟩) ?_
      rotate_left
      ·intro w9 hSw
       go_simp
       try with_reducible rfl
      simp only [pA]
      refine tk 31 (v:=?_) rfl (Or.inl ⟨by rfl,?_⟩) ?_
      rotate_left
      ·intro w9 hSw
       go_simp
       try with_reducible rfl
      simp only [pA]
      refine wpAnyH_done (by kernel_rfl) ?_ _
      go_wp2
      go_roundw
      case rel=>exact ⟨k+1,by omega,by go_num,HZ.out,hB⟩
      case measure=>simp only [intOf];omega
    ·have hzb:(z != (k:Int))=true:=by simpa using hzk
     have HZ:=xQ1 (fun w' (hb:Below w.heap.size w w')=>HNo.out w' hb (fun h=>hzk (by rw [←HZZ.out];exact (HF.out h).2.1)))
     clear HF HT HNo HYes
     go_wp2_with fail
     have bD:Below wr.heap.size wr wr.drew:=(Below.refl _ _).drew
     have kn0:=xQ0 bD n0
     have kn1:=xQ0 bD n1
     have kd0:=xQ0 bD d0
     have kd1:=xQ0 bD d1
     replace hB:=hB.trans (bD.mono hB.size)
     replace hBw:=hBw.trans (bD.mono hBw.size)
     refine wp_region_held_drew (S:=fun w'=>w'.cell? ⟨w.heap.size,0,none⟩=some (.int .i64 V)∧w'.cell? ⟨w.heap.size,1,none⟩=some (.slice (some ⟨bb,off,none⟩) R.length c)∧w'.cell? ⟨bb,off+k*2,none⟩=some (.int .i64 v)∧w'.cell? ⟨bb,off+k*2+1,none⟩=some (.slice Xa XL.length Xc)) (by kernel_rfl) ⟨kn0,kn1,kd0,kd1⟩ (fun hHeld=>?_)
     clear kn0 kn1 kd0 kd1
     generalize wr.drew=w4 at bD hB hBw hHeld ⊢
     clear bD n0 n1 d0 d1
     refine tk 0 (v:=?_) rfl (Or.inl ⟨by rfl,?_⟩) ?_
     rotate_left
     ·intro w9 hSw
      go_simp
      try with_reducible rfl
     simp only [pA]
     refine tk 1 (v:=?_) rfl (Or.inl ⟨by rfl,?_⟩) ?_
     rotate_left
     ·intro w9 hSw
      go_simp
      try with_reducible rfl
     simp only [pA]
     refine tk 2 (v:=?_) rfl (Or.inl ⟨by rfl,?_⟩) ?_
     rotate_left
     ·intro w9 hSw
      go_simp
      try with_reducible rfl
     simp only [pA]
     refine tk 3 (v:=?_) rfl (Or.inl ⟨by rfl,?_⟩) ?_
     rotate_left
     ·intro w9 hSw
      go_simp
      try with_reducible rfl
     simp only [pA]
     refine tk 4 (v:=?_) rfl (Or.inl ⟨by rfl,?_⟩) ?_
     rotate_left
     ·intro w9 hSw
      go_simp
      try with_reducible rfl
     simp only [pA]
     refine tk 5 (v:=?_) rfl (Or.inl ⟨by rfl,?_⟩) ?_
     rotate_left
     ·intro w9 hSw
      go_simp
      try with_reducible rfl
     simp only [pA]
     refine tk 6 (v:=?_) rfl (Or.inl ⟨by rfl,?_⟩) ?_
     rotate_left
     ·intro w9 hSw
      go_simp
      try with_reducible rfl
     simp only [pA]
     refine wpAnyH_ready (rs:=[7]) (by kernel_rfl) (by simp) ?_
     refine xX0 rfl (fun KK hKK=>?_)
     go_simp
     refine (G1.out _).mono ?_
     rintro e w5 ⟨rfl,b5⟩
     have bC:=b5
     replace hB:=hB.trans (bC.mono hB.size)
     replace hBw:=hBw.trans (bC.mono hBw.size)
     replace hHeld:=(⟨xQ0 bC hHeld.1,xQ0 bC hHeld.2.1,xQ0 bC hHeld.2.2.1,xQ0 bC hHeld.2.2.2⟩:_∧_∧_∧_)
     clear bC
     go_wp2_with fail
     clear b5 G1
     refine hKK.out _ _ hHeld ?_
     clear hHeld
     intro hHeld
     clear hKK KK
     try simp only [pA]
     refine tk 8 (v:=?_) rfl (Or.inl ⟨by rfl,?_⟩) ?_
     rotate_left
     ·intro w9 hSw
      go_simp
      try with_reducible rfl
     simp only [pA]
     refine tk 9 (v:=?_) rfl (Or.inl ⟨by rfl,?_⟩) ?_
     rotate_left
     ·intro w9 hSw
      go_simp
      try with_reducible rfl
     simp only [pA]
     refine tk 10 (v:=?_) rfl (Or.inl ⟨by rfl,?_⟩) ?_
     rotate_left
     ·intro w9 hSw
      go_simp
      try with_reducible rfl
     simp only [pA]
     refine tk 11 (v:=?_) rfl (Or.inl ⟨by rfl,?_⟩) ?_
     rotate_left
     ·intro w9 hSw
      go_simp
      try with_reducible rfl
     simp only [pA]
     refine tk 12 (v:=?_) rfl (Or.inl ⟨by rfl,?_⟩) ?_
     rotate_left
     ·intro w9 hSw
      go_simp
      try with_reducible rfl
     simp only [pA]
     refine tk 13 (v:=?_) rfl (Or.inl ⟨by rfl,?_⟩) ?_
     rotate_left
     ·intro w9 hSw
      go_simp
      try with_reducible rfl
     simp only [pA]
     refine tk 14 (v:=?_) rfl (Or.inl ⟨by rfl,?_⟩) ?_
     rotate_left
     ·intro w9 hSw
      go_simp
      try with_reducible rfl
     simp only [pA]
     refine tk 15 (v:=?_) rfl (Or.inl ⟨by rfl,?_⟩) ?_
     rotate_left
     ·intro w9 hSw
      go_simp
      try with_reducible rfl
     simp only [pA]
     refine tk 16 (v:=?_) rfl (Or.inl ⟨by rfl,?_⟩) ?_
     rotate_left
     ·intro w9 hSw
      go_simp
      try with_reducible rfl
     simp only [pA]
     refine tk 18 (v:=?_) rfl (Or.inl ⟨by rfl,?_⟩) ?_
     rotate_left
     ·intro w9 hSw
      go_simp
      try with_reducible rfl
     simp only [pA]
     refine wpAnyH_ready (rs:=[17]) (by kernel_rfl) (by simp) ?_
     refine xX0 rfl (fun KK hKK=>?_)
     go_simp
     refine (G2.out _ hBw).mono ?_
     rintro e w6 ⟨rfl,b6⟩
     have bC:=b6
     replace hB:=hB.trans (bC.mono hB.size)
     replace hBw:=hBw.trans (bC.mono hBw.size)
     replace hHeld:=(⟨xQ0 bC hHeld.1,xQ0 bC hHeld.2.1,xQ0 bC hHeld.2.2.1,xQ0 bC hHeld.2.2.2⟩:_∧_∧_∧_)
     clear bC
     go_wp2_with fail
     clear b6 G2
     refine hKK.out _ _ hHeld ?_
     clear hHeld
     intro hHeld
     clear hKK KK
     try simp only [pA]
     refine tk 19 (v:=?_) rfl (Or.inl ⟨by rfl,?_⟩) ?_
     rotate_left
     ·intro w9 hSw
      go_simp
      try with_reducible rfl
     simp only [pA]
     refine tk 20 (v:=?_) rfl (Or.inl ⟨by rfl,?_⟩) ?_
     rotate_left
     ·intro w9 hSw
      go_simp
      try with_reducible rfl
     simp only [pA]
     refine tk 21 (v:=?_) rfl (Or.inl ⟨by rfl,?_⟩) ?_
     rotate_left
     ·intro w9 hSw
      go_simp
      try with_reducible rfl
     simp only [pA]
     refine tk 22 (v:=undef) rfl (Or.inr ⟨by rfl,rfl⟩) ?_
     simp only [pA]
     refine tk 23 (v:=undef) rfl (Or.inr ⟨by rfl,rfl⟩) ?_
     simp only [pA]
     refine tk 24 (v:=undef) rfl (Or.inr ⟨by rfl,rfl⟩) ?_
     simp only [pA]
     refine tk 25 (v:=undef) rfl (Or.inr ⟨by rfl,rfl⟩) ?_
     simp only [pA]
     refine tk 26 (v:=undef) rfl (Or.inr ⟨by rfl,rfl⟩) ?_
     simp only [pA]
     refine tk 27 (v:=undef) rfl (Or.inr ⟨by rfl,rfl⟩) ?_
     simp only [pA]
     refine tk 28 (v:=undef) rfl (Or.inr ⟨by rfl,rfl⟩) ?_
     simp only [pA]
     refine tk 29 (v:=undef) rfl (Or.inr ⟨by rfl,rfl⟩) ?_
     simp only [pA]
     refine tk 30 (v:=undef) rfl (Or.inr ⟨by rfl,rfl⟩) ?_
     simp only [pA]
     refine tk 31 (v:=?_) rfl (Or.inl ⟨by rfl,?_⟩) ?_
     rotate_left
     ·intro w9 hSw
      go_simp
      try with_reducible rfl
     simp only [pA]
     refine wpAnyH_done (by kernel_rfl) ?_ _
     go_wp2
     first | exact HZ.out _ hBw | (go_ret;exact HZ.out _ hBw)
  ·obtain rfl:k=R.length:=by omega
   have i1:¬ (R.length:Int) < (R.length:Int):=by omega
   have HN1:=HN
   clear HN GI GK
   go_wp2_with fail
   go_loopw [4] (fun vi wq=>∃ k:Nat,k≤R.length∧vi=.int .i64 k∧chk2 R k∧Below wr.heap.size wr wq) (fun vi _=>R.length - (intOf vi).toNat)
   case atStart=>exact ⟨0,Nat.zero_le _,rfl,fun i r hi=>absurd hi (by omega),Below.refl _ _⟩
   case round =>
    obtain ⟨k,hk,rfl,hN,hB2⟩:=hrel
    have HN:=xQ1 hN
    clear hN
    have hBq:=hBw.trans (hB2.mono hBw.size)
    replace n0:=xQ0 hB2 n0
    replace n1:=xQ0 hB2 n1
    by_cases hlt:k < R.length
    ·obtain ⟨r,hr⟩:∃ r,R[k]?=some r:=⟨R[k],List.getElem?_eq_getElem hlt⟩
     have hrm:=List.mem_of_getElem? hr
     obtain ⟨bb,off,rfl,hbb,hcell⟩:=HAt.out (by intro e;rw [e] at hlt;simp at hlt)
     obtain ⟨d0,d1⟩:=hcell k r hr
     replace d0:=xQ0 hBq d0
     replace d1:=xQ0 hBq d1
     have G3:=xQ1 (GV.out r hrm)
     have HF:=xQ1 (fun (h:mayBe V (tb R))=>(mayBe_1 h hr).2.2.2)
     have HT:=xQ1 (fun (h:∀ z∈vsN r.2.fo,ix R z < 0)=>show chk2 R (k+1) from fun j q hj hq=>by
       by_cases e:j=k
       ·subst e;rw [hr] at hq;cases hq;exact h
       ·exact HN.out j q (by omega) hq)
     have hvl:=HVl.out r hrm
     obtain ⟨v,X⟩:=r
     obtain ⟨Xa,Xc,XL⟩:=X
     unfold FV.val at d1 G3
     simp only at d0 d1 G3 HF HT hvl
     obtain ⟨zs,hzs⟩:∃ zs,vsN (FV.fo ⟨Xa,Xc,XL⟩)=zs:=⟨_,rfl⟩
     rw [hzs] at G3 HF HT hvl
     clear hzs
     have j0:(0:Int)≤(k:Int):=by omega
     have j1:(k:Int) < (R.length:Int):=by omega
     clear hcell hr hrm GV HVl
     go_wp2_with fail
     refine (G3.out _ hBq).mono ?_
     rintro e wv ⟨av,cv,rfl,bv,hI,hcv⟩
     clear G3 d0 d1
     replace n0:=xQ0 bv n0
     replace n1:=xQ0 bv n1
     have hBv:=hB2.trans (bv.mono hB2.size)
     have hBx:=hBq.trans (bv.mono hBq.size)
     clear bv hB2 hBq
     go_wp2_with fail
     go_loopw [6] (fun vi wx=>∃ j:Nat,j≤zs.length∧vi=.int .i64 j∧(∀ i z,i < j→zs[i]?=some z→ix R z < 0)∧Below wv.heap.size wv wx) (fun vi _=>zs.length - (intOf vi).toNat)
     case atStart=>exact ⟨0,Nat.zero_le _,rfl,fun i z hi=>absurd hi (by omega),Below.refl _ _⟩
     case round =>
      obtain ⟨j,hj,rfl,hM,hB3⟩:=hrel
      have HM:=xQ1 hM
      clear hM
      have hBy:=hBx.trans (hB3.mono hBx.size)
      have hBz:=hBv.trans (hB3.mono hBv.size)
      replace n0:=xQ0 hB3 n0
      replace n1:=xQ0 hB3 n1
      by_cases hlt2:j < zs.length
      ·obtain ⟨z,hz⟩:∃ z,zs[j]?=some z:=⟨zs[j],List.getElem?_eq_getElem hlt2⟩
       obtain ⟨b2,off2,rfl,hb2,hcell⟩:=hI (by intro e;rw [e] at hlt2;simp at hlt2)
       have e0:=xQ0 hB3 (hcell j z hz)
       have j2:(0:Int)≤(j:Int):=by omega
       have j3:(j:Int) < (zs.length:Int):=by omega
       have G2:=xQ1 (GR.out z)
       have HF2:=xQ1 (fun (h:mayBe V (tb (R)))=>HF.out h z (List.mem_of_getElem? hz))
       have HT2:=xQ1 (fun (h:ix R z < 0)=>show ∀ i y,i < j+1→zs[i]?=some y→ix R y < 0 from fun i y hi hy=>by
         by_cases e:i=j
         ·subst e;rw [hz] at hy;cases hy;exact h
         ·exact HM.out i y (by omega) hy)
       obtain ⟨u,hu⟩:∃ u,ix R z=u:=⟨_,rfl⟩
       rw [hu] at G2 HF2 HT2
       clear hu hcell hI hz GR HAt
       by_cases hneg:u < 0
       ·have hu1:¬ (0≤u):=by omega
        have HZ:=xQ1 (HT2.out hneg)
        clear HF2 HT2 HNo HYes
        have hu2:((0:Int)≤u)=False:=eq_false hu1
        go_wp2_with fail
        have bD:Below wr.heap.size wr wr.drew:=(Below.refl _ _).drew
        have kn0:=xQ0 bD n0
        have kn1:=xQ0 bD n1
        have ke0:=xQ0 bD e0
        replace hBy:=hBy.trans (bD.mono hBy.size)
        replace hBz:=hBz.trans (bD.mono hBz.size)
        replace hB3:=hB3.trans (bD.mono hB3.size)
        refine wp_region_held_drew (S:=fun w'=>w'.cell? ⟨w.heap.size,0,none⟩=some (.int .i64 V)∧w'.cell? ⟨w.heap.size,1,none⟩=some (.slice (some ⟨bb,off,none⟩) R.length c)∧w'.cell? ⟨b2,off2+j,none⟩=some (.int .i64 z)) (by kernel_rfl) ⟨kn0,kn1,ke0⟩ (fun hHeld=>?_)
        clear kn0 kn1 ke0
        generalize wr.drew=w4 at bD hBy hBz hB3 hHeld ⊢
        clear bD n0 n1 e0
        refine tk 0 (v:=?_) rfl (Or.inl ⟨by rfl,?_⟩) ?_
        rotate_left
        ·intro w9 hSw
         go_simp
         try with_reducible rfl
        simp only [pA]
        refine tk 1 (v:=?_) rfl (Or.inl ⟨by rfl,?_⟩) ?_
        rotate_left
        ·intro w9 hSw
         go_simp
         try with_reducible rfl
        simp only [pA]
        refine tk 2 (v:=?_) rfl (Or.inl ⟨by rfl,?_⟩) ?_
        rotate_left
        ·intro w9 hSw
         go_simp
         try with_reducible rfl
        simp only [pA]
        refine tk 3 (v:=?_) rfl (Or.inl ⟨by rfl,?_⟩) ?_
        rotate_left
        ·intro w9 hSw
         go_simp
         try with_reducible rfl
        simp only [pA]
        refine tk 4 (v:=?_) rfl (Or.inl ⟨by rfl,?_⟩) ?_
        rotate_left
        ·intro w9 hSw
         go_simp
         try with_reducible rfl
        simp only [pA]
        refine wpAnyH_ready (rs:=[5]) (by kernel_rfl) (by simp) ?_
        refine xX0 rfl (fun KK hKK=>?_)
        go_simp
        refine (G2.out _ hBy).mono ?_
        rintro e w5 ⟨rfl,b5⟩
        have bC:=b5
        replace hBy:=hBy.trans (bC.mono hBy.size)
        replace hBz:=hBz.trans (bC.mono hBz.size)
        replace hB3:=hB3.trans (bC.mono hB3.size)
        replace hHeld:=(⟨xQ0 bC hHeld.1,xQ0 bC hHeld.2.1,xQ0 bC hHeld.2.2⟩:_∧_∧_)
        clear bC
        go_wp2_with fail
        clear b5 G2
        refine hKK.out _ _ hHeld ?_
        clear hHeld
        intro hHeld
        clear hKK KK
        try simp only [pA]
        refine tk 6 (v:=?_) rfl (Or.inl ⟨by rfl,?_⟩) ?_
        rotate_left
        ·intro w9 hSw
         go_simp
         try with_reducible rfl
        simp only [pA]
        refine wpAnyH_done (by kernel_rfl) ?_ _
        go_wp2
        go_roundw
        case rel=>exact ⟨j+1,by omega,by go_num,HZ.out,hB3⟩
        case measure=>simp only [intOf];omega
       ·have hu1:0≤u:=by omega
        have HZ:=xQ1 (fun w' (hb:Below w.heap.size w w')=>HNo.out w' hb (fun h=>by have:=HF2.out h;omega))
        clear HF2 HT2 HNo HYes
        have hu2:((0:Int)≤u)=True:=eq_true hu1
        go_wp2_with fail
        have bD:Below wr.heap.size wr wr.drew:=(Below.refl _ _).drew
        have kn0:=xQ0 bD n0
        have kn1:=xQ0 bD n1
        have ke0:=xQ0 bD e0
        replace hBy:=hBy.trans (bD.mono hBy.size)
        replace hBz:=hBz.trans (bD.mono hBz.size)
        replace hB3:=hB3.trans (bD.mono hB3.size)
        refine wp_region_held_drew (S:=fun w'=>w'.cell? ⟨w.heap.size,0,none⟩=some (.int .i64 V)∧w'.cell? ⟨w.heap.size,1,none⟩=some (.slice (some ⟨bb,off,none⟩) R.length c)∧w'.cell? ⟨b2,off2+j,none⟩=some (.int .i64 z)) (by kernel_rfl) ⟨kn0,kn1,ke0⟩ (fun hHeld=>?_)
        clear kn0 kn1 ke0
        generalize wr.drew=w4 at bD hBy hBz hB3 hHeld ⊢
        clear bD n0 n1 e0
        refine tk 0 (v:=?_) rfl (Or.inl ⟨by rfl,?_⟩) ?_
        rotate_left
        ·intro w9 hSw
         go_simp
         try with_reducible rfl
        simp only [pA]
        refine tk 1 (v:=?_) rfl (Or.inl ⟨by rfl,?_⟩) ?_
        rotate_left
        ·intro w9 hSw
         go_simp
         try with_reducible rfl
        simp only [pA]
        refine tk 2 (v:=?_) rfl (Or.inl ⟨by rfl,?_⟩) ?_
        rotate_left
        ·intro w9 hSw
         go_simp
         try with_reducible rfl
        simp only [pA]
        refine tk 3 (v:=?_) rfl (Or.inl ⟨by rfl,?_⟩) ?_
        rotate_left
        ·intro w9 hSw
         go_simp
         try with_reducible rfl
        simp only [pA]
        refine tk 4 (v:=?_) rfl (Or.inl ⟨by rfl,?_⟩) ?_
        rotate_left
        ·intro w9 hSw
         go_simp
         try with_reducible rfl
        simp only [pA]
        refine wpAnyH_ready (rs:=[5]) (by kernel_rfl) (by simp) ?_
        refine xX0 rfl (fun KK hKK=>?_)
        go_simp
        refine (G2.out _ hBy).mono ?_
        rintro e w5 ⟨rfl,b5⟩
        have bC:=b5
        replace hBy:=hBy.trans (bC.mono hBy.size)
        replace hBz:=hBz.trans (bC.mono hBz.size)
        replace hB3:=hB3.trans (bC.mono hB3.size)
        replace hHeld:=(⟨xQ0 bC hHeld.1,xQ0 bC hHeld.2.1,xQ0 bC hHeld.2.2⟩:_∧_∧_)
        clear bC
        go_wp2_with fail
        clear b5 G2
        refine hKK.out _ _ hHeld ?_
        clear hHeld
        intro hHeld
        clear hKK KK
        try simp only [pA]
        refine tk 6 (v:=?_) rfl (Or.inl ⟨by rfl,?_⟩) ?_
        rotate_left
        ·intro w9 hSw
         go_simp
         try with_reducible rfl
        simp only [pA]
        refine wpAnyH_done (by kernel_rfl) ?_ _
        go_wp2
        first | exact HZ.out _ hBy | (go_ret;exact HZ.out _ hBy)
      ·obtain rfl:j=zs.length:=by omega
       have i2:¬ (zs.length:Int) < (zs.length:Int):=by omega
       have HZ:=xQ1 (HT.out (fun z hz=>by obtain ⟨i,hi,rfl⟩:=List.mem_iff_getElem.1 hz;exact HM.out i _ hi (List.getElem?_eq_getElem hi)))
       clear HF HT HNo HYes HM HN GR
       go_wp2
       go_roundw
       case rel=>exact ⟨k+1,by omega,by go_num,HZ.out,hBz⟩
       case measure=>simp only [intOf];omega
    ·obtain rfl:k=R.length:=by omega
     have i2:¬ (R.length:Int) < (R.length:Int):=by omega
     have HZ:=xQ1 (HYes.out _ hBq (chk_mayBe HV.out.1 HV.out.2 HN1.out HN.out))
     clear HNo HYes GR GV HN HN1
     go_wp2
     first | exact HZ.out | (go_ret;exact HZ.out)
end Go.Proofs.YtgfmaejhdbmkoaaGreat
