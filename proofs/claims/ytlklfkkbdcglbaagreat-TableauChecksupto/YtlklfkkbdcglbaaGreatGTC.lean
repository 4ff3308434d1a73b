import Derived.Test.YtlklfkkbdcglbaaGreatGT8
import Derived.RangeFuncNested
import Derived.RangeFuncBound
import Derived.RangeFuncCalls
import Derived.RangeFuncLeaves
import Derived.Shelf.Abstract
import Derived.Shelf.RegionOpen
import Derived.OwnWalkIn
import Derived.TacticsInMore
import Derived.LoopNIn
import Derived.LoopIn
import Derived.Maps.AppendAt
import Derived.RangeFuncRecord
import Derived.RangeFuncBox
import Derived.Shelf.SlGeneric
import Derived.Ground.SlgmProg
import Derived.Shelf.Small.Bits
import Derived.Shelf.SortM.Plain
import Derived.Shelf.SortM.SortNone
import Derived.Sort.OwnSortedInts
import Derived.Test.YtlklfkkbdcglbaaGreatGT5
set_option linter.unusedSimpArgs false
namespace Go.Proofs.YtlklfkkbdcglbaaGreat
open Go.RowKit
set_option linter.unusedVariables false
def CkA (w:World) (V:Int) (R:List RowV) (e:Ending) (w':World):Prop:=Below w.heap.size w w'∧((mayBe V (tb R)∧e=.returned (.int .i64 0))∨(¬ mayBe V (tb R)∧e=.returned (.int .i64 70)))
set_option maxHeartbeats 16000000 in
set_option maxRecDepth 100000 in
theorem rCheck_is (V:Int) (a:Option Addr) (c:Nat) (R:List RowV) (w:World) (hT:TSm w a R) (hc:R.length≤c) :
  Calls Tryz.prog 14 #[.agg #[.int .i64 V,.slice a R.length c]] w (CkA w V R):=by
 obtain ⟨TQ,hTQ⟩:∃ TQ,CkA w V R=TQ:=⟨_,rfl⟩
 rw [hTQ]
 replace hTQ:=hide' hTQ
 have hlen:=hT.len
 have HNo:=hide' (fun w' (hb:Below w.heap.size w w') (h:¬ mayBe V (tb R))=>show CkA w V R (.returned (.int .i64 70)) w' from ⟨hb,Or.inr ⟨h,rfl⟩⟩)
 have HYes:=hide' (fun w' (hb:Below w.heap.size w w') (h:mayBe V (tb R))=>show CkA w V R (.returned (.int .i64 0)) w' from ⟨hb,Or.inl ⟨h,rfl⟩⟩)
 rw [hTQ.out] at HNo HYes
 have GI:=hide' (fun x w'=>ris_is V x a R.length c w')
 have GR:=hide' (fun x w' (hb:Below w.heap.size w w')=>rrow_is V x a c R w' ((hT.later hb).tin.at_) hc (by omega))
 have GK:=hide' (fun r (hr:r∈R) w' (hb:Below w.heap.size w w')=>rknows_is V a R.length c r.2 w' ((hT.form hr).later hb))
 have GV:=hide' (fun r (hr:r∈R) w' (hb:Below w.heap.size w w')=>rVarsF_is r.2 w' ((hT.form hr).later hb))
 have HAt:=hide' hT.tin.at_
 have HVl:=hide' (fun r (hr:r∈R)=>Nat.le_trans (vsN_len r.2) (hT.form hr).len)
 clear hT
 have bA:=below_alloc (w:=w) (.cells #[.int .i64 V,.slice a R.length c] 24)
 have m0:(w.alloc (.cells #[.int .i64 V,.slice a R.length c] 24)).cell? ⟨w.heap.size,0,none⟩=some (.int .i64 V):=by go_simp
 have m1:(w.alloc (.cells #[.int .i64 V,.slice a R.length c] 24)).cell? ⟨w.heap.size,1,none⟩=some (.slice a R.length c):=by go_simp
 by_cases h1:V < 0
 ·have HZ:=hide' (HNo.out _ bA (fun h=>by have:=h.lo;have:=h.hi;omega))
  have c1:V < 0:=h1
  clear GI GR GK GV HNo HYes HAt HVl h1
  go_enter Tryz.func14,Tryz.ntmps14
  go_wp2
  first | exact HZ.out | (go_ret;exact HZ.out)
 by_cases h2:65536 < V
 ·have HZ:=hide' (HNo.out _ bA (fun h=>by have:=h.lo;have:=h.hi;omega))
  have c1:¬ V < 0:=h1
  have c2:65536 < V:=h2
  have c3:((65536:Int) < V)=True:=eq_true h2
  clear GI GR GK GV HNo HYes HAt HVl h1 h2
  go_enter Tryz.func14,Tryz.ntmps14
  go_wp2
  first | exact HZ.out | (go_ret;exact HZ.out)
 have c1:¬ V < 0:=h1
 have c3:((65536:Int) < V)=False:=eq_false h2
 have HV:=hide' (show 0≤V∧V≤65536 by omega)
 clear h1 h2
 go_enter Tryz.func14,Tryz.ntmps14
 go_wp2_with fail
 obtain ⟨wA,hwA⟩:∃ wA,w.alloc (.cells #[.int .i64 V,.slice a R.length c] 24)=wA:=⟨_,rfl⟩
 rw [hwA] at bA m0 m1 ⊢
 clear hwA
 go_loopw [3] (fun vi wr=>∃ k:Nat,k≤R.length∧vi=.int .i64 k∧chk1 V R k∧Below wA.heap.size wA wr) (fun vi _=>R.length - (intOf vi).toNat)
 case atStart=>exact ⟨0,Nat.zero_le _,rfl,fun i r hi=>absurd hi (by omega),Below.refl _ _⟩
 case round =>
  obtain ⟨k,hk,rfl,hN,hB⟩:=hrel
  have HN:=hide' hN
  clear hN
  have hBw:=bA.trans (hB.mono bA.size)
  have n0:=below_cell hB m0
  have n1:=below_cell hB m1
  by_cases hlt:k < R.length
  ·obtain ⟨r,hr⟩:∃ r,R[k]?=some r:=⟨R[k],List.getElem?_eq_getElem hlt⟩
   have hrm:=List.mem_of_getElem? hr
   obtain ⟨bb,off,rfl,hbb,hcell⟩:=HAt.out (by intro e;rw [e] at hlt;simp at hlt)
   obtain ⟨d0,d1⟩:=hcell k r hr
   replace d0:=below_cell hBw d0
   replace d1:=below_cell hBw d1
   have G1:=hide' (GI.out r.1)
   have G2:=hide' (GR.out r.1)
   have G3:=hide' (GK.out r hrm)
   have HF:=hide' (fun (h:mayBe V (tb R))=>mayBe_1 h hr)
   have HT:=hide' (fun (h:(0≤r.1∧r.1 < V)∧ix R r.1=(k:Int)∧inV V r.2.fo)=>show chk1 V R (k+1) from fun j q hj hq=>by
     by_cases e:j=k
     ·subst e;rw [hr] at hq;cases hq;exact h
     ·exact HN.out j q (by omega) hq)
   obtain ⟨v,X⟩:=r
   obtain ⟨Xa,Xc,XL⟩:=X
   unfold FV.val at d1 G3
   simp only at d0 d1 G1 G2 G3 HF HT
   have j0:(0:Int)≤(k:Int):=by omega
   have j1:(k:Int) < (R.length:Int):=by omega
   clear hcell hr hrm GI GK GV HAt HVl
   obtain ⟨z,hz⟩:∃ z,ix R v=z:=⟨_,rfl⟩
   rw [hz] at G2
   obtain ⟨kn,hkn⟩:∃ kn,inVs V (vsN (FV.fo ⟨Xa,Xc,XL⟩))=kn:=⟨_,rfl⟩
   rw [hkn] at G3
   have HKN:=hide' hkn
   have HZZ:=hide' hz
   clear hkn hz
   cases hd:(decide (0≤v) && decide (v < V)) with
   | false =>
    have H2:=G1.out
    rw [hd] at H2
    replace G1:=hide' H2
    clear H2
    have HZ:=hide' (fun w' (hb:Below w.heap.size w w')=>HNo.out w' hb (fun h=>by have:=(HF.out h).1;simp [this.1,this.2] at hd))
    clear hd HF HT HNo HYes
    go_wp2_with fail
    have bD:Below wr.heap.size wr wr.drew:=(Below.refl _ _).drew
    have kn0:=below_cell bD n0
    have kn1:=below_cell bD n1
    have kd0:=below_cell bD d0
    have kd1:=below_cell bD d1
    replace hB:=hB.trans (bD.mono hB.size)
    replace hBw:=hBw.trans (bD.mono hBw.size)
    refine wp_region_held_drew (S:=fun w'=>w'.cell? ⟨w.heap.size,0,none⟩=some (.int .i64 V)∧w'.cell? ⟨w.heap.size,1,none⟩=some (.slice (some ⟨bb,off,none⟩) R.length c)∧w'.cell? ⟨bb,off+k*2,none⟩=some (.int .i64 v)∧w'.cell? ⟨bb,off+k*2+1,none⟩=some (.slice Xa XL.length Xc)) (by kernel_rfl) ⟨kn0,kn1,kd0,kd1⟩ (fun hHeld=>?_)
    clear kn0 kn1 kd0 kd1
    generalize wr.drew=w4 at bD hB hBw hHeld ⊢
    clear bD n0 n1 d0 d1
    refine tk 0 (v:=?_) rfl (Or.inl ⟨by rfl,?_⟩) ?_
    rotate_left
    ·intro w9 hSw
     go_simp
     first | done | with_reducible rfl
    simp only [pP,pN,pS,pZ,pC]
    refine tk 1 (v:=?_) rfl (Or.inl ⟨by rfl,?_⟩) ?_
    rotate_left
    ·intro w9 hSw
     go_simp
     first | done | with_reducible rfl
    simp only [pP,pN,pS,pZ,pC]
    refine tk 2 (v:=?_) rfl (Or.inl ⟨by rfl,?_⟩) ?_
    rotate_left
    ·intro w9 hSw
     go_simp
     first | done | with_reducible rfl
    simp only [pP,pN,pS,pZ,pC]
    refine tk 3 (v:=?_) rfl (Or.inl ⟨by rfl,?_⟩) ?_
    rotate_left
    ·intro w9 hSw
     go_simp
     first | done | with_reducible rfl
    simp only [pP,pN,pS,pZ,pC]
    refine tk 4 (v:=?_) rfl (Or.inl ⟨by rfl,?_⟩) ?_
    rotate_left
    ·intro w9 hSw
     go_simp
     first | done | with_reducible rfl
    simp only [pP,pN,pS,pZ,pC]
    refine tk 5 (v:=?_) rfl (Or.inl ⟨by rfl,?_⟩) ?_
    rotate_left
    ·intro w9 hSw
     go_simp
     first | done | with_reducible rfl
    simp only [pP,pN,pS,pZ,pC]
    refine tk 6 (v:=?_) rfl (Or.inl ⟨by rfl,?_⟩) ?_
    rotate_left
    ·intro w9 hSw
     go_simp
     first | done | with_reducible rfl
    simp only [pP,pN,pS,pZ,pC]
    refine wpAnyH_ready (rs:=[7]) (by kernel_rfl) (by simp) ?_
    refine cons' rfl (fun KK hKK=>?_)
    go_simp
    refine (G1.out _).mono ?_
    rintro e w5 ⟨rfl,b5⟩
    have bC:=b5
    replace hB:=hB.trans (bC.mono hB.size)
    replace hBw:=hBw.trans (bC.mono hBw.size)
    replace hHeld:=(⟨below_cell bC hHeld.1,below_cell bC hHeld.2.1,below_cell bC hHeld.2.2.1,below_cell bC hHeld.2.2.2⟩:_∧_∧_∧_)
    clear bC
    go_wp2_with fail
    clear b5 G1
    refine hKK.out _ _ hHeld ?_
    clear hHeld
    intro hHeld
    clear hKK KK
    try simp only [pP,pN,pS,pZ,pC]
    refine tk 8 (v:=?_) rfl (Or.inl ⟨by rfl,?_⟩) ?_
    rotate_left
    ·intro w9 hSw
     go_simp
     first | done | with_reducible rfl
    simp only [pP,pN,pS,pZ,pC]
    refine tk 9 (v:=?_) rfl (Or.inl ⟨by rfl,?_⟩) ?_
    rotate_left
    ·intro w9 hSw
     go_simp
     first | done | with_reducible rfl
    simp only [pP,pN,pS,pZ,pC]
    refine tk 10 (v:=undef) rfl (Or.inr ⟨by rfl,rfl⟩) ?_
    simp only [pP,pN,pS,pZ,pC]
    refine tk 11 (v:=undef) rfl (Or.inr ⟨by rfl,rfl⟩) ?_
    simp only [pP,pN,pS,pZ,pC]
    refine tk 12 (v:=undef) rfl (Or.inr ⟨by rfl,rfl⟩) ?_
    simp only [pP,pN,pS,pZ,pC]
    refine tk 13 (v:=undef) rfl (Or.inr ⟨by rfl,rfl⟩) ?_
    simp only [pP,pN,pS,pZ,pC]
    refine tk 14 (v:=undef) rfl (Or.inr ⟨by rfl,rfl⟩) ?_
    simp only [pP,pN,pS,pZ,pC]
    refine tk 15 (v:=undef) rfl (Or.inr ⟨by rfl,rfl⟩) ?_
    simp only [pP,pN,pS,pZ,pC]
    refine tk 16 (v:=undef) rfl (Or.inr ⟨by rfl,rfl⟩) ?_
    simp only [pP,pN,pS,pZ,pC]
    refine tk 17 (v:=undef) rfl (Or.inr ⟨by rfl,rfl⟩) ?_
    simp only [pP,pN,pS,pZ,pC]
    refine tk 18 (v:=undef) rfl (Or.inr ⟨by rfl,rfl⟩) ?_
    simp only [pP,pN,pS,pZ,pC]
    refine tk 19 (v:=undef) rfl (Or.inr ⟨by rfl,rfl⟩) ?_
    simp only [pP,pN,pS,pZ,pC]
    refine tk 20 (v:=?_) rfl (Or.inl ⟨by rfl,?_⟩) ?_
    rotate_left
    ·intro w9 hSw
     go_simp
     first | done | with_reducible rfl
    simp only [pP,pN,pS,pZ,pC]
    refine tk 21 (v:=?_) rfl (Or.inl ⟨by rfl,?_⟩) ?_
    rotate_left
    ·intro w9 hSw
     go_simp
     first | done | with_reducible rfl
    simp only [pP,pN,pS,pZ,pC]
    refine tk 22 (v:=undef) rfl (Or.inr ⟨by rfl,rfl⟩) ?_
    simp only [pP,pN,pS,pZ,pC]
    refine tk 23 (v:=undef) rfl (Or.inr ⟨by rfl,rfl⟩) ?_
    simp only [pP,pN,pS,pZ,pC]
    refine tk 24 (v:=undef) rfl (Or.inr ⟨by rfl,rfl⟩) ?_
    simp only [pP,pN,pS,pZ,pC]
    refine tk 25 (v:=undef) rfl (Or.inr ⟨by rfl,rfl⟩) ?_
    simp only [pP,pN,pS,pZ,pC]
    refine tk 26 (v:=undef) rfl (Or.inr ⟨by rfl,rfl⟩) ?_
    simp only [pP,pN,pS,pZ,pC]
    refine tk 27 (v:=undef) rfl (Or.inr ⟨by rfl,rfl⟩) ?_
    simp only [pP,pN,pS,pZ,pC]
    refine tk 28 (v:=undef) rfl (Or.inr ⟨by rfl,rfl⟩) ?_
    simp only [pP,pN,pS,pZ,pC]
    refine tk 29 (v:=undef) rfl (Or.inr ⟨by rfl,rfl⟩) ?_
    simp only [pP,pN,pS,pZ,pC]
    refine tk 30 (v:=undef) rfl (Or.inr ⟨by rfl,rfl⟩) ?_
    simp only [pP,pN,pS,pZ,pC]
    refine tk 31 (v:=?_) rfl (Or.inl ⟨by rfl,?_⟩) ?_
    rotate_left
    ·intro w9 hSw
     go_simp
     first | done | with_reducible rfl
    simp only [pP,pN,pS,pZ,pC]
    refine wpAnyH_done (by kernel_rfl) ?_ _
    go_wp2
    first | exact HZ.out _ hBw | (go_ret;exact HZ.out _ hBw)
   | true =>
    have H2:=G1.out
    rw [hd] at H2
    replace G1:=hide' H2
    clear H2
    have HD:=hide' hd
    clear hd
    by_cases hzk:z=(k:Int)
    ·subst hzk
     cases kn with
     | false =>
      have HZ:=hide' (fun w' (hb:Below w.heap.size w w')=>HNo.out w' hb (fun h=>by have:=inVs_iff.2 (HF.out h).2.2.1;rw [HKN.out] at this;cases this))
      clear HF HT HNo HYes
      go_wp2_with fail
      have bD:Below wr.heap.size wr wr.drew:=(Below.refl _ _).drew
      have kn0:=below_cell bD n0
      have kn1:=below_cell bD n1
      have kd0:=below_cell bD d0
      have kd1:=below_cell bD d1
      replace hB:=hB.trans (bD.mono hB.size)
      replace hBw:=hBw.trans (bD.mono hBw.size)
      refine wp_region_held_drew (S:=fun w'=>w'.cell? ⟨w.heap.size,0,none⟩=some (.int .i64 V)∧w'.cell? ⟨w.heap.size,1,none⟩=some (.slice (some ⟨bb,off,none⟩) R.length c)∧w'.cell? ⟨bb,off+k*2,none⟩=some (.int .i64 v)∧w'.cell? ⟨bb,off+k*2+1,none⟩=some (.slice Xa XL.length Xc)) (by kernel_rfl) ⟨kn0,kn1,kd0,kd1⟩ (fun hHeld=>?_)
      clear kn0 kn1 kd0 kd1
      generalize wr.drew=w4 at bD hB hBw hHeld ⊢
      clear bD n0 n1 d0 d1
      refine tk 0 (v:=?_) rfl (Or.inl ⟨by rfl,?_⟩) ?_
      rotate_left
      ·intro w9 hSw
       go_simp
       first | done | with_reducible rfl
      simp only [pP,pN,pS,pZ,pC]
      refine tk 1 (v:=?_) rfl (Or.inl ⟨by rfl,?_⟩) ?_
      rotate_left
      ·intro w9 hSw
       go_simp
       first | done | with_reducible rfl
      simp only [pP,pN,pS,pZ,pC]
      refine tk 2 (v:=?_) rfl (Or.inl ⟨by rfl,?_⟩) ?_
      rotate_left
      ·intro w9 hSw
       go_simp
       first | done | with_reducible rfl
      simp only [pP,pN,pS,pZ,pC]
      refine tk 3 (v:=?_) rfl (Or.inl ⟨by rfl,?_⟩) ?_
      rotate_left
      ·intro w9 hSw
       go_simp
       first | done | with_reducible rfl
      simp only [pP,pN,pS,pZ,pC]
      refine tk 4 (v:=?_) rfl (Or.inl ⟨by rfl,?_⟩) ?_
      rotate_left
      ·intro w9 hSw
       go_simp
       first | done | with_reducible rfl
      simp only [pP,pN,pS,pZ,pC]
      refine tk 5 (v:=?_) rfl (Or.inl ⟨by rfl,?_⟩) ?_
      rotate_left
      ·intro w9 hSw
       go_simp
       first | done | with_reducible rfl
      simp only [pP,pN,pS,pZ,pC]
      refine tk 6 (v:=?_) rfl (Or.inl ⟨by rfl,?_⟩) ?_
      rotate_left
      ·intro w9 hSw
       go_simp
       first | done | with_reducible rfl
      simp only [pP,pN,pS,pZ,pC]
      refine wpAnyH_ready (rs:=[7]) (by kernel_rfl) (by simp) ?_
      refine cons' rfl (fun KK hKK=>?_)
      go_simp
      refine (G1.out _).mono ?_
      rintro e w5 ⟨rfl,b5⟩
      have bC:=b5
      replace hB:=hB.trans (bC.mono hB.size)
      replace hBw:=hBw.trans (bC.mono hBw.size)
      replace hHeld:=(⟨below_cell bC hHeld.1,below_cell bC hHeld.2.1,below_cell bC hHeld.2.2.1,below_cell bC hHeld.2.2.2⟩:_∧_∧_∧_)
      clear bC
      go_wp2_with fail
      clear b5 G1
      refine hKK.out _ _ hHeld ?_
      clear hHeld
      intro hHeld
      clear hKK KK
      try simp only [pP,pN,pS,pZ,pC]
      refine tk 8 (v:=?_) rfl (Or.inl ⟨by rfl,?_⟩) ?_
      rotate_left
      ·intro w9 hSw
       go_simp
       first | done | with_reducible rfl
      simp only [pP,pN,pS,pZ,pC]
      refine tk 9 (v:=?_) rfl (Or.inl ⟨by rfl,?_⟩) ?_
      rotate_left
      ·intro w9 hSw
       go_simp
       first | done | with_reducible rfl
      simp only [pP,pN,pS,pZ,pC]
      refine tk 10 (v:=?_) rfl (Or.inl ⟨by rfl,?_⟩) ?_
      rotate_left
      ·intro w9 hSw
       go_simp
       first | done | with_reducible rfl
      simp only [pP,pN,pS,pZ,pC]
      refine tk 11 (v:=?_) rfl (Or.inl ⟨by rfl,?_⟩) ?_
      rotate_left
      ·intro w9 hSw
       go_simp
       first | done | with_reducible rfl
      simp only [pP,pN,pS,pZ,pC]
      refine tk 12 (v:=?_) rfl (Or.inl ⟨by rfl,?_⟩) ?_
      rotate_left
      ·intro w9 hSw
       go_simp
       first | done | with_reducible rfl
      simp only [pP,pN,pS,pZ,pC]
      refine tk 13 (v:=?_) rfl (Or.inl ⟨by rfl,?_⟩) ?_
      rotate_left
      ·intro w9 hSw
       go_simp
       first | done | with_reducible rfl
      simp only [pP,pN,pS,pZ,pC]
      refine tk 14 (v:=?_) rfl (Or.inl ⟨by rfl,?_⟩) ?_
      rotate_left
      ·intro w9 hSw
       go_simp
       first | done | with_reducible rfl
      simp only [pP,pN,pS,pZ,pC]
      refine tk 15 (v:=?_) rfl (Or.inl ⟨by rfl,?_⟩) ?_
      rotate_left
      ·intro w9 hSw
       go_simp
       first | done | with_reducible rfl
      simp only [pP,pN,pS,pZ,pC]
      refine tk 16 (v:=?_) rfl (Or.inl ⟨by rfl,?_⟩) ?_
      rotate_left
      ·intro w9 hSw
       go_simp
       first | done | with_reducible rfl
      simp only [pP,pN,pS,pZ,pC]
      refine tk 18 (v:=?_) rfl (Or.inl ⟨by rfl,?_⟩) ?_
      rotate_left
      ·intro w9 hSw
       go_simp
       first | done | with_reducible rfl
      simp only [pP,pN,pS,pZ,pC]
      refine wpAnyH_ready (rs:=[17]) (by kernel_rfl) (by simp) ?_
      refine cons' rfl (fun KK hKK=>?_)
      go_simp
      refine (G2.out _ hBw).mono ?_
      rintro e w6 ⟨rfl,b6⟩
      have bC:=b6
      replace hB:=hB.trans (bC.mono hB.size)
      replace hBw:=hBw.trans (bC.mono hBw.size)
      replace hHeld:=(⟨below_cell bC hHeld.1,below_cell bC hHeld.2.1,below_cell bC hHeld.2.2.1,below_cell bC hHeld.2.2.2⟩:_∧_∧_∧_)
      clear bC
      go_wp2_with fail
      clear b6 G2
      refine hKK.out _ _ hHeld ?_
      clear hHeld
      intro hHeld
      clear hKK KK
      try simp only [pP,pN,pS,pZ,pC]
      refine tk 19 (v:=?_) rfl (Or.inl ⟨by rfl,?_⟩) ?_
      rotate_left
      ·intro w9 hSw
       go_simp
       first | done | with_reducible rfl
      simp only [pP,pN,pS,pZ,pC]
      refine tk 20 (v:=?_) rfl (Or.inl ⟨by rfl,?_⟩) ?_
      rotate_left
      ·intro w9 hSw
       go_simp
       first | done | with_reducible rfl
      simp only [pP,pN,pS,pZ,pC]
      refine tk 21 (v:=?_) rfl (Or.inl ⟨by rfl,?_⟩) ?_
      rotate_left
      ·intro w9 hSw
       go_simp
       first | done | with_reducible rfl
      simp only [pP,pN,pS,pZ,pC]
      refine tk 22 (v:=?_) rfl (Or.inl ⟨by rfl,?_⟩) ?_
      rotate_left
      ·intro w9 hSw
       go_simp
       first | done | with_reducible rfl
      simp only [pP,pN,pS,pZ,pC]
      refine tk 23 (v:=?_) rfl (Or.inl ⟨by rfl,?_⟩) ?_
      rotate_left
      ·intro w9 hSw
       go_simp
       first | done | with_reducible rfl
      simp only [pP,pN,pS,pZ,pC]
      refine tk 24 (v:=?_) rfl (Or.inl ⟨by rfl,?_⟩) ?_
      rotate_left
      ·intro w9 hSw
       go_simp
       first | done | with_reducible rfl
      simp only [pP,pN,pS,pZ,pC]
      refine tk 25 (v:=?_) rfl (Or.inl ⟨by rfl,?_⟩) ?_
      rotate_left
      ·intro w9 hSw
       go_simp
       first | done | with_reducible rfl
      simp only [pP,pN,pS,pZ,pC]
      refine tk 26 (v:=?_) rfl (Or.inl ⟨by rfl,?_⟩) ?_
      rotate_left
      ·intro w9 hSw
       go_simp
       first | done | with_reducible rfl
      simp only [pP,pN,pS,pZ,pC]
      refine tk 27 (v:=?_) rfl (Or.inl ⟨by rfl,?_⟩) ?_
      rotate_left
      ·intro w9 hSw
       go_simp
       first | done | with_reducible rfl
      simp only [pP,pN,pS,pZ,pC]
      refine tk 28 (v:=?_) rfl (Or.inl ⟨by rfl,?_⟩) ?_
      rotate_left
      ·intro w9 hSw
       go_simp
       first | done | with_reducible rfl
      simp only [pP,pN,pS,pZ,pC]
      refine wpAnyH_ready (rs:=[29]) (by kernel_rfl) (by simp) ?_
      refine cons' rfl (fun KK hKK=>?_)
      go_simp
      refine (G3.out _ hBw).mono ?_
      rintro e w7 ⟨rfl,b7⟩
      have bC:=b7
      replace hB:=hB.trans (bC.mono hB.size)
      replace hBw:=hBw.trans (bC.mono hBw.size)
      replace hHeld:=(⟨below_cell bC hHeld.1,below_cell bC hHeld.2.1,below_cell bC hHeld.2.2.1,below_cell bC hHeld.2.2.2⟩:_∧_∧_∧_)
      clear bC
      go_wp2_with fail
      clear b7 G3
      refine hKK.out _ _ hHeld ?_
      clear hHeld
      intro hHeld
      clear hKK KK
      try simp only [pP,pN,pS,pZ,pC]
      refine tk 30 (v:=?_) rfl (Or.inl ⟨by rfl,?_⟩) ?_
      rotate_left
      ·intro w9 hSw
       go_simp
       first | done | with_reducible rfl
      simp only [pP,pN,pS,pZ,pC]
      refine tk 31 (v:=?_) rfl (Or.inl ⟨by rfl,?_⟩) ?_
      rotate_left
      ·intro w9 hSw
       go_simp
       first | done | with_reducible rfl
      simp only [pP,pN,pS,pZ,pC]
      refine wpAnyH_done (by kernel_rfl) ?_ _
      go_wp2
      first | exact HZ.out _ hBw | (go_ret;exact HZ.out _ hBw)
     | true =>
      have HZ:=hide' (HT.out ⟨by have:=HD.out;simpa using this,HZZ.out,inVs_iff.1 HKN.out⟩)
      clear HF HT HNo HYes
      go_wp2_with fail
      have bD:Below wr.heap.size wr wr.drew:=(Below.refl _ _).drew
      have kn0:=below_cell bD n0
      have kn1:=below_cell bD n1
      have kd0:=below_cell bD d0
      have kd1:=below_cell bD d1
      replace hB:=hB.trans (bD.mono hB.size)
      replace hBw:=hBw.trans (bD.mono hBw.size)
      refine wp_region_held_drew (S:=fun w'=>w'.cell? ⟨w.heap.size,0,none⟩=some (.int .i64 V)∧w'.cell? ⟨w.heap.size,1,none⟩=some (.slice (some ⟨bb,off,none⟩) R.length c)∧w'.cell? ⟨bb,off+k*2,none⟩=some (.int .i64 v)∧w'.cell? ⟨bb,off+k*2+1,none⟩=some (.slice Xa XL.length Xc)) (by kernel_rfl) ⟨kn0,kn1,kd0,kd1⟩ (fun hHeld=>?_)
      clear kn0 kn1 kd0 kd1
      generalize wr.drew=w4 at bD hB hBw hHeld ⊢
      clear bD n0 n1 d0 d1
      refine tk 0 (v:=?_) rfl (Or.inl ⟨by rfl,?_⟩) ?_
      rotate_left
      ·intro w9 hSw
       go_simp
       first | done | with_reducible rfl
      simp only [pP,pN,pS,pZ,pC]
      refine tk 1 (v:=?_) rfl (Or.inl ⟨by rfl,?_⟩) ?_
      rotate_left
      ·intro w9 hSw
       go_simp
       first | done | with_reducible rfl
      simp only [pP,pN,pS,pZ,pC]
      refine tk 2 (v:=?_) rfl (Or.inl ⟨by rfl,?_⟩) ?_
      rotate_left
      ·intro w9 hSw
       go_simp
       first | done | with_reducible rfl
      simp only [pP,pN,pS,pZ,pC]
      refine tk 3 (v:=?_) rfl (Or.inl ⟨by rfl,?_⟩) ?_
      rotate_left
      ·intro w9 hSw
       go_simp
       first | done | with_reducible rfl
      simp only [pP,pN,pS,pZ,pC]
      refine tk 4 (v:=?_) rfl (Or.inl ⟨by rfl,?_⟩) ?_
      rotate_left
      ·intro w9 hSw
       go_simp
       first | done | with_reducible rfl
      simp only [pP,pN,pS,pZ,pC]
      refine tk 5 (v:=?_) rfl (Or.inl ⟨by rfl,?_⟩) ?_
      rotate_left
      ·intro w9 hSw
       go_simp
       first | done | with_reducible rfl
      simp only [pP,pN,pS,pZ,pC]
      refine tk 6 (v:=?_) rfl (Or.inl ⟨by rfl,?_⟩) ?_
      rotate_left
      ·intro w9 hSw
       go_simp
       first | done | with_reducible rfl
      simp only [pP,pN,pS,pZ,pC]
      refine wpAnyH_ready (rs:=[7]) (by kernel_rfl) (by simp) ?_
      refine cons' rfl (fun KK hKK=>?_)
      go_simp
      refine (G1.out _).mono ?_
      rintro e w5 ⟨rfl,b5⟩
      have bC:=b5
      replace hB:=hB.trans (bC.mono hB.size)
      replace hBw:=hBw.trans (bC.mono hBw.size)
      replace hHeld:=(⟨below_cell bC hHeld.1,below_cell bC hHeld.2.1,below_cell bC hHeld.2.2.1,below_cell bC hHeld.2.2.2⟩:_∧_∧_∧_)
      clear bC
      go_wp2_with fail
      clear b5 G1
      refine hKK.out _ _ hHeld ?_
      clear hHeld
      intro hHeld
      clear hKK KK
      try simp only [pP,pN,pS,pZ,pC]
      refine tk 8 (v:=?_) rfl (Or.inl ⟨by rfl,?_⟩) ?_
      rotate_left
      ·intro w9 hSw
       go_simp
       first | done | with_reducible rfl
      simp only [pP,pN,pS,pZ,pC]
      refine tk 9 (v:=?_) rfl (Or.inl ⟨by rfl,?_⟩) ?_
      rotate_left
      ·intro w9 hSw
       go_simp
       first | done | with_reducible rfl
      simp only [pP,pN,pS,pZ,pC]
      refine tk 10 (v:=?_) rfl (Or.inl ⟨by rfl,?_⟩) ?_
      rotate_left
      ·intro w9 hSw
       go_simp
       first | done | with_reducible rfl
      simp only [pP,pN,pS,pZ,pC]
      refine tk 11 (v:=?_) rfl (Or.inl ⟨by rfl,?_⟩) ?_
      rotate_left
      ·intro w9 hSw
       go_simp
       first | done | with_reducible rfl
      simp only [pP,pN,pS,pZ,pC]
      refine tk 12 (v:=?_) rfl (Or.inl ⟨by rfl,?_⟩) ?_
      rotate_left
      ·intro w9 hSw
       go_simp
       first | done | with_reducible rfl
      simp only [pP,pN,pS,pZ,pC]
      refine tk 13 (v:=?_) rfl (Or.inl ⟨by rfl,?_⟩) ?_
      rotate_left
      ·intro w9 hSw
       go_simp
       first | done | with_reducible rfl
      simp only [pP,pN,pS,pZ,pC]
      refine tk 14 (v:=?_) rfl (Or.inl ⟨by rfl,?_⟩) ?_
      rotate_left
      ·intro w9 hSw
       go_simp
       first | done | with_reducible rfl
      simp only [pP,pN,pS,pZ,pC]
      refine tk 15 (v:=?_) rfl (Or.inl ⟨by rfl,?_⟩) ?_
      rotate_left
      ·intro w9 hSw
       go_simp
       first | done | with_reducible rfl
      simp only [pP,pN,pS,pZ,pC]
      refine tk 16 (v:=?_) rfl (Or.inl ⟨by rfl,?_⟩) ?_
      rotate_left
      ·intro w9 hSw
       go_simp
       first | done | with_reducible rfl
      simp only [pP,pN,pS,pZ,pC]
      refine tk 18 (v:=?_) rfl (Or.inl ⟨by rfl,?_⟩) ?_
      rotate_left
      ·intro w9 hSw
       go_simp
       first | done | with_reducible rfl
      simp only [pP,pN,pS,pZ,pC]
      refine wpAnyH_ready (rs:=[17]) (by kernel_rfl) (by simp) ?_
      refine cons' rfl (fun KK hKK=>?_)
      go_simp
      refine (G2.out _ hBw).mono ?_
      rintro e w6 ⟨rfl,b6⟩
      have bC:=b6
      replace hB:=hB.trans (bC.mono hB.size)
      replace hBw:=hBw.trans (bC.mono hBw.size)
      replace hHeld:=(⟨below_cell bC hHeld.1,below_cell bC hHeld.2.1,below_cell bC hHeld.2.2.1,below_cell bC hHeld.2.2.2⟩:_∧_∧_∧_)
      clear bC
      go_wp2_with fail
      clear b6 G2
      refine hKK.out _ _ hHeld ?_
      clear hHeld
      intro hHeld
      clear hKK KK
      try simp only [pP,pN,pS,pZ,pC]
      refine tk 19 (v:=?_) rfl (Or.inl ⟨by rfl,?_⟩) ?_
      rotate_left
      ·intro w9 hSw
       go_simp
       first | done | with_reducible rfl
      simp only [pP,pN,pS,pZ,pC]
      refine tk 20 (v:=?_) rfl (Or.inl ⟨by rfl,?_⟩) ?_
      rotate_left
      ·intro w9 hSw
       go_simp
       first | done | with_reducible rfl
      simp only [pP,pN,pS,pZ,pC]
      refine tk 21 (v:=?_) rfl (Or.inl ⟨by rfl,?_⟩) ?_
      rotate_left
      ·intro w9 hSw
       go_simp
       first | done | with_reducible rfl
      simp only [pP,pN,pS,pZ,pC]
      refine tk 22 (v:=?_) rfl (Or.inl ⟨by rfl,?_⟩) ?_
      rotate_left
      ·intro w9 hSw
       go_simp
       first | done | with_reducible rfl
      simp only [pP,pN,pS,pZ,pC]
      refine tk 23 (v:=?_) rfl (Or.inl ⟨by rfl,?_⟩) ?_
      rotate_left
      ·intro w9 hSw
       go_simp
       first | done | with_reducible rfl
      simp only [pP,pN,pS,pZ,pC]
      refine tk 24 (v:=?_) rfl (Or.inl ⟨by rfl,?_⟩) ?_
      rotate_left
      ·intro w9 hSw
       go_simp
       first | done | with_reducible rfl
      simp only [pP,pN,pS,pZ,pC]
      refine tk 25 (v:=?_) rfl (Or.inl ⟨by rfl,?_⟩) ?_
      rotate_left
      ·intro w9 hSw
       go_simp
       first | done | with_reducible rfl
      simp only [pP,pN,pS,pZ,pC]
      refine tk 26 (v:=?_) rfl (Or.inl ⟨by rfl,?_⟩) ?_
      rotate_left
      ·intro w9 hSw
       go_simp
       first | done | with_reducible rfl
      simp only [pP,pN,pS,pZ,pC]
      refine tk 27 (v:=?_) rfl (Or.inl ⟨by rfl,?_⟩) ?_
      rotate_left
      ·intro w9 hSw
       go_simp
       first | done | with_reducible rfl
      simp only [pP,pN,pS,pZ,pC]
      refine tk 28 (v:=?_) rfl (Or.inl ⟨by rfl,?_⟩) ?_
      rotate_left
      ·intro w9 hSw
       go_simp
       first | done | with_reducible rfl
      simp only [pP,pN,pS,pZ,pC]
      refine wpAnyH_ready (rs:=[29]) (by kernel_rfl) (by simp) ?_
      refine cons' rfl (fun KK hKK=>?_)
      go_simp
      refine (G3.out _ hBw).mono ?_
      rintro e w7 ⟨rfl,b7⟩
      have bC:=b7
      replace hB:=hB.trans (bC.mono hB.size)
      replace hBw:=hBw.trans (bC.mono hBw.size)
      replace hHeld:=(⟨below_cell bC hHeld.1,below_cell bC hHeld.2.1,below_cell bC hHeld.2.2.1,below_cell bC hHeld.2.2.2⟩:_∧_∧_∧_)
      clear bC
      go_wp2_with fail
      clear b7 G3
      refine hKK.out _ _ hHeld ?_
      clear hHeld
      intro hHeld
      clear hKK KK
      try simp only [pP,pN,pS,pZ,pC]
      refine tk 30 (v:=?_) rfl (Or.inl ⟨by rfl,?_⟩) ?_
      rotate_left
      ·intro w9 hSw
       go_simp
       first | done | with_reducible rfl
      simp only [pP,pN,pS,pZ,pC]
      refine tk 31 (v:=?_) rfl (Or.inl ⟨by rfl,?_⟩) ?_
      rotate_left
      ·intro w9 hSw
       go_simp
       first | done | with_reducible rfl
      simp only [pP,pN,pS,pZ,pC]
      refine wpAnyH_done (by kernel_rfl) ?_ _
      go_wp2
      go_roundw
      case rel=>exact ⟨k+1,by omega,by go_num,HZ.out,hB⟩
      case measure=>simp only [intOf];omega
    ·have hzb:(z != (k:Int))=true:=by simpa using hzk
     have HZ:=hide' (fun w' (hb:Below w.heap.size w w')=>HNo.out w' hb (fun h=>hzk (by rw [←HZZ.out];exact (HF.out h).2.1)))
     clear HF HT HNo HYes
     go_wp2_with fail
     have bD:Below wr.heap.size wr wr.drew:=(Below.refl _ _).drew
     have kn0:=below_cell bD n0
     have kn1:=below_cell bD n1
     have kd0:=below_cell bD d0
     have kd1:=below_cell bD d1
     replace hB:=hB.trans (bD.mono hB.size)
     replace hBw:=hBw.trans (bD.mono hBw.size)
     refine wp_region_held_drew (S:=fun w'=>w'.cell? ⟨w.heap.size,0,none⟩=some (.int .i64 V)∧w'.cell? ⟨w.heap.size,1,none⟩=some (.slice (some ⟨bb,off,none⟩) R.length c)∧w'.cell? ⟨bb,off+k*2,none⟩=some (.int .i64 v)∧w'.cell? ⟨bb,off+k*2+1,none⟩=some (.slice Xa XL.length Xc)) (by kernel_rfl) ⟨kn0,kn1,kd0,kd1⟩ (fun hHeld=>?_)
     clear kn0 kn1 kd0 kd1
     generalize wr.drew=w4 at bD hB hBw hHeld ⊢
     clear bD n0 n1 d0 d1
     refine tk 0 (v:=?_) rfl (Or.inl ⟨by rfl,?_⟩) ?_
     rotate_left
     ·intro w9 hSw
      go_simp
      first | done | with_reducible rfl
     simp only [pP,pN,pS,pZ,pC]
     refine tk 1 (v:=?_) rfl (Or.inl ⟨by rfl,?_⟩) ?_
     rotate_left
     ·intro w9 hSw
      go_simp
      first | done | with_reducible rfl
     simp only [pP,pN,pS,pZ,pC]
     refine tk 2 (v:=?_) rfl (Or.inl ⟨by rfl,?_⟩) ?_
     rotate_left
     ·intro w9 hSw
      go_simp
      first | done | with_reducible rfl
     simp only [pP,pN,pS,pZ,pC]
     refine tk 3 (v:=?_) rfl (Or.inl ⟨by rfl,?_⟩) ?_
     rotate_left
     ·intro w9 hSw
      go_simp
      first | done | with_reducible rfl
     simp only [pP,pN,pS,pZ,pC]
     refine tk 4 (v:=?_) rfl (Or.inl ⟨by rfl,?_⟩) ?_
     rotate_left
     ·intro w9 hSw
      go_simp
      first | done | with_reducible rfl
     simp only [pP,pN,pS,pZ,pC]
     refine tk 5 (v:=?_) rfl (Or.inl ⟨by rfl,?_⟩) ?_
     rotate_left
     ·intro w9 hSw
      go_simp
      first | done | with_reducible rfl
     simp only [pP,pN,pS,pZ,pC]
     refine tk 6 (v:=?_) rfl (Or.inl ⟨by rfl,?_⟩) ?_
     rotate_left
     ·intro w9 hSw
      go_simp
      first | done | with_reducible rfl
     simp only [pP,pN,pS,pZ,pC]
     refine wpAnyH_ready (rs:=[7]) (by kernel_rfl) (by simp) ?_
     refine cons' rfl (fun KK hKK=>?_)
     go_simp
     refine (G1.out _).mono ?_
     rintro e w5 ⟨rfl,b5⟩
     have bC:=b5
     replace hB:=hB.trans (bC.mono hB.size)
     replace hBw:=hBw.trans (bC.mono hBw.size)
     replace hHeld:=(⟨below_cell bC hHeld.1,below_cell bC hHeld.2.1,below_cell bC hHeld.2.2.1,below_cell bC hHeld.2.2.2⟩:_∧_∧_∧_)
     clear bC
     go_wp2_with fail
     clear b5 G1
     refine hKK.out _ _ hHeld ?_
     clear hHeld
     intro hHeld
     clear hKK KK
     try simp only [pP,pN,pS,pZ,pC]
     refine tk 8 (v:=?_) rfl (Or.inl ⟨by rfl,?_⟩) ?_
     rotate_left
     ·intro w9 hSw
      go_simp
      first | done | with_reducible rfl
     simp only [pP,pN,pS,pZ,pC]
     refine tk 9 (v:=?_) rfl (Or.inl ⟨by rfl,?_⟩) ?_
     rotate_left
     ·intro w9 hSw
      go_simp
      first | done | with_reducible rfl
     simp only [pP,pN,pS,pZ,pC]
     refine tk 10 (v:=?_) rfl (Or.inl ⟨by rfl,?_⟩) ?_
     rotate_left
     ·intro w9 hSw
      go_simp
      first | done | with_reducible rfl
     simp only [pP,pN,pS,pZ,pC]
     refine tk 11 (v:=?_) rfl (Or.inl ⟨by rfl,?_⟩) ?_
     rotate_left
     ·intro w9 hSw
      go_simp
      first | done | with_reducible rfl
     simp only [pP,pN,pS,pZ,pC]
     refine tk 12 (v:=?_) rfl (Or.inl ⟨by rfl,?_⟩) ?_
     rotate_left
     ·intro w9 hSw
      go_simp
      first | done | with_reducible rfl
     simp only [pP,pN,pS,pZ,pC]
     refine tk 13 (v:=?_) rfl (Or.inl ⟨by rfl,?_⟩) ?_
     rotate_left
     ·intro w9 hSw
      go_simp
      first | done | with_reducible rfl
     simp only [pP,pN,pS,pZ,pC]
     refine tk 14 (v:=?_) rfl (Or.inl ⟨by rfl,?_⟩) ?_
     rotate_left
     ·intro w9 hSw
      go_simp
      first | done | with_reducible rfl
     simp only [pP,pN,pS,pZ,pC]
     refine tk 15 (v:=?_) rfl (Or.inl ⟨by rfl,?_⟩) ?_
     rotate_left
     ·intro w9 hSw
      go_simp
      first | done | with_reducible rfl
     simp only [pP,pN,pS,pZ,pC]
     refine tk 16 (v:=?_) rfl (Or.inl ⟨by rfl,?_⟩) ?_
     rotate_left
     ·intro w9 hSw
      go_simp
      first | done | with_reducible rfl
     simp only [pP,pN,pS,pZ,pC]
     refine tk 18 (v:=?_) rfl (Or.inl ⟨by rfl,?_⟩) ?_
     rotate_left
     ·intro w9 hSw
      go_simp
      first | done | with_reducible rfl
     simp only [pP,pN,pS,pZ,pC]
     refine wpAnyH_ready (rs:=[17]) (by kernel_rfl) (by simp) ?_
     refine cons' rfl (fun KK hKK=>?_)
     go_simp
     refine (G2.out _ hBw).mono ?_
     rintro e w6 ⟨rfl,b6⟩
     have bC:=b6
     replace hB:=hB.trans (bC.mono hB.size)
     replace hBw:=hBw.trans (bC.mono hBw.size)
     replace hHeld:=(⟨below_cell bC hHeld.1,below_cell bC hHeld.2.1,below_cell bC hHeld.2.2.1,below_cell bC hHeld.2.2.2⟩:_∧_∧_∧_)
     clear bC
     go_wp2_with fail
     clear b6 G2
     refine hKK.out _ _ hHeld ?_
     clear hHeld
     intro hHeld
     clear hKK KK
     try simp only [pP,pN,pS,pZ,pC]
     refine tk 19 (v:=?_) rfl (Or.inl ⟨by rfl,?_⟩) ?_
     rotate_left
     ·intro w9 hSw
      go_simp
      first | done | with_reducible rfl
     simp only [pP,pN,pS,pZ,pC]
     refine tk 20 (v:=?_) rfl (Or.inl ⟨by rfl,?_⟩) ?_
     rotate_left
     ·intro w9 hSw
      go_simp
      first | done | with_reducible rfl
     simp only [pP,pN,pS,pZ,pC]
     refine tk 21 (v:=?_) rfl (Or.inl ⟨by rfl,?_⟩) ?_
     rotate_left
     ·intro w9 hSw
      go_simp
      first | done | with_reducible rfl
     simp only [pP,pN,pS,pZ,pC]
     refine tk 22 (v:=undef) rfl (Or.inr ⟨by rfl,rfl⟩) ?_
     simp only [pP,pN,pS,pZ,pC]
     refine tk 23 (v:=undef) rfl (Or.inr ⟨by rfl,rfl⟩) ?_
     simp only [pP,pN,pS,pZ,pC]
     refine tk 24 (v:=undef) rfl (Or.inr ⟨by rfl,rfl⟩) ?_
     simp only [pP,pN,pS,pZ,pC]
     refine tk 25 (v:=undef) rfl (Or.inr ⟨by rfl,rfl⟩) ?_
     simp only [pP,pN,pS,pZ,pC]
     refine tk 26 (v:=undef) rfl (Or.inr ⟨by rfl,rfl⟩) ?_
     simp only [pP,pN,pS,pZ,pC]
     refine tk 27 (v:=undef) rfl (Or.inr ⟨by rfl,rfl⟩) ?_
     simp only [pP,pN,pS,pZ,pC]
     refine tk 28 (v:=undef) rfl (Or.inr ⟨by rfl,rfl⟩) ?_
     simp only [pP,pN,pS,pZ,pC]
     refine tk 29 (v:=undef) rfl (Or.inr ⟨by rfl,rfl⟩) ?_
     simp only [pP,pN,pS,pZ,pC]
     refine tk 30 (v:=undef) rfl (Or.inr ⟨by rfl,rfl⟩) ?_
     simp only [pP,pN,pS,pZ,pC]
     refine tk 31 (v:=?_) rfl (Or.inl ⟨by rfl,?_⟩) ?_
     rotate_left
     ·intro w9 hSw
      go_simp
      first | done | with_reducible rfl
     simp only [pP,pN,pS,pZ,pC]
     refine wpAnyH_done (by kernel_rfl) ?_ _
     go_wp2
     first | exact HZ.out _ hBw | (go_ret;exact HZ.out _ hBw)
  ·obtain rfl:k=R.length:=by omega
   have i1:¬ (R.length:Int) < (R.length:Int):=by omega
   have HN1:=HN
   clear HN GI GK
   go_wp2_with fail
   go_loopw [4] (fun vi wq=>∃ k:Nat,k≤R.length∧vi=.int .i64 k∧chk2 R k∧Below wr.heap.size wr wq) (fun vi _=>R.length - (intOf vi).toNat)
   case atStart=>exact ⟨0,Nat.zero_le _,rfl,fun i r hi=>absurd hi (by omega),Below.refl _ _⟩
   case round =>
    obtain ⟨k,hk,rfl,hN,hB2⟩:=hrel
    have HN:=hide' hN
    clear hN
    have hBq:=hBw.trans (hB2.mono hBw.size)
    replace n0:=below_cell hB2 n0
    replace n1:=below_cell hB2 n1
    by_cases hlt:k < R.length
    ·obtain ⟨r,hr⟩:∃ r,R[k]?=some r:=⟨R[k],List.getElem?_eq_getElem hlt⟩
     have hrm:=List.mem_of_getElem? hr
     obtain ⟨bb,off,rfl,hbb,hcell⟩:=HAt.out (by intro e;rw [e] at hlt;simp at hlt)
     obtain ⟨d0,d1⟩:=hcell k r hr
     replace d0:=below_cell hBq d0
     replace d1:=below_cell hBq d1
     have G3:=hide' (GV.out r hrm)
     have HF:=hide' (fun (h:mayBe V (tb R))=>(mayBe_1 h hr).2.2.2)
     have HT:=hide' (fun (h:∀ z∈vsN r.2.fo,ix R z < 0)=>show chk2 R (k+1) from fun j q hj hq=>by
       by_cases e:j=k
       ·subst e;rw [hr] at hq;cases hq;exact h
       ·exact HN.out j q (by omega) hq)
     have hvl:=HVl.out r hrm
     obtain ⟨v,X⟩:=r
     obtain ⟨Xa,Xc,XL⟩:=X
     unfold FV.val at d1 G3
     simp only at d0 d1 G3 HF HT hvl
     obtain ⟨zs,hzs⟩:∃ zs,vsN (FV.fo ⟨Xa,Xc,XL⟩)=zs:=⟨_,rfl⟩
     rw [hzs] at G3 HF HT hvl
     clear hzs
     have j0:(0:Int)≤(k:Int):=by omega
     have j1:(k:Int) < (R.length:Int):=by omega
     clear hcell hr hrm GV HVl
     go_wp2_with fail
     refine (G3.out _ hBq).mono ?_
     rintro e wv ⟨av,cv,rfl,bv,hI,hcv⟩
     clear G3 d0 d1
     replace n0:=below_cell bv n0
     replace n1:=below_cell bv n1
     have hBv:=hB2.trans (bv.mono hB2.size)
     have hBx:=hBq.trans (bv.mono hBq.size)
     clear bv hB2 hBq
     go_wp2_with fail
     go_loopw [6] (fun vi wx=>∃ j:Nat,j≤zs.length∧vi=.int .i64 j∧(∀ i z,i < j→zs[i]?=some z→ix R z < 0)∧Below wv.heap.size wv wx) (fun vi _=>zs.length - (intOf vi).toNat)
     case atStart=>exact ⟨0,Nat.zero_le _,rfl,fun i z hi=>absurd hi (by omega),Below.refl _ _⟩
     case round =>
      obtain ⟨j,hj,rfl,hM,hB3⟩:=hrel
      have HM:=hide' hM
      clear hM
      have hBy:=hBx.trans (hB3.mono hBx.size)
      have hBz:=hBv.trans (hB3.mono hBv.size)
      replace n0:=below_cell hB3 n0
      replace n1:=below_cell hB3 n1
      by_cases hlt2:j < zs.length
      ·obtain ⟨z,hz⟩:∃ z,zs[j]?=some z:=⟨zs[j],List.getElem?_eq_getElem hlt2⟩
       obtain ⟨b2,off2,rfl,hb2,hcell⟩:=hI (by intro e;rw [e] at hlt2;simp at hlt2)
       have e0:=below_cell hB3 (hcell j z hz)
       have j2:(0:Int)≤(j:Int):=by omega
       have j3:(j:Int) < (zs.length:Int):=by omega
       have G2:=hide' (GR.out z)
       have HF2:=hide' (fun (h:mayBe V (tb (R)))=>HF.out h z (List.mem_of_getElem? hz))
       have HT2:=hide' (fun (h:ix R z < 0)=>show ∀ i y,i < j+1→zs[i]?=some y→ix R y < 0 from fun i y hi hy=>by
         by_cases e:i=j
         ·subst e;rw [hz] at hy;cases hy;exact h
         ·exact HM.out i y (by omega) hy)
       obtain ⟨u,hu⟩:∃ u,ix R z=u:=⟨_,rfl⟩
       rw [hu] at G2 HF2 HT2
       clear hu hcell hI hz GR HAt
       by_cases hneg:u < 0
       ·have hu1:¬ (0≤u):=by omega
        have HZ:=hide' (HT2.out hneg)
        clear HF2 HT2 HNo HYes
        have hu2:((0:Int)≤u)=False:=eq_false hu1
        go_wp2_with fail
        have bD:Below wr.heap.size wr wr.drew:=(Below.refl _ _).drew
        have kn0:=below_cell bD n0
        have kn1:=below_cell bD n1
        have ke0:=below_cell bD e0
        replace hBy:=hBy.trans (bD.mono hBy.size)
        replace hBz:=hBz.trans (bD.mono hBz.size)
        replace hB3:=hB3.trans (bD.mono hB3.size)
        refine wp_region_held_drew (S:=fun w'=>w'.cell? ⟨w.heap.size,0,none⟩=some (.int .i64 V)∧w'.cell? ⟨w.heap.size,1,none⟩=some (.slice (some ⟨bb,off,none⟩) R.length c)∧w'.cell? ⟨b2,off2+j,none⟩=some (.int .i64 z)) (by kernel_rfl) ⟨kn0,kn1,ke0⟩ (fun hHeld=>?_)
        clear kn0 kn1 ke0
        generalize wr.drew=w4 at bD hBy hBz hB3 hHeld ⊢
        clear bD n0 n1 e0
        refine tk 0 (v:=?_) rfl (Or.inl ⟨by rfl,?_⟩) ?_
        rotate_left
        ·intro w9 hSw
         go_simp
         first | done | with_reducible rfl
        simp only [pP,pN,pS,pZ,pC]
        refine tk 1 (v:=?_) rfl (Or.inl ⟨by rfl,?_⟩) ?_
        rotate_left
        ·intro w9 hSw
         go_simp
         first | done | with_reducible rfl
        simp only [pP,pN,pS,pZ,pC]
        refine tk 2 (v:=?_) rfl (Or.inl ⟨by rfl,?_⟩) ?_
        rotate_left
        ·intro w9 hSw
         go_simp
         first | done | with_reducible rfl
        simp only [pP,pN,pS,pZ,pC]
        refine tk 3 (v:=?_) rfl (Or.inl ⟨by rfl,?_⟩) ?_
        rotate_left
        ·intro w9 hSw
         go_simp
         first | done | with_reducible rfl
        simp only [pP,pN,pS,pZ,pC]
        refine tk 4 (v:=?_) rfl (Or.inl ⟨by rfl,?_⟩) ?_
        rotate_left
        ·intro w9 hSw
         go_simp
         first | done | with_reducible rfl
        simp only [pP,pN,pS,pZ,pC]
        refine wpAnyH_ready (rs:=[5]) (by kernel_rfl) (by simp) ?_
        refine cons' rfl (fun KK hKK=>?_)
        go_simp
        refine (G2.out _ hBy).mono ?_
        rintro e w5 ⟨rfl,b5⟩
        have bC:=b5
        replace hBy:=hBy.trans (bC.mono hBy.size)
        replace hBz:=hBz.trans (bC.mono hBz.size)
        replace hB3:=hB3.trans (bC.mono hB3.size)
        replace hHeld:=(⟨below_cell bC hHeld.1,below_cell bC hHeld.2.1,below_cell bC hHeld.2.2⟩:_∧_∧_)
        clear bC
        go_wp2_with fail
        clear b5 G2
        refine hKK.out _ _ hHeld ?_
        clear hHeld
        intro hHeld
        clear hKK KK
        try simp only [pP,pN,pS,pZ,pC]
        refine tk 6 (v:=?_) rfl (Or.inl ⟨by rfl,?_⟩) ?_
        rotate_left
        ·intro w9 hSw
         go_simp
         first | done | with_reducible rfl
        simp only [pP,pN,pS,pZ,pC]
        refine wpAnyH_done (by kernel_rfl) ?_ _
        go_wp2
        go_roundw
        case rel=>exact ⟨j+1,by omega,by go_num,HZ.out,hB3⟩
        case measure=>simp only [intOf];omega
       ·have hu1:0≤u:=by omega
        have HZ:=hide' (fun w' (hb:Below w.heap.size w w')=>HNo.out w' hb (fun h=>by have:=HF2.out h;omega))
        clear HF2 HT2 HNo HYes
        have hu2:((0:Int)≤u)=True:=eq_true hu1
        go_wp2_with fail
        have bD:Below wr.heap.size wr wr.drew:=(Below.refl _ _).drew
        have kn0:=below_cell bD n0
        have kn1:=below_cell bD n1
        have ke0:=below_cell bD e0
        replace hBy:=hBy.trans (bD.mono hBy.size)
        replace hBz:=hBz.trans (bD.mono hBz.size)
        replace hB3:=hB3.trans (bD.mono hB3.size)
        refine wp_region_held_drew (S:=fun w'=>w'.cell? ⟨w.heap.size,0,none⟩=some (.int .i64 V)∧w'.cell? ⟨w.heap.size,1,none⟩=some (.slice (some ⟨bb,off,none⟩) R.length c)∧w'.cell? ⟨b2,off2+j,none⟩=some (.int .i64 z)) (by kernel_rfl) ⟨kn0,kn1,ke0⟩ (fun hHeld=>?_)
        clear kn0 kn1 ke0
        generalize wr.drew=w4 at bD hBy hBz hB3 hHeld ⊢
        clear bD n0 n1 e0
        refine tk 0 (v:=?_) rfl (Or.inl ⟨by rfl,?_⟩) ?_
        rotate_left
        ·intro w9 hSw
         go_simp
         first | done | with_reducible rfl
        simp only [pP,pN,pS,pZ,pC]
        refine tk 1 (v:=?_) rfl (Or.inl ⟨by rfl,?_⟩) ?_
        rotate_left
        ·intro w9 hSw
         go_simp
         first | done | with_reducible rfl
        simp only [pP,pN,pS,pZ,pC]
        refine tk 2 (v:=?_) rfl (Or.inl ⟨by rfl,?_⟩) ?_
        rotate_left
        ·intro w9 hSw
         go_simp
         first | done | with_reducible rfl
        simp only [pP,pN,pS,pZ,pC]
        refine tk 3 (v:=?_) rfl (Or.inl ⟨by rfl,?_⟩) ?_
        rotate_left
        ·intro w9 hSw
         go_simp
         first | done | with_reducible rfl
        simp only [pP,pN,pS,pZ,pC]
        refine tk 4 (v:=?_) rfl (Or.inl ⟨by rfl,?_⟩) ?_
        rotate_left
        ·intro w9 hSw
         go_simp
         first | done | with_reducible rfl
        simp only [pP,pN,pS,pZ,pC]
        refine wpAnyH_ready (rs:=[5]) (by kernel_rfl) (by simp) ?_
        refine cons' rfl (fun KK hKK=>?_)
        go_simp
        refine (G2.out _ hBy).mono ?_
        rintro e w5 ⟨rfl,b5⟩
        have bC:=b5
        replace hBy:=hBy.trans (bC.mono hBy.size)
        replace hBz:=hBz.trans (bC.mono hBz.size)
        replace hB3:=hB3.trans (bC.mono hB3.size)
        replace hHeld:=(⟨below_cell bC hHeld.1,below_cell bC hHeld.2.1,below_cell bC hHeld.2.2⟩:_∧_∧_)
        clear bC
        go_wp2_with fail
        clear b5 G2
        refine hKK.out _ _ hHeld ?_
        clear hHeld
        intro hHeld
        clear hKK KK
        try simp only [pP,pN,pS,pZ,pC]
        refine tk 6 (v:=?_) rfl (Or.inl ⟨by rfl,?_⟩) ?_
        rotate_left
        ·intro w9 hSw
         go_simp
         first | done | with_reducible rfl
        simp only [pP,pN,pS,pZ,pC]
        refine wpAnyH_done (by kernel_rfl) ?_ _
        go_wp2
        first | exact HZ.out _ hBy | (go_ret;exact HZ.out _ hBy)
      ·obtain rfl:j=zs.length:=by omega
       have i2:¬ (zs.length:Int) < (zs.length:Int):=by omega
       have HZ:=hide' (HT.out (fun z hz=>by obtain ⟨i,hi,rfl⟩:=List.mem_iff_getElem.1 hz;exact HM.out i _ hi (List.getElem?_eq_getElem hi)))
       clear HF HT HNo HYes HM HN GR
       go_wp2
       go_roundw
       case rel=>exact ⟨k+1,by omega,by go_num,HZ.out,hBz⟩
       case measure=>simp only [intOf];omega
    ·obtain rfl:k=R.length:=by omega
     have i2:¬ (R.length:Int) < (R.length:Int):=by omega
     have HZ:=hide' (HYes.out _ hBq (chk_mayBe HV.out.1 HV.out.2 HN1.out HN.out))
     clear HNo HYes GR GV HN HN1
     go_wp2
     first | exact HZ.out | (go_ret;exact HZ.out)
open Go.RowKit Go.Shelf
structure Bk (D:Nat) (r:Loop) (W:World):Prop where
 dfr:W.heap[D]?=some (.deferred (some []))
 lp:W.heap[D+1]?=some (.loop r)
theorem Bk.lt {D:Nat} {r:Loop} {W:World} (h:Bk D r W):D+1 < W.heap.size:=(Array.getElem?_eq_some_iff.1 h.lp).1
theorem Bk.below {D:Nat} {r:Loop} {W W':World} (h:Bk D r W) (hb:Below W.heap.size W W'):Bk D r W':=by
 have:=h.lt
 exact ⟨(hb.block D (by omega)).trans h.dfr,(hb.block (D+1) (by omega)).trans h.lp⟩
theorem Bk.put {D:Nat} {r:Loop} {W:World} (h:Bk D r W) (r':Loop):Bk D r' (W.putObj (D+1) (.loop r')) :=
 ⟨(World.putObj_heap_other (by omega)).trans h.dfr,World.putObj_heap_same h.lt⟩
def Goes (D:Nat) (J:World→Prop) (Kp:World→World→Prop) (V:World):Exit→Act→World→Prop
 | .normal,_,W=>(∀ r,Bk D r V→Bk D r W)∧Kp V W∧J W
 | _,_,_=>False
variable {P:Program} {n:Nat}
theorem range_all {α:Type} {g:Operand} {ps:Array Tmp} {assign body:Code} {Q:Exit→Act→World→Prop} {a:Act} {w:World} {gf:Nat} {lb:Array Value}
  (hg:a.eval g=.func (.func gf) #[] lb) (eg:∀ args w,(callFunc gf args).run P w=.ok (.enter gf args) w)
  (encs:α→Array Value) (hps:∀ x,(encs x).size=ps.size)
  (J:List α→World→Prop) (Px:List α→α→World→Prop) (Kp:World→World→Prop) (Ax:List α→α→Act→World→Prop)
  (hJ:∀ s W r r',Bk w.heap.size r W→J s W→J s (W.putObj (w.heap.size+1) (.loop r')))
  (hA:∀ s x a' W r r',Bk w.heap.size r W→Ax s x a' W→Ax s x a' (W.putObj (w.heap.size+1) (.loop r')))
  (hKb:∀ W r r',Bk w.heap.size r W→Kp W (W.putObj (w.heap.size+1) (.loop r'))) (hKt:∀ A B C,Kp A B→Kp B C→Kp A C)
  (hassign:∀ s x W r (K:Act→World→Prop),Bk w.heap.size r W→J s W→Px s x W→(∀ a' W',Below W.heap.size W W'→Kp W W'→Ax s x a' W'→K a' W') →
   assign.wpIn (Fence.wide.inRound (w.heap.size+1)) (n - 1 - 1) P (Exit.then K (fun _ _ _=>False)) { tmps:=(ps.zip (encs x)).foldl (fun t (p,v)=>t.setIfInBounds p v) a.tmps,defers:=[] } W)
  (hbody:∀ s x a' V r,Bk w.heap.size r V→Ax s x a' V→body.wpIn (Fence.wide.inRound (w.heap.size+1)) (n - 1 - 1) P (Goes w.heap.size (J (s ++ [x])) Kp V) a' V)
  (hiter:∀ r W1,Bk w.heap.size r W1→W1=(w.alloc (.deferred (some []))).alloc (.loop r) →
   (∀ s x W,Bk w.heap.size r W→J s W→Px s x W→YieldAt Fence.wide (n - 1 - 1) P (w.heap.size+1) (encs x) W fun e W'=>e=.returned (.bool true)∧Bk w.heap.size r W'∧J (s ++ [x]) W'∧Kp W W') →
   CallsIn Fence.wide (n - 1) P gf (#[.func (.yield (w.heap.size+1)) #[] #[]] ++ lb) W1 fun e W'=>(∃ v,e=.returned v)∧Bk w.heap.size r W' ∧
    ∀ r',Q .normal { a with defers:={ target:=.collected w.heap.size,args:=#[] } :: a.defers } (W'.putObj (w.heap.size+1) (.loop r'))) :
  (Code.rangeFunc g ps assign body).wpIn Fence.wide n P Q a w:=by
 refine wpIn_rangeFunc ?_
 intro fn hfn
 have hl1:((w.alloc (.deferred (some []))).alloc (.loop { state:=.ready,pending:=none,fn,tmps:=a.tmps,params:=ps,assign,body,defers:=w.heap.size })).heap[w.heap.size+1]?=some (.loop { state:=.ready,pending:=none,fn,tmps:=a.tmps,params:=ps,assign,body,defers:=w.heap.size }):=by
  have:=World.alloc_heap_new (w.alloc (.deferred (some []))) (.loop { state:=.ready,pending:=none,fn,tmps:=a.tmps,params:=ps,assign,body,defers:=w.heap.size })
  rwa [World.size_alloc] at this
 have hd1:((w.alloc (.deferred (some []))).alloc (.loop { state:=.ready,pending:=none,fn,tmps:=a.tmps,params:=ps,assign,body,defers:=w.heap.size })).heap[w.heap.size]?=some (.deferred (some [])) :=
  (Below.heap_alloc _ _ _ (by simp)).trans (World.alloc_heap_new w _)
 obtain ⟨W1,hW1⟩:∃ W1,(w.alloc (.deferred (some []))).alloc (.loop { state:=.ready,pending:=none,fn,tmps:=a.tmps,params:=ps,assign,body,defers:=w.heap.size })=W1:=⟨_,rfl⟩
 have hen:=run_enterLoop_outer (P:=P) (w:=w) fn a.tmps ps assign body
 rw [hW1] at hen hl1 hd1
 refine ⟨w.heap.size+1,[{ target:=.collected w.heap.size,args:=#[] }],W1,{ target:=.fn (.func gf) lb,args:=#[.func (.yield (w.heap.size+1)) #[] #[]] },W1,gf,
  #[.func (.yield (w.heap.size + 1)) #[] #[]] ++ lb, W1, hen, ?_, fun _ _ => trivial, ?_, fun h => (by simp [Fence.wide] at h), ?_⟩
 ·simp only [resolve,hg]
  simp [go_sem]
 ·simp [invoke,go_sem,eg]
 ·refine (hiter _ _ ⟨hd1,hl1⟩ hW1.symm ?_).mono ?_
  ·intro s x W hk hj hp
   have hy:=run_yield (P:=P) (args:=encs x) hk.lp (hps x)
   refine ⟨fn,_,assign,body,hy,roundIn_of_wpIn trivial (hassign s x W _ _ hk hj hp ?_)⟩
   intro a' Wa hb hka hax
   have hk2:=hk.below hb
   refine ⟨_,run_beginRound hk2.lp rfl,?_⟩
   have hk3:=hk2.put { state:=.busy,pending:=none,fn,tmps:=a.tmps,params:=ps,assign,body,defers:=w.heap.size }
   refine wpIn_mono (hbody s x a' _ _ hk3 (hA s x a' _ _ _ hk2 hax)) ?_
   rintro e a3 W3 hp3
   cases e with
   | normal =>
    obtain ⟨hbk,hkp,hj3⟩:=hp3
    have hk4:=hbk _ hk3
    exact ⟨_,_,run_endRound none hk4.lp,rfl,hk4.put _,hJ _ _ _ _ hk4 hj3,hKt _ _ _ hka (hKt _ _ _ (hKb _ _ _ hk2) (hKt _ _ _ hkp (hKb _ _ _ hk4)))⟩
   | ret=>exact hp3.elim
   | exit id=>exact hp3.elim
   | goto t=>exact hp3.elim
   | panic ch=>exact hp3.elim
   | outgrown=>exact hp3.elim
  ·rintro e W2 ⟨⟨v,rfl⟩,hk,hq⟩
   exact ⟨none,_,run_endLoop hk.lp (by simp),hq _⟩
theorem Seg.putLoop {W:World} {D:Nat} {r:Loop} {ao:Option Addr} {X n:Nat} (h:Seg W ao X n) (hk:Bk D r W) (r':Loop):Seg (W.putObj (D+1) (.loop r')) ao X n:=by
 refine ⟨h.1,fun hn=>?_⟩
 obtain ⟨b,off,e,hl,hc⟩:=h.2 hn
 refine ⟨b,off,e,by simpa using hl,fun i hi=>?_⟩
 have hb:b≠D+1:=fun e=>by
  have:=hc i hi
  simp [World.cell?,e,hk.lp] at this
 rw [World.cell?_of_block (w:=W) (World.putObj_heap_other hb)]
 exact hc i hi
theorem below_putLoop {W w:World} {D B:Nat} {r:Loop} (h:Below B w W) (hk:Bk D r W) (hB:B≤D+1) (r':Obj):Below B w (W.putObj (D+1) r') :=
 h.trans ⟨rfl,rfl,rfl,by simp,fun k hk=>World.putObj_heap_other (by omega)⟩
theorem cells_putLoop {W:World} {D k:Nat} {r:Loop} {cur:Array Value} {t:TypeId} {fz:Nat × Nat} (h:W.heap[k]?=some (.cells cur t fz)) (hk:Bk D r W) (r':Loop):(W.putObj (D+1) (.loop r')).heap[k]?=some (.cells cur t fz):=by
 have hb:k≠D+1:=fun e=>by rw [e,hk.lp] at h;simp at h
 rw [World.putObj_heap_other hb]
 exact h
theorem below_putDfr {W w:World} {D B:Nat} (h:Below B w W) (hB:B≤D) (o:Obj):Below B w (W.putObj D o) :=
 h.trans ⟨rfl,rfl,rfl,by simp,fun k hk=>World.putObj_heap_other (by omega)⟩
theorem cells_putDfr {W:World} {D k:Nat} {r:Loop} {cur:Array Value} {t:TypeId} {fz:Nat × Nat} (h:W.heap[k]?=some (.cells cur t fz)) (hk:Bk D r W) (o:Obj):(W.putObj D o).heap[k]?=some (.cells cur t fz):=by
 have hb:k≠D:=fun e=>by rw [e,hk.dfr] at h;simp at h
 rw [World.putObj_heap_other hb]
 exact h
end Go.Proofs.YtlklfkkbdcglbaaGreat
namespace Go.Proofs
open Go.Shelf
def Tryz.laysSorts_ren:Go.Shelf.Ren:=⟨fun | 5=>124 | 8=>160 | 7=>159 | 19=>189 | 20=>190 | 10=>180 | 11=>181 | 12=>182 | 13=>183 | 14=>184 | 15=>185 | 16=>186 | 17=>187 | 18=>188 | 30=>200 | 31=>201 | 32=>202 | 33=>203 | 34=>204 | 35=>205 | 40=>216 | n=>n,fun | 23=>44 | 25=>3 | 3=>3 | 32=>160 | 22=>44 | 0=>0 | 44=>123 | 46=>148 | 4=>4 | 36=>181 | 35=>180 | 41=>185 | 5=>5 | 9=>9 | 53=>193 | 57=>197 | 63=>206 | 64=>207 | n=>n,fun | n=>n⟩
theorem Tryz.laysSorts:Go.Proofs.SlLaysM.n5 Tryz.prog Tryz.laysSorts_ren:={
 mixed:=by kernel_rfl
 f5:=⟨Tryz.f124.name,by decide,Tryz.func124.trans (congrArg some (by kernel_rfl))⟩
 f7:=⟨Tryz.f159.name,by decide,Tryz.func159.trans (congrArg some (by kernel_rfl))⟩
 f8:=Tryz.func160.trans (congrArg some (by kernel_rfl))
 f10:=⟨Tryz.f180.name,by decide,Tryz.func180.trans (congrArg some (by kernel_rfl))⟩
 f11:=⟨Tryz.f181.name,by decide,Tryz.func181.trans (congrArg some (by kernel_rfl))⟩
 f12:=⟨Tryz.f182.name,by decide,Tryz.func182.trans (congrArg some (by kernel_rfl))⟩
 f13:=⟨Tryz.f183.name,by decide,Tryz.func183.trans (congrArg some (by kernel_rfl))⟩
 f14:=⟨Tryz.f184.name,by decide,Tryz.func184.trans (congrArg some (by kernel_rfl))⟩
 f15:=⟨Tryz.f185.name,by decide,Tryz.func185.trans (congrArg some (by kernel_rfl))⟩
 f16:=⟨Tryz.f186.name,by decide,Tryz.func186.trans (congrArg some (by kernel_rfl))⟩
 f17:=⟨Tryz.f187.name,by decide,Tryz.func187.trans (congrArg some (by kernel_rfl))⟩
 f18:=⟨Tryz.f188.name,by decide,Tryz.func188.trans (congrArg some (by kernel_rfl))⟩
 f19:=Tryz.func189.trans (congrArg some (by kernel_rfl))
 f20:=Tryz.func190.trans (congrArg some (by kernel_rfl))
 f30:=⟨Tryz.f200.name,by decide,Tryz.func200.trans (congrArg some (by kernel_rfl))⟩
 f31:=Tryz.func201.trans (congrArg some (by kernel_rfl))
 f32:=Tryz.func202.trans (congrArg some (by kernel_rfl))
 f33:=⟨Tryz.f203.name,by decide,Tryz.func203.trans (congrArg some (by kernel_rfl))⟩
 f34:=⟨Tryz.f204.name,by decide,Tryz.func204.trans (congrArg some (by kernel_rfl))⟩
 f35:=⟨Tryz.f205.name,by decide,Tryz.func205.trans (congrArg some (by kernel_rfl))⟩
 f40:=⟨Tryz.f216.name,by decide,Tryz.func216.trans (congrArg some (by kernel_rfl))⟩
 t0:=Tryz.underlying0
 a0:=Tryz.isAgg0
 z0:=Tryz.sizeOf0
 v0:=Tryz.zeroValue0
 t3:=Tryz.underlying3
 a3:=Tryz.isAgg3
 z3:=Tryz.sizeOf3
 v3:=Tryz.zeroValue3
 t4:=Tryz.underlying4
 a4:=Tryz.isAgg4
 z4:=Tryz.sizeOf4
 v4:=Tryz.zeroValue4
 t5:=Tryz.underlying5
 a5:=Tryz.isAgg5
 z5:=Tryz.sizeOf5
 v5:=Tryz.zeroValue5
 t9:=Tryz.underlying9
 a9:=Tryz.isAgg9
 z9:=Tryz.sizeOf9
 v9:=Tryz.zeroValue9
 t22:=Tryz.underlying44
 a22:=Tryz.isAgg44
 z22:=Tryz.sizeOf44
 v22:=Tryz.zeroValue44
 t23:=Tryz.underlying44
 a23:=Tryz.isAgg44
 z23:=Tryz.sizeOf44
 v23:=Tryz.zeroValue44
 t25:=Tryz.underlying3
 a25:=Tryz.isAgg3
 z25:=Tryz.sizeOf3
 v25:=Tryz.zeroValue3
 t32:=Tryz.underlying160
 a32:=Tryz.isAgg160
 z32:=Tryz.sizeOf160
 v32:=Tryz.zeroValue160
 t35:=Tryz.underlying180
 a35:=Tryz.isAgg180
 z35:=Tryz.sizeOf180
 v35:=Tryz.zeroValue180
 t36:=Tryz.underlying181
 a36:=Tryz.isAgg181
 z36:=Tryz.sizeOf181
 v36:=Tryz.zeroValue181
 t41:=Tryz.underlying185
 a41:=Tryz.isAgg185
 z41:=Tryz.sizeOf185
 v41:=Tryz.zeroValue185
 t44:=Tryz.underlying123
 a44:=Tryz.isAgg123
 z44:=Tryz.sizeOf123
 v44:=Tryz.zeroValue123
 t46:=Tryz.underlying148
 a46:=Tryz.isAgg148
 z46:=Tryz.sizeOf148
 v46:=Tryz.zeroValue148
 t53:=Tryz.underlying193
 a53:=Tryz.isAgg193
 z53:=Tryz.sizeOf193
 v53:=Tryz.zeroValue193
 t57:=Tryz.underlying197
 a57:=Tryz.isAgg197
 z57:=Tryz.sizeOf197
 v57:=Tryz.zeroValue197
 t63:=Tryz.underlying206
 a63:=Tryz.isAgg206
 z63:=Tryz.sizeOf206
 v63:=Tryz.zeroValue206
 t64:=Tryz.underlying207
 a64:=Tryz.isAgg207
 z64:=Tryz.sizeOf207
 v64:=Tryz.zeroValue207 }
end Go.Proofs
namespace Go.Proofs.YtlklfkkbdcglbaaGreat
open Go.RowKit Go.Shelf
set_option linter.unusedVariables false
attribute [local go_sem] Oper.semAt_some
theorem info_i:(Tryz.prog.info? 3).map (fun i=>(i.zero,i.size,i.bytes))=some (some (.int .i64 0),1,8):=by kernel_rfl
theorem ownsRow_keep {w w':World} {base:Nat} {e:TypeId} {size:Nat} {v:Value} {n:Nat} {xs:List Value} (h:w.ownsRow base e size v n xs) (hb:∀ (k:Nat) cur t fz,w.heap[k]?=some (Obj.cells cur t fz)→w'.heap[k]?=some (Obj.cells cur t fz)):w'.ownsRow base e size v n xs:=by
 refine ⟨h.1,?_⟩
 rcases h.2 with h0 | ⟨g,cap,cur,hv,hg,hc,rest⟩
 ·exact Or.inl h0
 ·exact Or.inr ⟨g,cap,cur,hv,hg,hb g _ _ _ hc,rest⟩
theorem wpListIn_append_liesI {F:Fence} {n':Nat} {P:Program} (w:World) {ops:Array Oper} {rest:List Oper} {o:Oper} {a:Act} {Q:Exit→Act→World→Prop} (hgd:o.guard=none) (s x:Operand) (t:TypeId)
  (ho:o.op=.call { callee:=.builtin .append,args:=#[s,x],argTypes:=#[t,t] })
  (base:Nat) (e:TypeId) (i:TypeInfo) (z:Value) (size bytes:Nat) (ht:P.underlying t=some (.slice e)) (hi:P.info? e=some i) (hz:i.zero=some z)
  (hsize:i.size=size) (hby:i.bytes=bytes) (hzs:z.cells.size=size) (hsz:0 < size)
  (v:Value) (n:Nat) (xs:List Value) (hs:a.eval s=v) (hown:w.ownsRow base e size v n xs)
  (ad:Addr) (m c:Nat) (news:List Value) (hx:a.eval x=.slice (some ad) m c) (hl:news.length=m*size) (hnews:∀ j u,news[j]?=some u→w.cell? (ad.add j)=some u) (h1:∀ u∈news,u.oneCell'=true)
  (hm:0 < m) (h63:n+m≤maxLen) (hbytes:(n+m)*bytes≤140737488355328) (hbase:base≤w.heap.size) (H:Nat) (hH:w.heap.size=H)
  (h:∀ g cap w',w'.ownsRow base e size (.slice (some ⟨g,0,none⟩) (n+m) cap) (n+m) (xs ++ news)→w.grownBy w' v.ownBlock→(v.ownBlock=some g∨g=H)→g < w'.heap.size→wpListIn F n' P ops Q rest (a.put o.dst (.slice (some ⟨g,0,none⟩) (n+m) cap)) w'):wpListIn F n' P ops Q (o :: rest) a w:=by
 obtain ⟨g,cap,w',hr,h2,h3,h4,h5⟩:=run_append_lies (P:=P) w t o.type base e i z size bytes ht hi hz hsize hby hzs hsz v n xs hown ad m c news hl hnews h1 hm h63 hbytes hbase H hH
 refine wpListIn_plain hgd fun K hK=>?_
 unfold Oper.wpIn
 refine ⟨?_,?_⟩
 ·simp [Oper.about,ho,resolve,Target.leads,Sem.run_pure]
 ·rw [Oper.semAt_plain F _ _ (by rw [ho];intro c hc';cases hc')]
  simp [execOp,ho,resolve,invoke,builtin,hs,hx,hr,Result.andThen]
  exact hK _ _ (h g cap w' h2 h3 h4 h5)
theorem Bk.others {D:Nat} {r:Loop} {V W:World} (h:Bk D r V) (k:KeepsOthers V W):Bk D r W:=⟨k.same _ _ h.dfr rfl,k.same _ _ h.lp rfl⟩
def Own (w w':World) (v:Value) (s:List Int):Prop:=w'.ownsRow w.heap.size 3 1 v s.length (iv s)∧Below w.heap.size w w'
theorem Own.later {w w1 w2:World} {v:Value} {s:List Int} (h:Own w w1 v s) (hb:Below w1.heap.size w1 w2):Own w w2 v s:=⟨own_below h.1 hb,h.2.trans (hb.mono h.2.size)⟩
theorem own_base {w w1 w2:World} {v:Value} {s:List Int} (h:Own w1 w2 v s) (hb:Below w.heap.size w w1):Own w w2 v s:=by
 obtain ⟨h1,h2⟩:=h
 have hs:=hb.size
 refine ⟨⟨h1.1,?_⟩,hb.trans (h2.mono hs)⟩
 rcases h1.2 with h' | ⟨g,cap,cur,h',hg,rest⟩
 ·exact Or.inl h'
 ·exact Or.inr ⟨g,cap,cur,h',by omega,rest⟩
theorem holds_own {w w1:World} {g cap n:Nat} {s:List Int} (h:Own w w1 (.slice (some ⟨g,0,none⟩) n cap) s) (hn:s.length=n):Sort.Holds (Value.int .i64) w1 g 0 s.toArray:=by
 subst hn
 intro j hj
 have hj':j < s.length:=by simpa using hj
 refine ⟨?_,by rw [Nat.zero_add];exact h.1.frozenAt j⟩
 rw [Nat.zero_add,h.1.cellAt j (by omega),iv_at (z:=s[j]) (List.getElem?_eq_getElem hj')]
 simp [hj']
theorem own_sorted {w w1:World} {g cap n m:Nat} {os:Array Obj} {s ts:List Int} (h:Own w w1 (.slice (some ⟨g,0,none⟩) n cap) s) (hn:s.length=n) (hl:ts.length=s.length) :
  Own w (Sort.grow (Sort.putRow (Value.int .i64) (Sort.ahead w1 m) g 0 ts.toArray) os) (.slice (some ⟨g,0,none⟩) n cap) ts:=by
 subst hn
 obtain ⟨h1,h2⟩:=h
 rcases h1.2 with ⟨h',_⟩ | ⟨g',cap',cur,h',hb,hg,hnc,hcm,hcs,htake⟩
 ·simp at h'
 ·simp only [Value.slice.injEq,Option.some.injEq,Addr.mk.injEq,and_true,true_and] at h'
  obtain ⟨rfl,rfl⟩:=h'
  have h3:=ownsRow_sortedI (n:=m) (os:=os) hl hb hg hnc hcm hcs
  refine ⟨?_,h2.trans (below_grown h2.size (fun k hk=>by injection hk with hk;subst hk;exact hb) (grownBy_sortedI ts.toArray))⟩
  rw [hl]
  exact h3
structure JL (w0:World) (s:List Int) (W:World):Prop where
 ex:∃ v,Boxed W w0.heap.size 44 v∧W.ownsRow w0.heap.size 3 1 v s.length (iv s)
 bel:Below w0.heap.size w0 W
theorem JL.lt {w0 W:World} {s:List Int} (h:JL w0 s W):w0.heap.size < W.heap.size:=by
 obtain ⟨v,hv,hr⟩:=h.ex
 exact hv.lt
theorem JL.put {w0 W:World} {D:Nat} {s:List Int} {r:Loop} (h:JL w0 s W) (hk:Bk D r W) (hD:w0.heap.size≤D+1) (r':Loop):JL w0 s (W.putObj (D+1) (.loop r')):=by
 obtain ⟨v,hv,hr⟩:=h.ex
 exact ⟨⟨v,cells_putLoop hv hk r',ownsRow_keep hr fun k cur t fz hh=>cells_putLoop hh hk r'⟩,below_putLoop h.bel hk hD _⟩
theorem JL.below {w0 W W':World} {s:List Int} (h:JL w0 s W) (hb:Below W.heap.size W W'):JL w0 s W':=by
 obtain ⟨v,hv,hr⟩:=h.ex
 have hl:=h.lt
 exact ⟨⟨v,(hb.block _ hl).trans hv,ownsRow_keep hr fun k cur t fz hh=>(hb.block k (Array.getElem?_eq_some_iff.1 hh).1).trans hh⟩,h.bel.trans (hb.mono (by omega))⟩
theorem JL.appended {w0 V w1:World} {s:List Int} {x:Int} {v:Value} {tmp:Obj} {g cap:Nat}
  (h:JL w0 s V) (hv:Boxed V w0.heap.size 44 v) (hrow:V.ownsRow w0.heap.size 3 1 v s.length (iv s))
  (hown:w1.ownsRow w0.heap.size 3 1 (.slice (some ⟨g,0,none⟩) (s.length+1) cap) (s.length+1) (iv s ++ [.int .i64 x])) (hgrow:(V.alloc tmp).grownBy w1 v.ownBlock) :
  Boxed w1 w0.heap.size 44 v∧JL w0 (s ++ [x]) (w1.setCell ⟨w0.heap.size,0,none⟩ (.slice (some ⟨g,0,none⟩) (s.length+1) cap))∧KeepsOthers V (w1.setCell ⟨w0.heap.size,0,none⟩ (.slice (some ⟨g,0,none⟩) (s.length+1) cap)):=by
 have hsz:=hgrow.size
 simp only [World.size_alloc] at hsz
 obtain ⟨hv1,hv2,hr2,hk2,hb2⟩:=hv.appended (by decide) hrow (by have:=h.lt;omega) (Nat.le_refl _) hown hgrow
 refine ⟨hv1,⟨⟨_,hv2,?_⟩,h.bel.trans hb2⟩,hk2⟩
 rw [iv_append,List.length_append]
 exact hr2
def KSrt (l s:List Int):Prop:=s.Pairwise (·≤·)∧∀ x,x∈s↔x∈l
theorem ksrt_merge (l:List Int):KSrt l (l.mergeSort fun x y=>decide (x≤y)):=by
 refine ⟨?_,fun x=>(List.mergeSort_perm l _).mem_iff⟩
 have h:=List.pairwise_mergeSort (le:=fun x y:Int=>decide (x≤y)) (fun a b c h1 h2=>by simp at *;omega) (fun a b=>by simp;omega) l
 exact h.imp fun {a b} hab=>by simpa using hab
structure KM (W W':World):Prop where
 size:W.heap.size≤W'.heap.size
 map:∀ (k:Nat) es cl,W.heap[k]?=some (Obj.map es cl)→W'.heap[k]?=some (Obj.map es cl)
 iter:∀ (k:Nat) m s x c,W.heap[k]?=some (Obj.mapIter m s x c)→W'.heap[k]?=some (Obj.mapIter m s x c)
theorem KM.trans {A B C:World} (h:KM A B) (k:KM B C):KM A C:=⟨Nat.le_trans h.size k.size,fun i es cl hi=>k.map i es cl (h.map i es cl hi),fun i m s x c hi=>k.iter i m s x c (h.iter i m s x c hi)⟩
theorem KM.refl (A:World):KM A A:=⟨Nat.le_refl _,fun _ _ _ h=>h,fun _ _ _ _ _ h=>h⟩
theorem KM.of {V W:World} (h:KeepsOthers V W):KM V W:=⟨h.size,fun k es cl hk=>h.same k _ hk rfl,fun k m s x c hk=>h.same k _ hk rfl⟩
theorem KM.putLoop {D:Nat} {r:Loop} {W:World} (h:Bk D r W) (r':Loop):KM W (W.putObj (D+1) (.loop r')):=⟨by simp,fun k es cl hk=>by
 rw [World.putObj_heap_other (fun e=>by rw [e,h.lp] at hk;cases hk)];exact hk,fun k m s x c hk=>by
 rw [World.putObj_heap_other (fun e=>by rw [e,h.lp] at hk;cases hk)];exact hk⟩
theorem RngI.km {P:Program} {kt:TypeId} {w w':World} {b r n:Nat} {f:Int→Option Value} {left:Int→Bool} {cnt:Nat} (h:RngI P kt w b r n f left cnt) (hk:KM w w'):RngI P kt w' b r n f left cnt:=by
 obtain ⟨D,lf,⟨es,clock,since,seen,c0,h1,h2,h3,h4,h5,h6⟩,h7⟩:=h
 exact ⟨D,lf,⟨es,clock,since,seen,c0,hk.map _ _ _ h1,h2,h3,h4,hk.iter _ _ _ _ _ h5,h6⟩,h7⟩
theorem RngI.iterAt {P:Program} {kt:TypeId} {w:World} {b r n:Nat} {f:Int→Option Value} {left:Int→Bool} {cnt:Nat} (h:RngI P kt w b r n f left cnt):∃ m s x c,w.heap[r]?=some (Obj.mapIter m s x c):=by
 obtain ⟨D,lf,⟨es,clock,since,seen,c0,h1,h2,h3,h4,h5,h6⟩,h7⟩:=h
 exact ⟨_,_,_,_,h5⟩
theorem JL.next {w0 W W':World} {s:List Int} {P:Program} {kt:TypeId} {b it n:Nat} {f:Int→Option Value} {left:Int→Bool} {cnt:Nat} (h:JL w0 s W) (hR:RngI P kt W b it n f left cnt) (hg:W.grownBy W' (some it)) (hi:w0.heap.size≤it):JL w0 s W':=by
 obtain ⟨m,s',x,c,hm⟩:=hR.iterAt
 have key:∀ (k:Nat) cur t fz,W.heap[k]?=some (Obj.cells cur t fz)→W'.heap[k]?=some (Obj.cells cur t fz):=fun k cur t fz hk=>(hg.block k (Array.getElem?_eq_some_iff.1 hk).1 (fun e=>by injection e with e;rw [e,hm] at hk;cases hk)).trans hk
 obtain ⟨v,hv,hr⟩:=h.ex
 have hb:=h.bel
 exact ⟨⟨v,key _ _ _ _ hv,ownsRow_keep hr key⟩,hb.trans (below_grown hb.size (fun k e=>by injection e with e;omega) hg)⟩
theorem Bk.next {D:Nat} {r:Loop} {W W':World} {P:Program} {kt:TypeId} {b it n:Nat} {f:Int→Option Value} {left:Int→Bool} {cnt:Nat} (h:Bk D r W) (hR:RngI P kt W b it n f left cnt) (hg:W.grownBy W' (some it)):Bk D r W':=by
 obtain ⟨m,s',x,c,hm⟩:=hR.iterAt
 exact ⟨(hg.block D (by have:=h.lt;omega) (fun e=>by injection e with e;have:=h.dfr;rw [e,hm] at this;cases this)).trans h.dfr,(hg.block (D+1) h.lt (fun e=>by injection e with e;have:=h.lp;rw [e,hm] at this;cases this)).trans h.lp⟩
structure Met (f:Int→Option Value) (left:Int→Bool) (s:List Int) (n cnt:Nat):Prop where
 nodup:s.Nodup
 mem:∀ v,v∈s↔f v≠none∧left v=false
 cnt:s.length+cnt≤n
theorem Met.start {f:Int→Option Value} {n cnt:Nat} (h:cnt≤n):Met f (fun v=>(f v).isSome) [] n cnt:=⟨List.nodup_nil,fun v=>by cases hf:f v <;> simp [hf],by simpa using h⟩
theorem Met.step {f:Int→Option Value} {left:Int→Bool} {s:List Int} {n c c':Nat} (h:Met f left s n c) {v:Int} {x:Value} (hf:f v=some x) (hl:left v=true) (hc:c' < c):Met f (fun z=>left z && !decide (z=v)) (s ++ [v]) n c':=by
 have hn:v ∉ s:=fun hm=>by have:=((h.mem v).1 hm).2;rw [hl] at this;cases this
 refine ⟨List.nodup_append.2 ⟨h.nodup,by simp,fun a ha b hb e=>by rw [List.mem_singleton.1 hb] at e;rw [e] at ha;exact hn ha⟩,fun u=>?_,by have:=h.cnt;rw [List.length_append];simp;omega⟩
 rw [List.mem_append,List.mem_singleton,h.mem u]
 by_cases e:u=v
 ·subst e
  simp [hf]
 ·simp [e]
theorem Met.done {f:Int→Option Value} {left:Int→Bool} {s:List Int} {n c:Nat} (h:Met f left s n c) (hd:∀ v x,f v=some x→left v=false):∀ v,v∈s↔f v≠none:=fun v=>by
 rw [h.mem v]
 constructor
 ·exact fun h=>h.1
 ·intro hv
  refine ⟨hv,?_⟩
  cases hf:f v with
  | none=>exact absurd hf hv
  | some x=>exact hd v x hf
set_option maxRecDepth 100000 in
set_option maxHeartbeats 4000000 in
theorem keys1_is (D:Nat) (r:Loop) (w0 W1:World) (Bs b n:Nat) (f:Int→Option Value) (hBs:W1.cell? ⟨Bs,0,none⟩=some (.map (some b))) (hM:MapI Tryz.prog 3 W1 b n f) (hJ0:JL w0 [] W1) (hk:Bk D r W1)
  (hY:∀ s x W,Bk D r W→JL w0 s W→s.length < n→YieldAt Fence.wide 1 Tryz.prog (D+1) #[.int .i64 x] W fun e W'=>e=.returned (.bool true)∧Bk D r W'∧JL w0 (s ++ [x]) W'∧KM W W') :
  CallsIn Fence.wide 2 Tryz.prog 125 #[.func (.yield (D+1)) #[] #[],.pointer (some ⟨Bs,0,none⟩)] W1 fun e W'=>(∃ v,e=.returned v)∧Bk D r W'∧∃ s,JL w0 s W'∧s.Nodup∧s.length≤n∧∀ v,v∈s↔f v≠none:=by
 have HY:=hide' hY
 clear hY
 refine callsIn_wide.2 ?_
 have hsz:=hJ0.bel.size
 have HJ:=hide' hJ0
 have HK:=hide' hk
 clear hJ0 hk
 go_enter Tryz.func125,Tryz.ntmps125
 go_wp2_with (at_range;refine wpList_rng _ rfl _ 61 rfl und_int und_rows b n f rfl hM ?_;intro w1 cnt0 hR0 hcn hb1 hs1)
 try go_frame
 have hJ1:=HJ.out.below hb1
 have hk1:=HK.out.below hb1
 have HM0:=hide' (Met.start (f:=f) hcn)
 clear hM hBs hb1 hs1 hcn HJ HK
 obtain ⟨it,hit⟩:∃ it,W1.heap.size=it:=⟨_,rfl⟩
 rw [hit] at hR0 hsz ⊢
 clear hit
 go_loopg [3] cnt0 (fun cnt v3 wr=>∃ s left,JL w0 s wr∧Bk D r wr∧RngI Tryz.prog 3 wr b it n f left cnt∧Met f left s n cnt)
 case atStart=>exact ⟨[],_,hJ1,hk1,hR0,HM0.out⟩
 case round =>
  clear hJ1 hk1 hR0 HM0
  obtain ⟨s,left,hJ,hk,hR,hMt⟩:=hrel
  have HJ:=hide' hJ
  have HK:=hide' hk
  have HMt:=hide' hMt
  clear hJ hk hMt
  go_wp2_with (at_next;refine wpList_nxt _ rfl _ rfl und_int b it n f left gk rfl hR ?_ ?_)
  ·intro hdone
   have HZ:=hide' (HMt.out.done hdone)
   clear hdone hR HY
   go_wp2
   have HF:Bk D r wr∧∃ s,JL w0 s wr∧s.Nodup∧s.length≤n∧∀ v,v∈s↔f v≠none:=⟨HK.out,s,HJ.out,HMt.out.nodup,Nat.le_trans (Nat.le_add_right _ _) HMt.out.cnt,HZ.out⟩
   first | exact ⟨⟨_,rfl⟩,HF⟩ | (refine bodyPost_ret (results_none rfl _ _ _) rfl ?_;exact ⟨⟨_,rfl⟩,HF⟩) | (refine bodyPost_end0 rfl rfl ?_;exact ⟨⟨_,rfl⟩,HF⟩) | (go_end0;exact ⟨⟨_,rfl⟩,HF⟩)
  ·intro v x w2 cnt2 hfx hlx hR2 hlt2 hg2 hs2 hen
   have hJ2:=HJ.out.next hR hg2 hsz
   have hk2:=HK.out.next hR hg2
   have HM2:=hide' (HMt.out.step hfx hlx hlt2)
   obtain ⟨fn,tmps,assign,body,hy,hRR⟩:=HY.out s v _ hk2 hJ2 (by have:=HMt.out.cnt;omega)
   have HR2:=hide' hR2
   clear hs2 hg2 hfx hlx hR hR2 hJ2 hk2 HJ HK HMt
   go_upto_region 3 with fail
   refine (wpIn_wide (n:=2)).1 ?_
   gi_wp2
   refine hRR.mono ?_
   clear hRR hy
   rintro e W5 ⟨rfl,hk5,hJ5,hK5⟩
   have HX:=hide' (show ∃ s left,JL w0 s W5∧Bk D r W5∧RngI Tryz.prog 3 W5 b it n f left cnt2∧Met f left s n cnt2 from ⟨_,_,hJ5,hk5,HR2.out.km hK5,HM2.out⟩)
   clear hk5 hJ5 hK5 HR2 HM2
   gi_wp2
   go_wp2
   go_roundg cnt2
   case measure=>exact hlt2
   case rel=>exact HX.out
set_option maxRecDepth 100000 in
set_option maxHeartbeats 4000000 in
theorem appendKeys_is (w:World) (Bs b n:Nat) (f:Int→Option Value) (hBs:w.cell? ⟨Bs,0,none⟩=some (.map (some b))) (hM:MapI Tryz.prog 3 w b n f) (hn:n≤4194304) :
  Calls Tryz.prog 158 #[.slice none 0 0,.func (.func 125) #[] #[.pointer (some ⟨Bs,0,none⟩)]] w fun e w'=>∃ v s,e=.returned v∧Own w w' v s∧s.Nodup∧s.length≤n∧(∀ x,x∈s↔f x≠none):=by
 refine (callsIn_wide (n:=3)).1 ?_
 refine callsIn_of_wp_marks Tryz.func158 rfl trivial ?_ rfl
 simp only [Tryz.ntmps158,List.size_toArray,List.length_cons,List.length_nil,Nat.reduceAdd,Nat.reduceSub,Array.replicate_succ,Array.replicate_zero,List.push_toArray,List.append_toArray,List.nil_append,List.cons_append]
 obtain ⟨i0,hi,hz0,hz1,hz2⟩:=info_parts info_i
 have bO:=Boxed.new w 44 (.slice none 0 0)
 have b0:=(Below.refl w.heap.size w).alloc (Nat.le_refl _) (.cells #[.slice none 0 0] 44)
 have hJ0:JL w [] (w.alloc (.cells #[.slice none 0 0] 44)):=⟨⟨_,bO,World.ownsRow_nil _ _ _ _⟩,b0⟩
 gi_wp2
 obtain ⟨W0,hW0⟩:∃ W0,w.alloc (.cells #[.slice none 0 0] 44)=W0:=⟨_,rfl⟩
 have hsz:W0.heap.size=w.heap.size+1:=by rw [←hW0];simp
 rw [hW0] at bO b0 hJ0 ⊢
 have bw:Below w.heap.size w W0:=b0
 refine range_all (gf:=125) (lb:=#[.pointer (some ⟨Bs,0,none⟩)]) rfl (enters_of Tryz.func125 (by kernel_rfl) rfl) (fun x=>#[.int .i64 x]) (fun _=>rfl)
  (JL w) (fun s x W=>s.length < n) KM
  (fun s x a' V=>JL w s V∧s.length < n∧a' = { tmps:=#[.slice none 0 0,.func (.func 125) #[] #[.pointer (some ⟨Bs,0,none⟩)],.pointer (some ⟨w.heap.size,0,none⟩),undef,.slice none 0 0,.int .i64 x,.func (.func 125) #[] #[.pointer (some ⟨Bs,0,none⟩)],.int .i64 x,undef,undef,undef,undef,undef],defers:=[] })
  (fun s W r r' hk h=>h.put hk (by omega) r') ?hA (fun W r r' hk=>KM.putLoop hk r') (fun A B C h k=>h.trans k) ?assign ?body ?iter
 case hA =>
  rintro s x a' W r r' hk ⟨hj,hl,rfl⟩
  exact ⟨hj.put hk (by omega) r',hl,rfl⟩
 case assign =>
  rintro s x W r K hk hj hl hK
  have hK':=hK _ _ (Below.refl W.heap.size W) (KM.refl W) ⟨hj,hl,rfl⟩
  clear hK
  gi_wp2
  exact hK'
 case body =>
  rintro s x a' V r hk ⟨hj,hl,rfl⟩
  obtain ⟨v,hv,hrow⟩:=hj.ex
  have hcv:=hv.cell
  have hlt:=hj.lt
  gi_wp2_with (gi_at_builtin;refine wpListIn_append_liesI _ rfl _ _ 44 rfl w.heap.size 3 i0 _ 1 8 Tryz.underlying44 hi hz0 hz1 hz2 rfl (by decide) _ _ _ rfl (ownsRow_keep hrow fun k cur t fz hh=>(Below.heap_alloc _ _ _ (Array.getElem?_eq_some_iff.1 hh).1).trans hh) ⟨V.heap.size,0,none⟩ 1 1 [.int .i64 x] rfl rfl (World.news_of_block (World.alloc_heap_new V _)) (by simp [Value.oneCell']) (by decide) (by simp [maxLen];omega) (by omega) (by simp;omega) (V.heap.size+1) (by simp) ?_;intro g cap w1 hown' hgrow hg hglt;obtain ⟨hv1,hJ9,hO9⟩:=hj.appended hv hrow hown' hgrow;have hc1:=hv1.cell;have hf1:=hv1.frozen)
  exact ⟨fun r h=>h.others hO9,KM.of hO9,hJ9⟩
 case iter =>
  intro r W1 hk hW1 hY
  have b1:Below W0.heap.size W0 W1:=by
   rw [hW1]
   exact ((Below.refl W0.heap.size W0).alloc (Nat.le_refl _) _).alloc (by simp) _
  refine (keys1_is W0.heap.size r w W1 Bs b n f (below_cell b1 (below_cell bw hBs)) ((hM.later bw).later b1) (hJ0.below b1) hk hY).mono ?_
  rintro e W2 ⟨he,hk2,s,hj,hnd,hsl,hmem⟩
  refine ⟨he,hk2,fun r'=>?_⟩
  have hj2:=hj.put hk2 (by omega) r'
  have hk3:=hk2.put r'
  generalize W2.putObj (W0.heap.size+1) (.loop r')=W3 at hj2 hk3
  obtain ⟨v,hv,hrow⟩:=hj2.ex
  have hcv:=hv.cell
  gi_wp2
  refine ⟨by simp,.inl ⟨_,_,rfl,run_takeDeferred hk3.dfr,?_⟩⟩
  exact ⟨_,results_tmp rfl _ _ _,v,s,rfl,⟨ownsRow_keep hrow fun k cur t fz hh=>cells_putDfr hh hk3 _,below_putDfr hj2.bel (by omega) _⟩,hnd,hsl,hmem⟩
set_option maxHeartbeats 4000000 in
set_option maxRecDepth 100000 in
theorem collectK_is (w:World) (Bs b n:Nat) (f:Int→Option Value) (hBs:w.cell? ⟨Bs,0,none⟩=some (.map (some b))) (hM:MapI Tryz.prog 3 w b n f) (hn:n≤4194304) :
  Calls Tryz.prog 123 #[.func (.func 125) #[] #[.pointer (some ⟨Bs,0,none⟩)]] w fun e w'=>∃ v s,e=.returned v∧Own w w' v s∧s.Nodup∧s.length≤n∧(∀ x,x∈s↔f x≠none):=by
 have H:=hide' (appendKeys_is w Bs b n f hBs hM hn)
 clear hBs hM
 go_enter Tryz.func123,Tryz.ntmps123
 go_wp2_with fail
 refine H.out.mono ?_
 rintro e w1 ⟨v,s,rfl,hO,hnd,hsl,hmem⟩
 have HO:=hide' (And.intro hO (And.intro hnd (And.intro hsl hmem)))
 clear hO hnd hsl hmem
 go_wp2
 go_ret
 exact ⟨v,s,rfl,HO.out⟩
set_option maxHeartbeats 4000000 in
set_option maxRecDepth 100000 in
theorem sortL_is (w0:World) (v:Value) (s:List Int) (w:World) (hO:Own w0 w v s) (hn:s.length≤9223372036854) :
  Calls Tryz.prog 124 #[v] w fun e w'=>e=.returned (.tuple #[])∧∃ t,t.Pairwise (·≤·)∧t.Perm s∧Own w0 w' v t:=by
 have hcases:=hO.1.2
 rcases hcases with ⟨rfl,h0⟩ | ⟨gb,cap,cur,rfl,hgb,hg,hnc,hcm,hcs,htake⟩
 ·obtain rfl:=List.length_eq_zero_iff.1 h0
  have h3:=AnyM.slices_Sort_int_none Tryz.laysSorts none 0 w
  change Calls Tryz.prog 124 _ _ _ at h3
  refine h3.mono ?_
  rintro e w' ⟨rfl,rfl⟩
  exact ⟨rfl,[],List.Pairwise.nil,List.Perm.refl _,hO⟩
 have hgl:gb < w.heap.size:=(Array.getElem?_eq_some_iff.1 hg).1
 have h3:=AnyM.slices_Sort_int Tryz.laysSorts gb 0 cap s w (holds_own hO rfl) hgl (by omega)
 change Calls Tryz.prog 124 _ _ _ at h3
 refine h3.mono ?_
 rintro e w' ⟨rfl,m,os,rfl⟩
 exact ⟨rfl,_,(ksrt_merge s).1,List.mergeSort_perm s _,own_sorted hO rfl (List.mergeSort_perm s _).length_eq⟩
set_option maxHeartbeats 4000000 in
set_option maxRecDepth 100000 in
theorem sortedK_is (w:World) (Bs b n:Nat) (f:Int→Option Value) (hBs:w.cell? ⟨Bs,0,none⟩=some (.map (some b))) (hM:MapI Tryz.prog 3 w b n f) (hn:n≤4194304) :
  Calls Tryz.prog 84 #[.func (.func 125) #[] #[.pointer (some ⟨Bs,0,none⟩)]] w fun e w'=>∃ v s,e=.returned v∧Own w w' v s∧s.Pairwise (· < ·)∧s.length≤n∧(∀ x,x∈s↔f x≠none):=by
 have H:=hide' (collectK_is w Bs b n f hBs hM hn)
 have H2:=hide' (fun v s w1 (hO:Own w w1 v s) (hl:s.length≤9223372036854)=>sortL_is w v s w1 hO hl)
 clear hBs hM
 go_enter Tryz.func84,Tryz.ntmps84
 go_wp2_with fail
 refine H.out.mono ?_
 rintro e w1 ⟨v,s,rfl,hO,hnd,hsl,hmem⟩
 have hl:s.length≤9223372036854:=by omega
 have H3:=hide' (H2.out v s w1 hO hl)
 have HN:=hide' (And.intro hnd (And.intro hsl hmem))
 clear hO H H2 hnd hsl hmem
 go_wp2_with fail
 refine H3.out.mono ?_
 rintro e w2 ⟨rfl,t,hS,ht,hO⟩
 have HX:=hide' (show Own w w2 v t∧t.Pairwise (· < ·)∧t.length≤n∧(∀ x,x∈t↔f x≠none) from ⟨hO,by
  have h1:t.Nodup:=ht.nodup_iff.2 HN.out.1
  exact hS.imp₂ (fun a b h2 h3=>by have:a≠b:=h3;omega) h1,by rw [ht.length_eq];exact HN.out.2.1,fun x=>by rw [ht.mem_iff];exact HN.out.2.2 x⟩)
 clear hS ht hO HN H3
 go_wp2
 go_ret
 exact ⟨v,t,rfl,HX.out⟩
set_option maxHeartbeats 4000000 in
set_option maxRecDepth 100000 in
theorem basics_is (w:World) (b n:Nat) (f:Int→Option Value) (hM:MapI Tryz.prog 3 w b n f) (hn:n≤4194304) :
  Calls Tryz.prog 57 #[.map (some b)] w fun e w'=>∃ v s,e=.returned v∧Own w w' v s∧s.Pairwise (· < ·)∧s.length≤n∧(∀ x,x∈s↔f x≠none):=by
 have GK:Hid (∀ w,Calls Tryz.prog 85 #[.map (some b)] w fun e w'=>e=.returned (.func (.func 125) #[] #[.pointer (some ⟨w.heap.size,0,none⟩)])∧w'=w.alloc (.cells #[.map (some b)] 61)):=hide' (fun w=>by
  go_enter Tryz.func85,Tryz.ntmps85
  go_wp2
  go_ret
  exact ⟨rfl,rfl⟩)
 have bA:=below_alloc (w:=w) (.cells #[.map (some b)] 61)
 have d0:(w.alloc (.cells #[.map (some b)] 61)).cell? ⟨w.heap.size,0,none⟩=some (.map (some b)):=by go_simp
 have GS:=hide' (sortedK_is (w.alloc (.cells #[.map (some b)] 61)) w.heap.size b n f d0 (hM.later bA) hn)
 have GO:=hide' (fun v s w2 (hO:Own (w.alloc (.cells #[.map (some b)] 61)) w2 v s)=>show Own w w2 v s from own_base hO bA)
 clear d0 hM bA
 go_enter Tryz.func57,Tryz.ntmps57
 go_wp2_with fail
 refine (GK.out _).mono ?_
 rintro e w1 ⟨rfl,rfl⟩
 go_wp2_with fail
 refine GS.out.mono ?_
 rintro e w2 ⟨v,s,rfl,hO,h2,h3⟩
 have HX:=hide' (And.intro (GO.out v s w2 hO) (And.intro h2 h3))
 clear hO h2 h3 GS GK GO
 go_wp2
 go_ret
 exact ⟨v,s,rfl,HX.out⟩
open Go.RowKit
structure But (q:Nat) (w w':World):Prop where
 size:w.heap.size≤w'.heap.size
 block:∀ j,j < w.heap.size→j≠q→w'.heap[j]?=w.heap[j]?
theorem But.refl (q:Nat) (w:World):But q w w:=⟨Nat.le_refl _,fun _ _ _=>rfl⟩
theorem But.below {q:Nat} {a b c:World} (h:But q a b) (k:Below b.heap.size b c):But q a c:=⟨Nat.le_trans h.size k.size,fun j hj hq=>(k.block j (Nat.lt_of_lt_of_le hj h.size)).trans (h.block j hj hq)⟩
theorem But.grown {q:Nat} {a b c:World} {row:Option Nat} (h:But q a b) (k:b.grownBy c row) (hr:∀ j,row=some j→a.heap.size≤j):But q a c :=
 ⟨Nat.le_trans h.size k.size,fun j hj hq=>(k.block j (Nat.lt_of_lt_of_le hj h.size) (fun e=>by have:=hr j e.symm;omega)).trans (h.block j hj hq)⟩
theorem But.set {q o:Nat} {a b:World} (h:But q a b) (u:Value):But q a (b.setCell ⟨q,o,none⟩ u) :=
 ⟨by simpa [World.setCell] using h.size,fun j hj hq=>(Below.heap_setCell _ _ _ _ hq).trans (h.block j hj hq)⟩
theorem cell_ltK {a:World} {c o:Nat} {u:Value} (hc:a.cell? ⟨c,o,none⟩=some u):c < a.heap.size:=by
 obtain ⟨cur,e,fr,hb,_⟩:=Sort.cells_of_cell? hc
 exact (Array.getElem?_eq_some_iff.1 hb).1
theorem But.cell {q:Nat} {a b:World} (h:But q a b) {c o:Nat} {u:Value} (hc:a.cell? ⟨c,o,none⟩=some u) (hq:c≠q):b.cell? ⟨c,o,none⟩=some u:=by
 have hl:c < a.heap.size:=cell_ltK hc
 rw [World.cell?_of_block (w:=a) (h.block c hl hq)]
 exact hc
theorem TAt.far {w:World} {a:Option Addr} {R:List RowV} {c o:Nat} {u:Value} (h:TAt w a R) (hc:∀ ad,a=some ad→R≠[]→ad.block≠c):TAt (w.setCell ⟨c,o,none⟩ u) a R:=fun hn=>by
 obtain ⟨b,off,rfl,hl,hcell⟩:=h hn
 have hne:b≠c:=hc _ rfl hn
 exact ⟨b,off,rfl,by simpa [World.setCell] using hl,fun i p hi=>⟨(World.cell?_setCell_other _ _ _ _ (fun e=>hne (congrArg Addr.block e).symm)).trans (hcell i p hi).1,(World.cell?_setCell_other _ _ _ _ (fun e=>hne (congrArg Addr.block e).symm)).trans (hcell i p hi).2⟩⟩
def selR (g:Int→Option FV) (s:List Int):List RowV:=s.map fun v=>(v,(g v).getD default)
theorem selR_length (g:Int→Option FV) (s:List Int):(selR g s).length=s.length:=List.length_map _
theorem selR_lk {g:Int→Option FV}:∀ {s:List Int},(∀ x∈s,g x≠none)→∀ v,lk (selR g s) v=if v∈s then g v else none
 | [],_,v=>by simp [selR,lk]
 | x :: s,h,v=>by
  show lk ((x,(g x).getD default) :: selR g s) v=_
  simp only [lk]
  rw [selR_lk (fun y hy=>h y (List.mem_cons_of_mem _ hy)) v]
  by_cases e:x=v
  ·subst e
   have:=h x List.mem_cons_self
   cases hg:g x with
   | none=>exact absurd hg this
   | some F=>simp
  ·have e2:v≠x:=fun e3=>e e3.symm
   simp [e,e2]
theorem selR_rising {g:Int→Option FV} {s:List Int} (h:s.Pairwise (· < ·)):rising (selR g s):=by
 unfold rising selR
 exact List.pairwise_map.2 h
theorem selR_at {g:Int→Option FV} {s:List Int} {k:Nat} {x:Int} (h:s[k]?=some x):(selR g s)[k]?=some (x,(g x).getD default):=by unfold selR;rw [List.getElem?_map,h];rfl
structure TbA (w:World) (V:Int) (S:List RowV) (v:Value) (w':World):Prop where
 ex:∃ (a:Option Addr) (c:Nat),v=.agg #[.int .i64 V,.slice a S.length c]∧TNk w' a S∧S.length≤c∧∀ ad,a=some ad→S≠[]→w.heap.size≤ad.block
 bel:Below w.heap.size w w'
 rise:rising S
structure ToI (w w2:World) (q:Nat) (V:Int) (S:List RowV) (k:Nat) (vo:Value) (wr:World):Prop where
 bel:Below w.heap.size w wr
 but:But q w2 wr
 own:wr.ownsRow w2.heap.size 65 2 vo k (cellsR (S.take k))
 c0:wr.cell? ⟨q,0,none⟩=some (.int .i64 V)
 c1:wr.cell? ⟨q,1,none⟩=some vo
 row:Row wr q
theorem ToI.push {w w2:World} {q:Nat} {V:Int} {S:List RowV} {k:Nat} {vo:Value} {wr wB w9:World} (h:ToI w w2 q V S k vo wr) (hq:w.heap.size≤q∧q < w2.heap.size) (hw:w.heap.size≤w2.heap.size) (hb:Below wr.heap.size wr wB) {r:RowV} (hr:S[k]?=some r) {gb cap:Nat}
  (hown:w9.ownsRow w2.heap.size 65 2 (.slice (some ⟨gb,0,none⟩) (k+1) cap) (k+1) (cellsR (S.take k) ++ cells2 r)) (hg:wB.grownBy w9 vo.ownBlock) :
  w9.cell? ⟨q,1,none⟩=some vo∧Row w9 q∧ToI w w2 q V S (k+1) (.slice (some ⟨gb,0,none⟩) (k+1) cap) (w9.setCell ⟨q,1,none⟩ (.slice (some ⟨gb,0,none⟩) (k+1) cap)):=by
 have hlt:=fun j (hj:vo.ownBlock=some j)=>h.own.lt j hj
 have hne:∀ j,vo.ownBlock=some j→q≠j:=fun j hj e=>by have:=(hlt j hj).1;omega
 have c1:w9.cell? ⟨q,1,none⟩=some vo:=hg.cell (below_cell hb h.c1) (fun e=>hne q e.symm rfl)
 have c0:w9.cell? ⟨q,0,none⟩=some (.int .i64 V):=hg.cell (below_cell hb h.c0) (fun e=>hne q e.symm rfl)
 have hr9:Row w9 q:=by
  obtain ⟨cur,t,hc⟩:=below_row hb h.row
  exact ⟨cur,t,(hg.block q (Array.getElem?_eq_some_iff.1 hc).1 (fun e=>hne q e.symm rfl)).trans hc⟩
 have hgq:gb≠q:=fun e=>by have:=(hown.lt gb rfl).1;omega
 refine ⟨c1,hr9,?_,?_,?_,?_,?_,hr9.setCell _ _⟩
 ·exact (h.bel.trans ((hb.mono h.bel.size).trans (below_grown (Nat.le_trans h.bel.size hb.size) (fun j hj=>by have:=(hlt j hj).1;omega) hg))).setCell hq.1 _
 ·exact ((h.but.below hb).grown hg (fun j hj=>(hlt j hj).1)).set _
 ·have e:cellsR (S.take (k+1))=cellsR (S.take k) ++ cells2 r:=by rw [take_snoc hr,cellsR_append];simp [cellsR]
  rw [e]
  refine ⟨hown.1,?_⟩
  rcases hown.2 with ⟨h1,_⟩ | ⟨g,cap',cur,h1,h2,h3,h4⟩
  ·cases h1
  ·have:gb=g:=by simp at h1;exact h1.1
   subst this
   exact Or.inr ⟨gb,cap',cur,h1,h2,(Below.heap_setCell _ _ _ _ hgq).trans h3,h4⟩
 ·rw [World.cell?_setCell_other _ _ _ _ (fun e=>by simp at e)];exact c0
 ·exact World.cell?_setCell_same _ _ _ c1
theorem own_keys {w w':World} {v:Value} {s:List Int} (h:Own w w' v s):∃ (a:Option Addr) (c:Nat),v=.slice a s.length c∧s.length≤c∧∀ i x,s[i]?=some x→∃ gk,a=some ⟨gk,0,none⟩∧w.heap.size≤gk∧w'.cell? ⟨gk,i,none⟩=some (.int .i64 x):=by
 rcases h.1.2 with ⟨h1,h2⟩ | ⟨gk,cap,cur,h1,h2,h3,h4,_⟩
 ·refine ⟨none,0,by rw [h1,h2],by omega,fun i x hx=>?_⟩
  rw [List.length_eq_zero_iff.1 h2] at hx
  simp at hx
 ·refine ⟨some ⟨gk,0,none⟩,cap,h1,h4,fun i x hx=>⟨gk,rfl,h2,?_⟩⟩
  have k1:=h.1
  rw [h1] at k1
  have hi:=(List.getElem?_eq_some_iff.1 hx).1
  have k2:=k1.cellAt i (by omega)
  rw [iv_at hx] at k2
  exact k2
def ToldA (w:World) (V:Int) (n:Nat) (g:Int→Option FV) (e:Ending) (w':World):Prop:=∃ v S,e=.returned v∧TbA w V S v w'∧S.length≤n∧∀ x,lk S x=g x
theorem info_Row:(Tryz.prog.info? 65).map (fun i=>(i.zero,i.size,i.bytes))=some (some (.agg #[.int .i64 0,.slice none 0 0]),2,32):=by kernel_rfl
set_option maxHeartbeats 8000000 in
set_option maxRecDepth 100000 in
theorem told_is (V:Int) (b n:Nat) (g:Int→Option FV) (w:World) (hM:MapT w b n g) (hn:n≤1048576) (hnk:∀ v F,g v=some F→F.nk w) :
  Calls Tryz.prog 49 #[.int .i64 V,.map (some b)] w (ToldA w V n g):=by
 obtain ⟨TQ,hTQ⟩:∃ TQ,ToldA w V n g=TQ:=⟨_,rfl⟩
 rw [hTQ]
 replace hTQ:=hide' hTQ
 obtain ⟨i0,hi0,hz0,hz1,hz2⟩:=info_parts info_Row
 have HNK:=hide' hnk
 clear hnk
 have bA:=below_alloc (w:=w) (.cells #[.int .i64 0,.slice none 0 0] 24)
 have bB:=below_alloc (w:=w.alloc (.cells #[.int .i64 0,.slice none 0 0] 24)) (.cells #[.int .i64 V,.slice none 0 0] 24)
 have c0:((w.alloc (.cells #[.int .i64 0,.slice none 0 0] 24)).alloc (.cells #[.int .i64 V,.slice none 0 0] 24)).cell? ⟨w.heap.size+1,0,none⟩=some (.int .i64 V):=by go_simp
 have c1:((w.alloc (.cells #[.int .i64 0,.slice none 0 0] 24)).alloc (.cells #[.int .i64 V,.slice none 0 0] 24)).cell? ⟨w.heap.size+1,1,none⟩=some (.slice none 0 0):=by go_simp
 have r0:Row ((w.alloc (.cells #[.int .i64 0,.slice none 0 0] 24)).alloc (.cells #[.int .i64 V,.slice none 0 0] 24)) w.heap.size:=below_row bB (row_new w #[.int .i64 0,.slice none 0 0] 24)
 have r1:Row ((w.alloc (.cells #[.int .i64 0,.slice none 0 0] 24)).alloc (.cells #[.int .i64 V,.slice none 0 0] 24)) (w.heap.size+1):=by have:=row_new (w.alloc (.cells #[.int .i64 0,.slice none 0 0] 24)) #[.int .i64 V,.slice none 0 0] 24;simpa using this
 have z0:((w.alloc (.cells #[.int .i64 0,.slice none 0 0] 24)).alloc (.cells #[.int .i64 V,.slice none 0 0] 24)).cell? ⟨w.heap.size,0,none⟩=some (.int .i64 0):=by go_simp
 have z1:((w.alloc (.cells #[.int .i64 0,.slice none 0 0] 24)).alloc (.cells #[.int .i64 V,.slice none 0 0] 24)).cell? ⟨w.heap.size,1,none⟩=some (.slice none 0 0):=by go_simp
 have hBw:=bA.trans (bB.mono bA.size)
 have hsz:((w.alloc (.cells #[.int .i64 0,.slice none 0 0] 24)).alloc (.cells #[.int .i64 V,.slice none 0 0] 24)).heap.size=w.heap.size+1+1:=by simp
 go_enter Tryz.func49,Tryz.ntmps49
 go_wp2_with fail
 obtain ⟨w2,hw2⟩:∃ w2,((w.alloc (.cells #[.int .i64 0,.slice none 0 0] 24)).alloc (.cells #[.int .i64 V,.slice none 0 0] 24))=w2:=⟨_,rfl⟩
 rw [hw2] at c0 c1 r0 r1 z0 z1 hBw hsz ⊢
 clear hw2 bA bB
 obtain ⟨q,hq⟩:∃ q,w.heap.size+1=q:=⟨_,rfl⟩
 rw [hq] at c0 c1 r1 hsz
 try rw [hq]
 have HQ:=hide' (show (w.heap.size≤q∧q < w2.heap.size)∧w.heap.size≤w2.heap.size∧q≠w.heap.size by omega)
 clear hq hsz
 refine (basics_is w2 b n (mapf g) (hM.later hBw) (by omega)).mono ?_
 rintro e wk ⟨v,s,rfl,hO,hrs,hsl,hmem⟩
 have hk:=hO.2
 have HS:=hide' (show ∀ x∈s,g x≠none from fun x hx e=>(hmem x).1 hx (mapf_none e))
 have HC:=hide' (show ∀ x,x ∉ s→g x=none from fun x hx=>by
  cases hg:g x with
  | none=>rfl
  | some F=>exact absurd ((hmem x).2 (by rw [mapf_some hg];simp)) hx)
 have HR:=hide' hrs
 have HWF:=hide' (fun x F (hx:g x=some F)=>show wfI x from hM.key (mapf_some hx))
 obtain ⟨av,cv,rfl,hcv,hcells⟩:=own_keys hO
 have HCell:=hide' hcells
 have I0:ToI w wk q V (selR g s) 0 (.slice none 0 0) wk:=⟨hBw.trans (hk.mono hBw.size),But.refl _ _,World.ownsRow_nil _ _ _ _,below_cell hk c0,below_cell hk c1,below_row hk r1⟩
 have HQ2:=hide' (show (w.heap.size≤q∧q < wk.heap.size)∧w.heap.size≤wk.heap.size∧q≠w.heap.size by have:=hk.size;have:=HQ.out;omega)
 have HQ3:=hide' (show q < w2.heap.size from HQ.out.1.2)
 have HZ:=hide' (show wk.cell? ⟨w.heap.size,0,none⟩=some (.int .i64 0)∧wk.cell? ⟨w.heap.size,1,none⟩=some (.slice none 0 0)∧Row wk w.heap.size from ⟨below_cell hk z0,below_cell hk z1,below_row hk r0⟩)
 have HM:=hide' hM
 clear hO hmem hrs c0 c1 z0 z1 r0 r1 HQ hk hM hcells hBw
 go_wp2_with fail
 go_loopw [13] (fun vi wr=>∃ (k:Nat) (vo:Value),k≤s.length∧vi=.int .i64 k∧ToI w wk q V (selR g s) k vo wr) (fun vi _=>s.length - (intOf vi).toNat)
 case atStart=>exact ⟨0,_,Nat.zero_le _,rfl,I0⟩
 case round =>
  clear I0
  obtain ⟨k,vo,hk,rfl,hI⟩:=hrel
  by_cases hlt:k < s.length
  ·obtain ⟨x,hx⟩:∃ x,s[k]?=some x:=⟨s[k],List.getElem?_eq_getElem hlt⟩
   obtain ⟨gk,rfl,hgk,hcx⟩:=HCell.out k x hx
   replace hcx:=hI.but.cell hcx (by have:=HQ3.out;omega)
   obtain ⟨F,hF⟩:∃ F,g x=some F:=by
    have h1:=HS.out x (List.mem_of_getElem? hx)
    cases hg:g x with
    | none=>exact absurd hg h1
    | some F=>exact ⟨F,rfl⟩
   have hwx:=HWF.out x F hF
   have hmf:=mapf_some hF
   have hat:=selR_at (g:=g) hx
   rw [hF] at hat
   simp only [Option.getD] at hat
   have HP:=hide' (fun wB w9 (hb:Below wr.heap.size wr wB) gb cap hown hg=>hI.push (wB:=wB) (w9:=w9) (gb:=gb) (cap:=cap) HQ2.out.1 HQ2.out.2.1 hb hat hown hg)
   have hMr:=HM.out.later hI.bel
   have c1:=hI.c1
   have hO:=hI.own
   have hsb:=hI.but.size
   have j0:(0:Int)≤(k:Int):=by omega
   have j1:(k:Int) < (s.length:Int):=by omega
   obtain ⟨Fa,Fc,FL⟩:=F
   unfold FV.val at hmf
   simp only at hmf
   clear hx hF hat hI
   have hnew:=heap_alloc_new wr (.cells #[.int .i64 x,.slice Fa FL.length Fc] 65)
   have bX:=below_alloc (w:=wr) (.cells #[.int .i64 x,.slice Fa FL.length Fc] 65)
   obtain ⟨wX,hwX⟩:∃ wX,wr.alloc (.cells #[.int .i64 x,.slice Fa FL.length Fc] 65)=wX:=⟨_,rfl⟩
   rw [hwX] at hnew bX
   have hO3:=own_below hO bX
   have sX:=bX.size
   have hbs:wk.heap.size≤wX.heap.size:=by omega
   have hbl:(k+1)*32≤140737488355328:=by omega
   have hkm:k+1≤maxLen:=by simp only [maxLen];omega
   go_wp2_with (first | (at_lookup;refine wpList_look _ rfl _ _ 61 false rfl und_int und_rows (zeroF _) b n (mapf g) rfl hMr x rfl hwx _ hmf ?_) | (at_builtin;(try rw [hwX]);refine wpList_append_lies _ (by rfl) _ _ _ (by rfl) wk.heap.size 65 i0 _ 2 32 Tryz.underlying22 hi0 hz0 hz1 hz2 rfl (by omega) vo k (cellsR ((selR g s).take k)) (by rfl) hO3 ⟨wr.heap.size,0,none⟩ 1 1 [.int .i64 x,.slice Fa FL.length Fc] (by rfl) (by rfl) (World.news_of_block (cs:=#[.int .i64 x,.slice Fa FL.length Fc]) (t:=65) (fr:=(0,0)) hnew) (by simp [Value.oneCell']) (by omega) hkm hbl hbs wX.heap.size rfl ?_;intro gb cap w9 hown4 hgrow hat9 hlt4;obtain ⟨k1,kR,kI⟩:=HP.out wX w9 bX gb cap hown4 hgrow;have fz:=fun o=>kR.frozen o;have KI:=hide' kI;clear kI hown4 hgrow hat9 hlt4 HP kR))
   try go_roundw
   case rel=>exact ⟨k+1,_,by omega,by go_num,KI.out⟩
   case measure=>simp only [intOf];omega
  ·obtain rfl:k=s.length:=by omega
   have i1:¬ (s.length:Int) < (s.length:Int):=by omega
   have eT:(selR g s).take s.length=selR g s:=by rw [←selR_length g s,List.take_length]
   have hO:=hI.own
   rw [eT,←selR_length g s] at hO
   obtain ⟨ar,cr,hvo,hcr,_,hTA⟩:=own_tab hO
   have HRW:=hide' (fun ad (e:ar=some ad)=>show wk.heap.size≤ad.block from by rw [hvo,e] at hO;exact (hO.lt ad.block rfl).1)
   rw [selR_length] at hvo
   subst hvo
   have c0:=hI.c0
   have c1:=hI.c1
   have z0:=hI.but.cell HZ.out.1 (by have:=HQ2.out;omega)
   have z1:=hI.but.cell HZ.out.2.1 (by have:=HQ2.out;omega)
   have zR:Row wr w.heap.size:=by obtain ⟨cur,t,hc⟩:=HZ.out.2.2;exact ⟨cur,t,(hI.but.block _ (Array.getElem?_eq_some_iff.1 hc).1 (by have:=HQ2.out;omega)).trans hc⟩
   have fz:=fun o=>zR.frozen o
   have HX:=hide' (show ToldA w V n g (.returned (Value.agg #[.int .i64 V,.slice ar s.length cr])) ((wr.setCell ⟨w.heap.size,0,none⟩ (.int .i64 V)).setCell ⟨w.heap.size,1,none⟩ (.slice ar s.length cr)) from by
     have hB:Below w.heap.size w ((wr.setCell ⟨w.heap.size,0,none⟩ (.int .i64 V)).setCell ⟨w.heap.size,1,none⟩ (.slice ar s.length cr)):=(hI.bel.setCell (Nat.le_refl _) _).setCell (Nat.le_refl _) _
     have hne:∀ ad,ar=some ad→selR g s≠[]→ad.block≠w.heap.size:=fun ad e _=>by have h1:=HRW.out ad e;have:=HQ2.out;omega
     refine ⟨_,selR g s,rfl,⟨⟨ar,cr,by rw [selR_length],⟨(hTA.far hne).far hne,fun r hr=>?_,fun r hr=>?_⟩,hcr,fun ad e _=>by have h1:=HRW.out ad e;have:=HQ2.out;omega⟩,hB,selR_rising HR.out⟩,by rw [selR_length];exact hsl,fun x=>?_⟩
     ·obtain ⟨v,hv,rfl⟩:=List.mem_map.1 hr
      cases hg:g v with
      | none=>exact absurd hg (HS.out v hv)
      | some F=>simp only [Option.getD];exact (HNK.out v F hg).later hB
     ·obtain ⟨v,hv,rfl⟩:=List.mem_map.1 hr
      cases hg:g v with
      | none=>exact absurd hg (HS.out v hv)
      | some F=>exact HWF.out v F hg
     ·rw [selR_lk HS.out]
      by_cases hx:x∈s
      ·rw [if_pos hx]
      ·rw [if_neg hx,HC.out x hx])
   rw [hTQ.out] at HX
   clear hI hO hTA zR HRW eT
   go_wp2
   first | exact HX.out | (refine bodyPost_ret (v:=.agg #[.int .i64 V,.slice ar s.length cr]) (by rw [results_cell rfl];go_simp) rfl ?_;exact HX.out)
def FFr (w:World) (T:Fo) (e:Ending) (w':World):Prop :=
 ∃ F:FV,e=.returned F.val∧F.fo=T∧F.nk w'∧F.frm w.heap.size∧Below w.heap.size w w'
def NInvN (w:World) (l:Fo) (ys:List Int) (k:Nat) (vo:Value) (wr:World):Prop :=
 ∃ R:List Mo,R.length≤k∧wr.ownsRow w.heap.size 76 4 vo R.length (cellsF R)∧Below w.heap.size w wr∧(∀ p∈R,Grw vo wr p)∧(∀ p∈R,p.2.frm w.heap.size)∧fo R=cl l (ys.take k)
theorem NInvN.later {w:World} {l:Fo} {ys:List Int} {k:Nat} {vo:Value} {wr w':World} (h:NInvN w l ys k vo wr) (hb:Below wr.heap.size wr w'):NInvN w l ys k vo w':=by
 obtain ⟨R,h1,h2,h3,h4,h6,h5⟩:=h
 exact ⟨R,h1,own_below h2 hb,h3.trans (hb.mono h3.size),fun p hp=>(h4 p hp).later hb,h6,h5⟩
set_option maxHeartbeats 8000000 in
set_option maxRecDepth 100000 in
theorem vlNormN_is (a:Option Addr) (ca:Nat) (L:List Mo) (w:World) (hF:FAt w a L) (hok:∀ p∈L,p.2.ok w∧p.2.n≤1099511627776∧p.2.m≤1099511627776) (hc:L.length≤ca) (hm:L.length≤1048576) (hw:∀ k x,sz 1099511627776 (co x (fo (L.take k)))) :
  Calls Tryz.prog 55 #[.slice a L.length ca] w (FFr w (nfm (fo L))):=by
 obtain ⟨i0,hi0,hz0,hz1,hz2⟩:=info_parts info_Mono
 obtain ⟨TT,hTT⟩:∃ TT,nfm (fo L)=TT:=⟨_,rfl⟩
 rw [hTT]
 replace hTT:=hide' hTT
 have GA:=hide' (vall_is a ca L none 0 [] w hF (FAt.nil _ _) hc (Nat.le_refl _) (by simp only [List.length_nil];omega))
 have GC:=hide' (fun w' x (hb:Below w.heap.size w w')=>vlCoefF_is a ca L x w' (hF.later hb) (fun p hp=>⟨(hok p hp).1.later hb,(hok p hp).2⟩) hc hm (fun k=>hw k x))
 clear hF hok hc
 rw [show ([]:List Mo).length=0 from rfl] at GA
 go_enter Tryz.func55,Tryz.ntmps55
 go_wp2_with fail
 refine GA.out.mono ?_
 rintro e w2 ⟨vi,rfl,ys,hOI,hB2,hY⟩
 clear GA
 obtain ⟨ai,ci,rfl,hci,hI⟩:=own_ints hOI
 rw [List.take_length] at hY
 have HC:=hide' (cl_all hY)
 have hyl:ys.length≤1048576:=by have:=hY.len;rw [List.length_append,vs_length] at this;simp only [vs,List.map_nil,List.length_nil] at this;omega
 clear hY hOI
 obtain ⟨l,hl⟩:∃ l,fo L=l:=⟨_,rfl⟩
 have HS:=hide' (fun x=>show sz 1099511627776 (co x l) by have h:=hw L.length x;rw [List.take_length,hl] at h;exact h)
 rw [hl] at GC HC hTT
 clear hl hw
 go_wp2_with fail
 go_loopw [3,5] (fun vo vi wr=>∃ k:Nat,k≤ys.length∧vi=.int .i64 k∧NInvN w2 l ys k vo wr) (fun _ vi _=>ys.length - (intOf vi).toNat)
 case atStart=>exact ⟨0,Nat.zero_le _,rfl,[],Nat.le_refl _,World.ownsRow_nil _ _ _ _,Below.refl _ _,fun p hp=>absurd hp (by simp),fun p hp=>absurd hp (by simp),rfl⟩
 case round =>
  obtain ⟨k,hk,rfl,hN⟩:=hrel
  by_cases hlt:k < ys.length
  ·obtain ⟨x,hx⟩:∃ x,ys[k]?=some x:=⟨ys[k],List.getElem?_eq_getElem hlt⟩
   obtain ⟨bb,off,rfl,hb,hcell⟩:=hI (by intro e;rw [e] at hlt;simp at hlt)
   have hBk:Below w2.heap.size w2 wr:=by obtain ⟨R,_,_,h,_⟩:=hN;exact h
   have c0:=below_cell hBk (hcell k x hx)
   obtain ⟨t1,t2⟩:=take_split hx
   clear t2 hx hcell
   obtain ⟨s,hs⟩:∃ s,co x l=s:=⟨_,rfl⟩
   have G1:=hide' (GC.out wr x (hB2.trans (hBk.mono hB2.size)))
   have hsz:=HS.out x
   rw [hs] at G1 hsz
   have hfo:cl l (ys.take (k+1))=cl l (ys.take k) ++ (if s=0 then [] else [(x,s)]):=by rw [t1,cl_append];simp only [cl];rw [hs,List.append_nil]
   clear t1 hs
   have G2:=fun w' p q k1 k2=>vqSign_is (ng s.num) p (ln (am s.num)) (ln (am s.num)) (am s.num) q (ln s.den) (ln s.den) s.den (sgn s.num) w' (Nat.le_refl _) (Nat.le_trans hsz.1 (by omega)) k1 (Nat.le_refl _) (Nat.le_trans hsz.2 (by omega)) k2 (by rw [rn_nf s.den_pos])
   have i1:(0:Int)≤(k:Int):=by omega
   have i2:(k:Int) < (ys.length:Int):=by omega
   go_wp2_with fail
   refine G1.out.mono ?_
   rintro e w3 ⟨p,q,rfl,b3,g1,g2,f1,f2⟩
   go_wp2_with fail
   obtain ⟨wA,hwA⟩:∃ wA,w3.alloc (.cells #[.bool (ng s.num),.slice p (ln (am s.num)) (ln (am s.num)),.slice q (ln s.den) (ln s.den)] 74)=wA:=⟨_,rfl⟩
   have bA:Below w3.heap.size w3 wA:=by subst hwA;exact below_alloc _
   have a0:wA.cell? ⟨w3.heap.size,0,none⟩=some (.bool (ng s.num)):=by subst hwA;go_simp
   have a1:wA.cell? ⟨w3.heap.size,1,none⟩=some (.slice p (ln (am s.num)) (ln (am s.num))):=by subst hwA;go_simp
   have a2:wA.cell? ⟨w3.heap.size,2,none⟩=some (.slice q (ln s.den) (ln s.den)):=by subst hwA;go_simp
   rw [hwA]
   clear hwA
   replace g1:=g1.later bA
   replace g2:=g2.later bA
   have bT:=b3.trans (bA.mono b3.size)
   have hs3:=b3.size
   replace c0:=below_cell bT c0
   have hN3:=hN.later bT
   have hN0:=hide' hN
   clear hN b3 bA G1
   by_cases h0:s=0
   ·skip
    have hC0:sgn s.num=0:=(sgn_num s).2 h0
    rw [hC0] at G2
    rw [if_pos h0,List.append_nil] at hfo
    replace G2:=hide' G2
    clear h0
    refine (G2.out _ p q g1 g2).mono ?_
    rintro e w4 ⟨rfl,b4⟩
    replace a0:=below_cell b4 a0
    replace a1:=below_cell b4 a1
    replace a2:=below_cell b4 a2
    replace c0:=below_cell b4 c0
    replace g1:=g1.later b4
    replace g2:=g2.later b4
    replace hN3:=hN3.later b4
    replace bT:=bT.trans (b4.mono bT.size)
    clear b4 G2
    have I1:=hide' (show NInvN w2 l ys (k+1) u3 w4 from by obtain ⟨R,h1,h2,h3,h4,h6,h5⟩:=hN3;exact ⟨R,by omega,h2,h3,h4,h6,by rw [h5,hfo]⟩)
    clear hN3
    go_wp2
    go_roundw
    case rel=>exact ⟨k+1,by omega,by go_num,I1.out⟩
    case measure=>simp [intOf];omega
   ·skip
    have hC0:¬ sgn s.num=0:=fun h=>h0 ((sgn_num s).1 h)
    obtain ⟨C,hC⟩:∃ C,sgn s.num=C:=⟨_,rfl⟩
    rw [hC] at G2 hC0
    rw [if_neg h0] at hfo
    have hCb:(C == 0)=false:=by simp [hC0]
    clear hC
    replace G2:=hide' G2
    clear h0
    refine (G2.out _ p q g1 g2).mono ?_
    rintro e w4 ⟨rfl,b4⟩
    replace a0:=below_cell b4 a0
    replace a1:=below_cell b4 a1
    replace a2:=below_cell b4 a2
    replace c0:=below_cell b4 c0
    replace g1:=g1.later b4
    replace g2:=g2.later b4
    replace hN3:=hN3.later b4
    replace bT:=bT.trans (b4.mono bT.size)
    clear b4 G2
    obtain ⟨R,hRl,hO,hB,hR,hFm,hfR⟩:=hN3
    have frN:(RatV.of s.num s.den p q).frm w2.heap.size:=⟨fun hn ad e2=>Nat.le_trans hBk.size (f1 hn ad e2),fun hn ad e2=>Nat.le_trans hBk.size (f2 hn ad e2)⟩
    have hrow:=fun k hk=>(hO.lt k hk)
    have hrow0:∀ b,u3.ownBlock=some b→b < wr.heap.size:=fun b e=>by obtain ⟨R0,_,hO0,_⟩:=hN0.out;exact (hO0.lt b e).2
    have gN:Grw u3 w4 (x,RatV.of s.num s.den p q):=⟨⟨g1,Nat.le_refl _,Nat.le_trans hsz.1 (by omega),g2,Nat.le_refl _,Nat.le_trans hsz.2 (by omega)⟩,ofR_low s p q,fun b e=>⟨fun hn ad e2 h=>by have h1:=f1 hn ad e2;have h2:=hrow0 b e;omega,fun hn ad e2 h=>by have h1:=f2 hn ad e2;have h2:=hrow0 b e;omega⟩⟩
    have hs4:w3.heap.size < w4.heap.size:=World.block_lt_of_cell? w4 ⟨w3.heap.size,0,none⟩ a0
    have hso:∀ b,u3.ownBlock=some b→b < w3.heap.size:=fun b e=>by have:=hrow0 b e;omega
    clear g1 g2 f1 f2 hN0 bT
    go_wp2_with fail
    have bD:Below w4.heap.size w4 w4.drew:=(Below.refl _ _).drew
    have kc0:=below_cell bD c0
    have ka0:=below_cell bD a0
    have ka1:=below_cell bD a1
    have ka2:=below_cell bD a2
    refine wp_region_held_drew (S:=fun w'=>w'.cell? ⟨bb,off+k,none⟩=some (.int .i64 x)∧w'.cell? ⟨w3.heap.size,0,none⟩=some (.bool (ng s.num))∧w'.cell? ⟨w3.heap.size,1,none⟩=some (.slice p (ln (am s.num)) (ln (am s.num)))∧w'.cell? ⟨w3.heap.size,2,none⟩=some (.slice q (ln s.den) (ln s.den))) (by kernel_rfl) ⟨kc0,ka0,ka1,ka2⟩ (fun hHeld=>?_)
    clear kc0 ka0 ka1 ka2
    generalize w4.drew=w0 at bD hHeld ⊢
    clear c0 a0 a1 a2
    refine tk 0 (v:=?_) rfl (Or.inl ⟨by rfl,?_⟩) ?_
    rotate_left
    ·intro w9 hSw
     go_simp
     first | done | with_reducible rfl
    simp only [pP,pN,pS,pZ,pC]
    refine tk 1 (v:=?_) rfl (Or.inl ⟨by rfl,?_⟩) ?_
    rotate_left
    ·intro w9 hSw
     go_simp
     first | done | with_reducible rfl
    simp only [pP,pN,pS,pZ,pC]
    refine tk 2 (v:=?_) rfl (Or.inl ⟨by rfl,?_⟩) ?_
    rotate_left
    ·intro w9 hSw
     go_simp
     first | done | with_reducible rfl
    simp only [pP,pN,pS,pZ,pC]
    refine tk 3 (v:=?_) rfl (Or.inl ⟨by rfl,?_⟩) ?_
    rotate_left
    ·intro w9 hSw
     go_simp
     first | done | with_reducible rfl
    simp only [pP,pN,pS,pZ,pC]
    refine tk 4 (v:=?_) rfl (Or.inl ⟨by rfl,?_⟩) ?_
    rotate_left
    ·intro w9 hSw
     go_simp
     first | done | with_reducible rfl
    simp only [pP,pN,pS,pZ,pC]
    refine tk 5 (v:=?_) rfl (Or.inl ⟨by rfl,?_⟩) ?_
    rotate_left
    ·intro w9 hSw
     go_simp
     first | done | with_reducible rfl
    simp only [pP,pN,pS,pZ,pC]
    refine tk 6 (v:=?_) rfl (Or.inl ⟨by rfl,?_⟩) ?_
    rotate_left
    ·intro w9 hSw
     go_simp
     first | done | with_reducible rfl
    simp only [pP,pN,pS,pZ,pC]
    refine wpAnyH_ready (rs:=[7]) (by kernel_rfl) (by simp) ?_
    refine cons' rfl (fun KK hKK=>?_)
    go_simp
    have hnew:=heap_alloc_new w0 (.cells #[.int .i64 x,.bool (ng s.num),.slice p (ln (am s.num)) (ln (am s.num)),.slice q (ln s.den) (ln s.den)] 76)
    have b3:=below_alloc (w:=w0) (.cells #[.int .i64 x,.bool (ng s.num),.slice p (ln (am s.num)) (ln (am s.num)),.slice q (ln s.den) (ln s.den)] 76)
    generalize w0.alloc (.cells #[.int .i64 x,.bool (ng s.num),.slice p (ln (am s.num)) (ln (am s.num)),.slice q (ln s.den) (ln s.den)] 76)=w8 at hnew b3 ⊢
    replace hHeld:=(⟨below_cell b3 hHeld.1,below_cell b3 hHeld.2.1,below_cell b3 hHeld.2.2.1,below_cell b3 hHeld.2.2.2⟩:_∧_∧_∧_)
    refine hKK.out _ _ hHeld ?_
    clear hHeld
    intro hHeld
    clear hKK KK
    try simp only [pP,pN,pS,pZ,pC]
    have bT:=bD.trans (b3.mono bD.size)
    have hO3:=own_below hO bT
    have s3:=b3.size
    have s4:=bD.size
    have s5:=hB.size
    refine wpAnyH_ready (rs:=[8]) (by kernel_rfl) (by simp) ?_
    refine cons' rfl (fun KK hKK=>?_)
    refine step_append_lies _ (by rfl) _ _ _ (by rfl) w2.heap.size 76 i0 _ 4 64 Tryz.underlying35 hi0 hz0 hz1 hz2 rfl (by omega) u3 R.length (cellsF R) (by rfl) hO3
     ⟨w0.heap.size,0,none⟩ 1 1 (cells4 (x,RatV.of s.num s.den p q)) (by rfl) (by rfl) (World.news_of_block (cs:=#[.int .i64 x,.bool (ng s.num),.slice p (ln (am s.num)) (ln (am s.num)),.slice q (ln s.den) (ln s.den)]) (t:=76) (fr:=(0,0)) hnew) (cells4_one _)
     (by omega) (by simp only [maxLen];omega) (by omega) (by omega) w8.heap.size rfl ?_
    intro gb cap w9 hown4 hgrow hat hlt4
    have far:∀ {c o:Nat} {u:Value},(c < w2.heap.size∨c=w3.heap.size)→w8.cell? ⟨c,o,none⟩=some u→w9.cell? ⟨c,o,none⟩=some u:=fun hc hu=>hgrow.cell hu (fun e=>by have h1:=hrow _ e.symm;have h2:=hso _ e.symm;simp only at h1 h2;omega)
    refine hKK.out _ _ ⟨far (Or.inl hb) hHeld.1,far (Or.inr rfl) hHeld.2.1,far (Or.inr rfl) hHeld.2.2.1,far (Or.inr rfl) hHeld.2.2.2⟩ ?_
    clear hHeld
    intro hHeld
    clear hKK KK
    try simp only [pP,pN,pS,pZ,pC]
    have hBT:=hB.trans (bT.mono hB.size)
    have I1:=hide' (show NInvN w2 l ys (k+1) (.slice (some ⟨gb,0,none⟩) (R.length+1) cap) w9 from ⟨R ++ [(x,RatV.of s.num s.den p q)],by rw [List.length_append];simp only [List.length_cons,List.length_nil];omega,own_push hown4,hBT.trans (below_grown hBT.size (fun k hk=>(hrow k hk).1) hgrow),grw_push (fun q hq=>(hR q hq).later bT) (gN.later bT) (j:=R.length+1) (cap:=cap) hgrow hat,(fun q hq=>by rcases List.mem_append.1 hq with h | h;exact hFm q h;rw [List.mem_singleton.1 h];exact frN),by rw [fo_append,hfR,hfo];show _ ++ [(x,(RatV.of s.num s.den p q).val)]=_;rw [val_ofR]⟩)
    clear hown4 hgrow hat far gN hO3 hnew hR hO hfR
    refine tk 9 (v:=?_) rfl (Or.inl ⟨by rfl,?_⟩) ?_
    rotate_left
    ·intro w9 hSw
     go_simp
     first | done | with_reducible rfl
    simp only [pP,pN,pS,pZ,pC]
    refine wpAnyH_done (by kernel_rfl) ?_ _
    go_wp2
    go_roundw
    case rel=>exact ⟨k+1,by omega,by go_num,I1.out⟩
    case measure=>simp [intOf];omega
  ·obtain rfl:k=ys.length:=by omega
   have i1:¬ (ys.length:Int) < (ys.length:Int):=by omega
   obtain ⟨R,hRl,hO,hB,hR,hFm,hfR⟩:=hN
   obtain ⟨a3,c3,rfl,s3⟩:=Sl.of hO
   rw [List.take_length,HC.out,hTT.out] at hfR
   have I1:=hide' (show FFr w TT (.returned (.slice a3 R.length c3)) wr from ⟨⟨a3,c3,R⟩,rfl,hfR,⟨s3,fun p hp=>(hR p hp).ent⟩,⟨fun _ ad e=>Nat.le_trans hB2.size (own_new hO ad e).1,fun p hp=>(hFm p hp).mono hB2.size⟩,hB2.trans (hB.mono hB2.size)⟩)
   clear hO hR s3 hfR
   go_wp2
   go_ret
   exact I1.out
theorem rNormN_is (F:FV) (w:World) (h:F.sm w):Calls Tryz.prog 55 #[F.val] w (FFr w (nfm F.fo)) :=
 vlNormN_is F.a F.c F.L w h.ok.lies (fun p hp=>⟨h.ok.nums p hp,by have:=bul_mem hp;have:=h.b;omega,by have:=bul_mem hp;have:=h.b;omega⟩) h.ok.len h.len fun k x=>(co_sz x (fo (F.L.take k))).mono (by have:=wts_take F.L k;have:=sm_wts h;omega)
def leL (R:List RowV) (x:Int):Nat:=(R.filter fun r=>decide (r.1≤x)).length
theorem leL_add {last v:Int} (hlv:last < v):∀ {R:List RowV},(∀ r∈R,last < r.1→v≤r.1)→leL R v=leL R last+(R.filter fun r=>decide (r.1=v)).length
 | [],_=>rfl
 | r :: R,h=>by
  have ih:=leL_add hlv (R:=R) fun s hs=>h s (List.mem_cons_of_mem _ hs)
  have hr:=h r List.mem_cons_self
  unfold leL at *
  simp only [List.filter_cons]
  by_cases h1:r.1≤last
  ·have h2:r.1≤v:=by omega
   have h3:¬ r.1=v:=by omega
   simp only [h1,h2,h3,decide_true,decide_false,if_true,if_false,List.length_cons,Bool.false_eq_true]
   omega
  ·have h2:=hr (by omega)
   by_cases h3:r.1=v
   ·have h4:r.1≤v:=by omega
    simp only [h1,h4,h3,Int.le_refl,decide_true,decide_false,if_true,if_false,List.length_cons,Bool.false_eq_true] at *
    simp only [show ¬ v≤last by omega,decide_false,if_false,Bool.false_eq_true]
    omega
   ·have h4:¬ r.1≤v:=by omega
    simp only [h1,h4,h3,decide_true,decide_false,if_true,if_false,List.length_cons,Bool.false_eq_true]
    omega
theorem one_eq {v:Int}:∀ {R:List RowV},onceK R→∀ {X:FV},(v,X)∈R→(R.filter fun r=>decide (r.1=v)).length=1
 | [],_,X,h=>by simp at h
 | r :: R,hK,X,h=>by
  have h1:=List.pairwise_cons.1 hK
  simp only [List.filter_cons]
  by_cases e:r.1=v
  ·have h2:R.filter (fun r=>decide (r.1=v))=[]:=List.filter_eq_nil_iff.2 fun s hs=>by
    have:=h1.1 s hs
    simp
    omega
   simp [e,h2]
  ·rcases List.mem_cons.1 h with rfl | h
   ·exact absurd rfl e
   ·have:=one_eq h1.2 h
    simp [e,this]
theorem leL_more {R:List RowV} {x:Int} (h:leL R x < R.length):∃ r∈R,x < r.1:=by
 by_cases hc:∃ r∈R,x < r.1
 ·exact hc
 ·exfalso
  have:R.filter (fun r=>decide (r.1≤x))=R:=List.filter_eq_self.2 fun r hr=>by
   have:¬ x < r.1:=fun h=>hc ⟨r,hr,h⟩
   simp
   omega
  unfold leL at h
  rw [this] at h
  omega
theorem leL_all {R:List RowV} {x:Int} (h:R.length≤leL R x):∀ r∈R,r.1≤x:=by
 intro r hr
 unfold leL at h
 have h1:=(List.filter_sublist (p:=fun r:RowV=>decide (r.1≤x)) (l:=R)).eq_of_length_le h
 rw [←h1] at hr
 simpa using (List.mem_filter.1 hr).2
theorem onceK_tb {R:List RowV}:onceK (tb R)↔onceK R:=by
 unfold onceK tb
 rw [List.pairwise_map]
structure SoS (R S:List RowV) (last:Int):Prop where
 rise:rising S
 upto:∀ p∈S,p.1≤last
 says:∀ v,(lk S v).map FV.fo=if v≤last then (lk (tb R) v).map nfm else none
 len:S.length=leL R last
theorem SoS.start {R:List RowV} (h:∀ r∈R,0≤r.1):SoS R [] (-1):=by
 refine ⟨List.Pairwise.nil,fun p hp=>absurd hp (by simp),fun v=>?_,?_⟩
 ·split
  ·have:lk (tb R) v=none:=lk_none.2 fun r hr=>by
    obtain ⟨s,hs,rfl⟩:=List.mem_map.1 hr
    have:=h s hs
    simp only
    omega
   rw [this]
   rfl
  ·rfl
 ·unfold leL
  rw [List.filter_eq_nil_iff.2 fun r hr=>by have:=h r hr;simp;omega]
theorem SoS.step {R S:List RowV} {last:Int} (h:SoS R S last) (hK:onceK (tb R)) {v:Int} {X F:FV} (hm:(v,X)∈R) (hv:last < v) (hmin:∀ r∈R,last < r.1→v≤r.1) (he:F.fo=nfm X.fo):SoS R (S ++ [(v,F)]) v:=by
 refine ⟨List.pairwise_append.2 ⟨h.rise,by simp,fun a ha b hb=>by rw [List.mem_singleton.1 hb];have:=h.upto a ha;simp only;omega⟩,fun p hp=>?_,fun u=>?_,?_⟩
 ·rcases List.mem_append.1 hp with hp | hp
  ·have:=h.upto p hp;omega
  ·rw [List.mem_singleton.1 hp];exact Int.le_refl _
 ·rw [lk_append]
  have hs:=h.says u
  have hone:lk [(v,F)] u=if v=u then some F else none:=rfl
  by_cases h1:u≤last
  ·rw [if_pos h1] at hs
   rw [if_pos (by omega),hone,if_neg (by omega)]
   cases hl:lk S u <;> rw [hl] at hs <;> rw [←hs] <;> rfl
  ·rw [if_neg h1] at hs
   have hl:lk S u=none:=by cases hl:lk S u with | none=>rfl | some z=>rw [hl] at hs;cases hs
   rw [hl,hone]
   by_cases h2:v=u
   ·subst h2
    rw [if_pos rfl,if_pos (Int.le_refl _),lk_of_mem hK (List.mem_map.2 ⟨_,hm,rfl⟩)]
    show some F.fo=some (nfm X.fo)
    rw [he]
   ·rw [if_neg h2]
    by_cases h3:u≤v
    ·rw [if_pos h3]
     have:lk (tb R) u=none:=lk_none.2 fun r hr e=>by
      obtain ⟨s,hs2,rfl⟩:=List.mem_map.1 hr
      have:=hmin s hs2
      simp only at e
      omega
     rw [this]
     rfl
    ·rw [if_neg h3]
     rfl
 ·rw [List.length_append,leL_add hv hmin,one_eq (onceK_tb.1 hK) hm,h.len]
  simp
theorem SoS.done {R S:List RowV} {last:Int} (h:SoS R S last) (hl:R.length≤S.length):NrmT (tb R) (tb S):=by
 rw [h.len] at hl
 have ha:=leL_all hl
 refine ⟨by unfold rising tb;exact List.pairwise_map.2 h.rise,fun v=>?_⟩
 rw [tb_lk,h.says v]
 by_cases h1:v≤last
 ·rw [if_pos h1]
 ·rw [if_neg h1]
  have:lk (tb R) v=none:=lk_none.2 fun r hr e=>by
   obtain ⟨s,hs,rfl⟩:=List.mem_map.1 hr
   have:=ha s hs
   simp only at e
   omega
  rw [this]
  rfl
def InS (R:List RowV) (last:Int) (i:Nat) (at_:Int):Prop :=
 (at_ = -1∧∀ j r,j < i→R[j]?=some r→r.1≤last)∨∃ (m:Nat) (s:RowV),at_=(m:Int)∧R[m]?=some s∧last < s.1∧∀ j r,j < i→R[j]?=some r→last < r.1→s.1≤r.1
theorem InS.low {R:List RowV} {last at_:Int} {i:Nat} (h:InS R last i at_) {r:RowV} (hr:R[i]?=some r) (hv:r.1≤last):InS R last (i+1) at_:=by
 rcases h with ⟨h1,h2⟩ | ⟨m,s,h1,h2,h3,h4⟩
 ·refine Or.inl ⟨h1,fun j q hj hq=>?_⟩
  by_cases e:j=i
  ·subst e;rw [hr] at hq;cases hq;exact hv
  ·exact h2 j q (by omega) hq
 ·refine Or.inr ⟨m,s,h1,h2,h3,fun j q hj hq hl=>?_⟩
  by_cases e:j=i
  ·subst e;rw [hr] at hq;cases hq;omega
  ·exact h4 j q (by omega) hq hl
theorem InS.keep {R:List RowV} {last:Int} {i m:Nat} {s:RowV} (h:InS R last i (m:Int)) (hs:R[m]?=some s) {r:RowV} (hr:R[i]?=some r) (hv:s.1≤r.1):InS R last (i+1) (m:Int):=by
 rcases h with ⟨h1,h2⟩ | ⟨m',s',h1,h2,h3,h4⟩
 ·omega
 ·obtain rfl:m=m':=by omega
  rw [hs] at h2
  cases h2
  refine Or.inr ⟨m,s,rfl,hs,h3,fun j q hj hq hl=>?_⟩
  by_cases e:j=i
  ·subst e;rw [hr] at hq;cases hq;exact hv
  ·exact h4 j q (by omega) hq hl
theorem InS.first {R:List RowV} {last:Int} {i:Nat} (h:InS R last i (-1)) {r:RowV} (hr:R[i]?=some r) (hv:last < r.1):InS R last (i+1) (i:Int):=by
 rcases h with ⟨h1,h2⟩ | ⟨m',s',h1,h2,h3,h4⟩
 ·refine Or.inr ⟨i,r,rfl,hr,hv,fun j q hj hq hl=>?_⟩
  by_cases e:j=i
  ·subst e;rw [hr] at hq;cases hq;exact Int.le_refl _
  ·have:=h2 j q (by omega) hq;omega
 ·omega
theorem InS.less {R:List RowV} {last:Int} {i m:Nat} {s:RowV} (h:InS R last i (m:Int)) (hs:R[m]?=some s) {r:RowV} (hr:R[i]?=some r) (hl0:last < r.1) (hv:r.1 < s.1):InS R last (i+1) (i:Int):=by
 rcases h with ⟨h1,h2⟩ | ⟨m',s',h1,h2,h3,h4⟩
 ·omega
 ·obtain rfl:m=m':=by omega
  rw [hs] at h2
  cases h2
  refine Or.inr ⟨i,r,rfl,hr,hl0,fun j q hj hq hl=>?_⟩
  by_cases e:j=i
  ·subst e;rw [hr] at hq;cases hq;exact Int.le_refl _
  ·have:=h4 j q (by omega) hq hl;omega
theorem ToI.congr {w w2:World} {q:Nat} {V:Int} {S S':List RowV} {k:Nat} {vo:Value} {wr:World} (h:ToI w w2 q V S k vo wr) (e:S.take k=S'.take k):ToI w w2 q V S' k vo wr:=⟨h.bel,h.but,by rw [←e];exact h.own,h.c0,h.c1,h.row⟩
def SoA (w:World) (V:Int) (R:List RowV) (e:Ending) (w':World):Prop:=∃ v S,e=.returned v∧TbA w V S v w'∧NrmT (tb R) (tb S)∧S.length=R.length
structure SoM (w w2:World) (q:Nat) (V:Int) (R:List RowV) (S:List RowV) (last:Int) (vo:Value) (wr:World):Prop where
 tol:ToI w w2 q V S S.length vo wr
 so:SoS R S last
 nk:∀ r∈S,r.2.nk wr∧r.2.frm w2.heap.size∧∀ b,vo.ownBlock=some b→r.2.off b
 wf:∀ r∈S,wfI r.1
theorem far1 {w:World} {q o b off:Nat} {u v:Value} (h:w.cell? ⟨b,off,none⟩=some v) (hne:b≠q):(w.setCell ⟨q,o,none⟩ u).cell? ⟨b,off,none⟩=some v:=(World.cell?_setCell_other _ _ _ _ (fun e=>hne (congrArg Addr.block e).symm)).trans h
theorem FV.nk.setq {w:World} {F:FV} {q o:Nat} {u:Value} (h:F.nk w) (hf:F.off q):F.nk (w.setCell ⟨q,o,none⟩ u) :=
 h.grown (row:=some q) ⟨rfl,rfl,rfl,by simp [World.setCell],fun i hi hne=>Below.heap_setCell _ _ _ _ (fun e=>hne (by rw [e]))⟩ fun g e=>by injection e with e;subst e;exact hf
theorem SoM.push {w w2:World} {q:Nat} {V:Int} {R S:List RowV} {last:Int} {vo:Value} {wr wB w9:World} (h:SoM w w2 q V R S last vo wr) (hq:w.heap.size≤q∧q < w2.heap.size) (hw:w.heap.size≤w2.heap.size) (hb:Below wr.heap.size wr wB)
  (hK:onceK (tb R)) {v:Int} {X F:FV} (hm:(v,X)∈R) (hv:last < v) (hmin:∀ r∈R,last < r.1→v≤r.1) (he:F.fo=nfm X.fo) (hF:F.nk wB) (hFf:F.frm wr.heap.size) (hwf:wfI v) {gb cap:Nat}
  (hown:w9.ownsRow w2.heap.size 65 2 (.slice (some ⟨gb,0,none⟩) (S.length+1) cap) (S.length+1) (cellsR S ++ cells2 (v,F))) (hg:wB.grownBy w9 vo.ownBlock) (hat:vo.ownBlock=some gb∨gb=wB.heap.size) :
  w9.cell? ⟨q,1,none⟩=some vo∧Row w9 q∧SoM w w2 q V R (S ++ [(v,F)]) v (.slice (some ⟨gb,0,none⟩) (S.length+1) cap) (w9.setCell ⟨q,1,none⟩ (.slice (some ⟨gb,0,none⟩) (S.length+1) cap)):=by
 have hl:(S ++ [(v,F)]).length=S.length+1:=by simp
 have e1:(S ++ [(v,F)]).take S.length=S:=by simp
 have hat2:(S ++ [(v,F)])[S.length]?=some (v,F):=by simp
 obtain ⟨p1,p2,p3⟩:=(h.tol.congr (S':=S ++ [(v,F)]) (by rw [e1,List.take_length])).push hq hw hb hat2 (by rw [e1];exact hown) hg
 have hlt:=fun j (hj:vo.ownBlock=some j)=>h.tol.own.lt j hj
 have hsz:=h.tol.but.size
 have hall:∀ G:FV,G.nk wB→G.frm w2.heap.size→(∀ b,vo.ownBlock=some b→G.off b)→G.nk (w9.setCell ⟨q,1,none⟩ (.slice (some ⟨gb,0,none⟩) (S.length+1) cap))∧G.frm w2.heap.size∧∀ b,(Value.slice (some ⟨gb,0,none⟩) (S.length+1) cap).ownBlock=some b→G.off b:=by
  intro G hG hGf hGo
  refine ⟨(hG.grown hg hGo).setq (hGf.off hq.2),hGf,fun b hb2=>?_⟩
  have:gb=b:=by simpa [Value.ownBlock] using hb2
  subst this
  rcases hat with h | h
  ·exact hGo _ h
  ·exact hG.ok.off (by omega)
 refine ⟨p1,p2,by rw [hl];exact p3,h.so.step hK hm hv hmin he,fun r hr=>?_,fun r hr=>?_⟩
 ·rcases List.mem_append.1 hr with hr | hr
  ·obtain ⟨a1,a2,a3⟩:=h.nk r hr
   exact hall _ (a1.later hb) a2 a3
  ·rw [List.mem_singleton.1 hr]
   exact hall F hF (hFf.mono hsz) fun b hb2=>hFf.off (hlt b hb2).2
 ·rcases List.mem_append.1 hr with hr | hr
  ·exact h.wf r hr
  ·rw [List.mem_singleton.1 hr];exact hwf
set_option maxHeartbeats 16000000 in
set_option maxRecDepth 100000 in
theorem rsorted_is (V:Int) (a:Option Addr) (c:Nat) (R:List RowV) (w:World) (hT:TSm w a R) (hc:R.length≤c) (hmb:mayBe V (tb R)) :
  Calls Tryz.prog 50 #[.agg #[.int .i64 V,.slice a R.length c]] w (SoA w V R):=by
 obtain ⟨i0,hi0,hz0,hz1,hz2⟩:=info_parts info_Row
 obtain ⟨TQ,hTQ⟩:∃ TQ,SoA w V R=TQ:=⟨_,rfl⟩
 rw [hTQ]
 replace hTQ:=hide' hTQ
 have hlen:=hT.len
 have HK:=hide' hmb.once
 have H0:=hide' (show ∀ r∈R,0≤r.1 from fun r hr=>(hmb.basic (r.1,r.2.fo) (List.mem_map.2 ⟨r,hr,rfl⟩)).1)
 have GN:=hide' (fun r (hr:r∈R) w' (hb:Below w.heap.size w w')=>rNormN_is r.2 w' ((hT.form hr).later hb))
 have HAt:=hide' hT.tin.at_
 have HWf:=hide' hT.tin.wf
 clear hT hmb
 have b1:=below_alloc (w:=w) (.cells #[.int .i64 V,.slice a R.length c] 24)
 have b2:=below_alloc (w:=w.alloc (.cells #[.int .i64 V,.slice a R.length c] 24)) (.cells #[.int .i64 0,.slice none 0 0] 24)
 have b3:=below_alloc (w:=(w.alloc (.cells #[.int .i64 V,.slice a R.length c] 24)).alloc (.cells #[.int .i64 0,.slice none 0 0] 24)) (.cells #[.int .i64 V,.slice none 0 0] 24)
 have hsz:(((w.alloc (.cells #[.int .i64 V,.slice a R.length c] 24)).alloc (.cells #[.int .i64 0,.slice none 0 0] 24)).alloc (.cells #[.int .i64 V,.slice none 0 0] 24)).heap.size=w.heap.size+1+1+1:=by simp
 have m0:(((w.alloc (.cells #[.int .i64 V,.slice a R.length c] 24)).alloc (.cells #[.int .i64 0,.slice none 0 0] 24)).alloc (.cells #[.int .i64 V,.slice none 0 0] 24)).cell? ⟨w.heap.size,0,none⟩=some (.int .i64 V):=by go_simp
 have m1:(((w.alloc (.cells #[.int .i64 V,.slice a R.length c] 24)).alloc (.cells #[.int .i64 0,.slice none 0 0] 24)).alloc (.cells #[.int .i64 V,.slice none 0 0] 24)).cell? ⟨w.heap.size,1,none⟩=some (.slice a R.length c):=by go_simp
 have z0:(((w.alloc (.cells #[.int .i64 V,.slice a R.length c] 24)).alloc (.cells #[.int .i64 0,.slice none 0 0] 24)).alloc (.cells #[.int .i64 V,.slice none 0 0] 24)).cell? ⟨w.heap.size+1,0,none⟩=some (.int .i64 0):=by go_simp
 have z1:(((w.alloc (.cells #[.int .i64 V,.slice a R.length c] 24)).alloc (.cells #[.int .i64 0,.slice none 0 0] 24)).alloc (.cells #[.int .i64 V,.slice none 0 0] 24)).cell? ⟨w.heap.size+1,1,none⟩=some (.slice none 0 0):=by go_simp
 have c0:(((w.alloc (.cells #[.int .i64 V,.slice a R.length c] 24)).alloc (.cells #[.int .i64 0,.slice none 0 0] 24)).alloc (.cells #[.int .i64 V,.slice none 0 0] 24)).cell? ⟨w.heap.size+1+1,0,none⟩=some (.int .i64 V):=by go_simp
 have c1:(((w.alloc (.cells #[.int .i64 V,.slice a R.length c] 24)).alloc (.cells #[.int .i64 0,.slice none 0 0] 24)).alloc (.cells #[.int .i64 V,.slice none 0 0] 24)).cell? ⟨w.heap.size+1+1,1,none⟩=some (.slice none 0 0):=by go_simp
 have rz:Row (((w.alloc (.cells #[.int .i64 V,.slice a R.length c] 24)).alloc (.cells #[.int .i64 0,.slice none 0 0] 24)).alloc (.cells #[.int .i64 V,.slice none 0 0] 24)) (w.heap.size+1):=by have:=below_row b3 (row_new (w.alloc (.cells #[.int .i64 V,.slice a R.length c] 24)) #[.int .i64 0,.slice none 0 0] 24);simpa using this
 have rq:Row (((w.alloc (.cells #[.int .i64 V,.slice a R.length c] 24)).alloc (.cells #[.int .i64 0,.slice none 0 0] 24)).alloc (.cells #[.int .i64 V,.slice none 0 0] 24)) (w.heap.size+1+1):=by have:=row_new ((w.alloc (.cells #[.int .i64 V,.slice a R.length c] 24)).alloc (.cells #[.int .i64 0,.slice none 0 0] 24)) #[.int .i64 V,.slice none 0 0] 24;simpa using this
 have hBw:=b1.trans ((b2.trans (b3.mono b2.size)).mono b1.size)
 clear b1 b2 b3
 go_enter Tryz.func50,Tryz.ntmps50
 go_wp2_with fail
 obtain ⟨w2,hw2⟩:∃ w2,(((w.alloc (.cells #[.int .i64 V,.slice a R.length c] 24)).alloc (.cells #[.int .i64 0,.slice none 0 0] 24)).alloc (.cells #[.int .i64 V,.slice none 0 0] 24))=w2:=⟨_,rfl⟩
 rw [hw2] at m0 m1 z0 z1 c0 c1 rz rq hBw hsz ⊢
 clear hw2
 obtain ⟨q,hq⟩:∃ q,w.heap.size+1+1=q:=⟨_,rfl⟩
 rw [hq] at c0 c1 rq hsz
 try rw [hq]
 obtain ⟨rb,hrb⟩:∃ rb,w.heap.size+1=rb:=⟨_,rfl⟩
 rw [hrb] at z0 z1 rz hq
 try rw [hrb]
 have HQ:=hide' (show (w.heap.size≤q∧q < w2.heap.size)∧w.heap.size≤w2.heap.size∧w.heap.size≠q∧w.heap.size≤rb∧rb≠q∧rb < w2.heap.size by omega)
 clear hq hrb hsz
 have I0:SoM w w2 q V R [] (-1) (.slice none 0 0) w2:=⟨⟨hBw,But.refl _ _,World.ownsRow_nil _ _ _ _,c0,c1,rq⟩,SoS.start H0.out,fun r hr=>absurd hr (by simp),fun r hr=>absurd hr (by simp)⟩
 have HZ:=hide' (show w2.cell? ⟨rb,0,none⟩=some (.int .i64 0)∧w2.cell? ⟨rb,1,none⟩=some (.slice none 0 0)∧Row w2 rb from ⟨z0,z1,rz⟩)
 have HM0:=hide' m0
 have HM1:=hide' m1
 clear c0 c1 rq z0 z1 rz hBw H0 m0 m1
 go_loopg [4] R.length (fun n vl wr=>∃ (last:Int) (S:List RowV) (vo:Value),n=R.length - S.length∧vl=.int .i64 last∧SoM w w2 q V R S last vo wr)
 case atStart=>exact ⟨-1,[],_,by simp,rfl,I0⟩
 case round =>
  clear I0
  obtain ⟨last,S,vo,hn,rfl,hI⟩:=hrel
  have HN:=hide' hn
  clear hn
  have hown:=hI.tol.own
  have eS:S.take S.length=S:=List.take_length
  rw [eS] at hown
  clear eS
  obtain ⟨ar,cr,rfl,hcr,hcm,hTA⟩:=own_tab hown
  have c0:=hI.tol.c0
  have c1:=hI.tol.c1
  have m0:=hI.tol.but.cell HM0.out HQ.out.2.2.1
  have m1:=hI.tol.but.cell HM1.out HQ.out.2.2.1
  have hBr:=hI.tol.bel
  have hSl:S.length≤R.length:=by rw [hI.so.len];exact List.length_filter_le _ _
  by_cases hlt:S.length < R.length
  ·have j0:(S.length:Int) < (R.length:Int):=by omega
   have HMo:=hide' (leL_more (x:=last) (by rw [←hI.so.len];exact hlt))
   have HI:=hide' hI
   have HOwn:=hide' hown
   clear hI hTA hown
   go_wp2_with fail
   obtain ⟨wo,rfl⟩:∃ wo,wo=wr:=⟨_,rfl⟩
   go_loopw [5,6] (fun va vi wq=>∃ (i:Nat) (at_:Int),i≤R.length∧vi=.int .i64 i∧va=.int .i64 at_∧InS R last i at_∧Below wo.heap.size wo wq) (fun _ vi _=>R.length - (intOf vi).toNat)
   case atStart=>exact ⟨0,-1,Nat.zero_le _,rfl,rfl,Or.inl ⟨rfl,fun j r hj=>absurd hj (by omega)⟩,Below.refl _ _⟩
   case round =>
    skip
    obtain ⟨i,at_,hi,rfl,rfl,hS,hBq⟩:=hrel
    have hBr2:=hBr.trans (hBq.mono hBr.size)
    replace m0:=below_cell hBq m0
    replace m1:=below_cell hBq m1
    have HS:=hide' hS
    by_cases hil:i < R.length
    ·obtain ⟨r,hr⟩:∃ r,R[i]?=some r:=⟨R[i],List.getElem?_eq_getElem hil⟩
     obtain ⟨bb,off,rfl,hbb,hcell⟩:=HAt.out (by intro e;rw [e] at hil;simp at hil)
     have d0:=below_cell hBr2 (hcell i r hr).1
     have i1:(0:Int)≤(i:Int):=by omega
     have i2:(i:Int) < (R.length:Int):=by omega
     by_cases hv:r.1≤last
     ·have HX:=hide' (hS.low hr hv)
      obtain ⟨x,X⟩:=r
      simp only at d0 hv
      have hv1:¬ last < x:=by omega
      have hv2:(last < x)=False:=eq_false hv1
      clear hS hr hcell HS GN
      go_wp2_with fail
      have bD:Below wr.heap.size wr wr.drew:=(Below.refl _ _).drew
      have km0:=below_cell bD m0
      have km1:=below_cell bD m1
      have kd0:=below_cell bD d0
      replace hBq:=hBq.trans (bD.mono hBq.size)
      refine wp_region_held_drew (S:=fun w'=>w'.cell? ⟨w.heap.size,0,none⟩=some (.int .i64 V)∧w'.cell? ⟨w.heap.size,1,none⟩=some (.slice (some ⟨bb,off,none⟩) R.length c)∧w'.cell? ⟨bb,off+i*2,none⟩=some (.int .i64 x)) (by kernel_rfl) ⟨km0,km1,kd0⟩ (fun hHeld=>?_)
      clear km0 km1 kd0
      generalize wr.drew=w4 at bD hBq hHeld ⊢
      clear m0 m1 d0
      refine tk 0 (v:=?_) rfl (Or.inl ⟨by rfl,?_⟩) ?_
      rotate_left
      ·intro w9 hSw
       go_simp
       first | done | with_reducible rfl
      simp only [pP,pN,pS,pZ,pC]
      refine tk 1 (v:=?_) rfl (Or.inl ⟨by rfl,?_⟩) ?_
      rotate_left
      ·intro w9 hSw
       go_simp
       first | done | with_reducible rfl
      simp only [pP,pN,pS,pZ,pC]
      refine tk 2 (v:=?_) rfl (Or.inl ⟨by rfl,?_⟩) ?_
      rotate_left
      ·intro w9 hSw
       go_simp
       first | done | with_reducible rfl
      simp only [pP,pN,pS,pZ,pC]
      refine tk 3 (v:=?_) rfl (Or.inl ⟨by rfl,?_⟩) ?_
      rotate_left
      ·intro w9 hSw
       go_simp
       first | done | with_reducible rfl
      simp only [pP,pN,pS,pZ,pC]
      refine tk 4 (v:=?_) rfl (Or.inl ⟨by rfl,?_⟩) ?_
      rotate_left
      ·intro w9 hSw
       go_simp
       first | done | with_reducible rfl
      simp only [pP,pN,pS,pZ,pC]
      refine tk 5 (v:=?_) rfl (Or.inl ⟨by rfl,?_⟩) ?_
      rotate_left
      ·intro w9 hSw
       go_simp
       first | done | with_reducible rfl
      simp only [pP,pN,pS,pZ,pC]
      refine tk 6 (v:=?_) rfl (Or.inl ⟨by rfl,?_⟩) ?_
      rotate_left
      ·intro w9 hSw
       go_simp
       first | done | with_reducible rfl
      simp only [pP,pN,pS,pZ,pC]
      refine tk 7 (v:=?_) rfl (Or.inl ⟨by rfl,?_⟩) ?_
      rotate_left
      ·intro w9 hSw
       go_simp
       first | done | with_reducible rfl
      simp only [pP,pN,pS,pZ,pC]
      refine tk 8 (v:=?_) rfl (Or.inl ⟨by rfl,?_⟩) ?_
      rotate_left
      ·intro w9 hSw
       go_simp
       first | done | with_reducible rfl
      simp only [pP,pN,pS,pZ,pC]
      refine tk 9 (v:=undef) rfl (Or.inr ⟨by rfl,rfl⟩) ?_
      simp only [pP,pN,pS,pZ,pC]
      refine tk 10 (v:=undef) rfl (Or.inr ⟨by rfl,rfl⟩) ?_
      simp only [pP,pN,pS,pZ,pC]
      refine tk 11 (v:=undef) rfl (Or.inr ⟨by rfl,rfl⟩) ?_
      simp only [pP,pN,pS,pZ,pC]
      refine tk 12 (v:=undef) rfl (Or.inr ⟨by rfl,rfl⟩) ?_
      simp only [pP,pN,pS,pZ,pC]
      refine tk 13 (v:=undef) rfl (Or.inr ⟨by rfl,rfl⟩) ?_
      simp only [pP,pN,pS,pZ,pC]
      refine tk 14 (v:=undef) rfl (Or.inr ⟨by rfl,rfl⟩) ?_
      simp only [pP,pN,pS,pZ,pC]
      refine tk 15 (v:=undef) rfl (Or.inr ⟨by rfl,rfl⟩) ?_
      simp only [pP,pN,pS,pZ,pC]
      refine tk 16 (v:=undef) rfl (Or.inr ⟨by rfl,rfl⟩) ?_
      simp only [pP,pN,pS,pZ,pC]
      refine tk 17 (v:=undef) rfl (Or.inr ⟨by rfl,rfl⟩) ?_
      simp only [pP,pN,pS,pZ,pC]
      refine tk 18 (v:=undef) rfl (Or.inr ⟨by rfl,rfl⟩) ?_
      simp only [pP,pN,pS,pZ,pC]
      refine tk 19 (v:=undef) rfl (Or.inr ⟨by rfl,rfl⟩) ?_
      simp only [pP,pN,pS,pZ,pC]
      refine tk 20 (v:=undef) rfl (Or.inr ⟨by rfl,rfl⟩) ?_
      simp only [pP,pN,pS,pZ,pC]
      refine tk 21 (v:=undef) rfl (Or.inr ⟨by rfl,rfl⟩) ?_
      simp only [pP,pN,pS,pZ,pC]
      refine tk 22 (v:=undef) rfl (Or.inr ⟨by rfl,rfl⟩) ?_
      simp only [pP,pN,pS,pZ,pC]
      refine tk 23 (v:=undef) rfl (Or.inr ⟨by rfl,rfl⟩) ?_
      simp only [pP,pN,pS,pZ,pC]
      refine tk 24 (v:=undef) rfl (Or.inr ⟨by rfl,rfl⟩) ?_
      simp only [pP,pN,pS,pZ,pC]
      refine tk 25 (v:=undef) rfl (Or.inr ⟨by rfl,rfl⟩) ?_
      simp only [pP,pN,pS,pZ,pC]
      refine tk 26 (v:=?_) rfl (Or.inl ⟨by rfl,?_⟩) ?_
      rotate_left
      ·intro w9 hSw
       go_simp
       first | done | with_reducible rfl
      simp only [pP,pN,pS,pZ,pC]
      refine wpAnyH_done (by kernel_rfl) ?_ _
      go_wp2
      go_roundw
      case rel=>exact ⟨i+1,_,by omega,by go_num,rfl,HX.out,hBq⟩
      case measure=>simp only [intOf];omega
     ·obtain ⟨x,X⟩:=r
      simp only at d0 hv
      have hv1:last < x:=by omega
      by_cases hneg:at_ < 0
      ·obtain rfl:at_ = -1:=by rcases hS with ⟨h1,_⟩ | ⟨m,s9,h1,_⟩ <;> omega
       have HX:=hide' (hS.first hr hv1)
       clear hS hr hcell HS GN hneg
       go_wp2_with fail
       have bD:Below wr.heap.size wr wr.drew:=(Below.refl _ _).drew
       have km0:=below_cell bD m0
       have km1:=below_cell bD m1
       have kd0:=below_cell bD d0
       replace hBq:=hBq.trans (bD.mono hBq.size)
       refine wp_region_held_drew (S:=fun w'=>w'.cell? ⟨w.heap.size,0,none⟩=some (.int .i64 V)∧w'.cell? ⟨w.heap.size,1,none⟩=some (.slice (some ⟨bb,off,none⟩) R.length c)∧w'.cell? ⟨bb,off+i*2,none⟩=some (.int .i64 x)) (by kernel_rfl) ⟨km0,km1,kd0⟩ (fun hHeld=>?_)
       clear km0 km1 kd0
       generalize wr.drew=w4 at bD hBq hHeld ⊢
       clear m0 m1 d0
       refine tk 0 (v:=?_) rfl (Or.inl ⟨by rfl,?_⟩) ?_
       rotate_left
       ·intro w9 hSw
        go_simp
        first | done | with_reducible rfl
       simp only [pP,pN,pS,pZ,pC]
       refine tk 1 (v:=?_) rfl (Or.inl ⟨by rfl,?_⟩) ?_
       rotate_left
       ·intro w9 hSw
        go_simp
        first | done | with_reducible rfl
       simp only [pP,pN,pS,pZ,pC]
       refine tk 2 (v:=?_) rfl (Or.inl ⟨by rfl,?_⟩) ?_
       rotate_left
       ·intro w9 hSw
        go_simp
        first | done | with_reducible rfl
       simp only [pP,pN,pS,pZ,pC]
       refine tk 3 (v:=?_) rfl (Or.inl ⟨by rfl,?_⟩) ?_
       rotate_left
       ·intro w9 hSw
        go_simp
        first | done | with_reducible rfl
       simp only [pP,pN,pS,pZ,pC]
       refine tk 4 (v:=?_) rfl (Or.inl ⟨by rfl,?_⟩) ?_
       rotate_left
       ·intro w9 hSw
        go_simp
        first | done | with_reducible rfl
       simp only [pP,pN,pS,pZ,pC]
       refine tk 5 (v:=?_) rfl (Or.inl ⟨by rfl,?_⟩) ?_
       rotate_left
       ·intro w9 hSw
        go_simp
        first | done | with_reducible rfl
       simp only [pP,pN,pS,pZ,pC]
       refine tk 6 (v:=?_) rfl (Or.inl ⟨by rfl,?_⟩) ?_
       rotate_left
       ·intro w9 hSw
        go_simp
        first | done | with_reducible rfl
       simp only [pP,pN,pS,pZ,pC]
       refine tk 7 (v:=?_) rfl (Or.inl ⟨by rfl,?_⟩) ?_
       rotate_left
       ·intro w9 hSw
        go_simp
        first | done | with_reducible rfl
       simp only [pP,pN,pS,pZ,pC]
       refine tk 8 (v:=?_) rfl (Or.inl ⟨by rfl,?_⟩) ?_
       rotate_left
       ·intro w9 hSw
        go_simp
        first | done | with_reducible rfl
       simp only [pP,pN,pS,pZ,pC]
       refine tk 9 (v:=?_) rfl (Or.inl ⟨by rfl,?_⟩) ?_
       rotate_left
       ·intro w9 hSw
        go_simp
        first | done | with_reducible rfl
       simp only [pP,pN,pS,pZ,pC]
       refine tk 10 (v:=?_) rfl (Or.inl ⟨by rfl,?_⟩) ?_
       rotate_left
       ·intro w9 hSw
        go_simp
        first | done | with_reducible rfl
       simp only [pP,pN,pS,pZ,pC]
       refine tk 11 (v:=?_) rfl (Or.inl ⟨by rfl,?_⟩) ?_
       rotate_left
       ·intro w9 hSw
        go_simp
        first | done | with_reducible rfl
       simp only [pP,pN,pS,pZ,pC]
       refine tk 12 (v:=undef) rfl (Or.inr ⟨by rfl,rfl⟩) ?_
       simp only [pP,pN,pS,pZ,pC]
       refine tk 13 (v:=undef) rfl (Or.inr ⟨by rfl,rfl⟩) ?_
       simp only [pP,pN,pS,pZ,pC]
       refine tk 14 (v:=undef) rfl (Or.inr ⟨by rfl,rfl⟩) ?_
       simp only [pP,pN,pS,pZ,pC]
       refine tk 15 (v:=undef) rfl (Or.inr ⟨by rfl,rfl⟩) ?_
       simp only [pP,pN,pS,pZ,pC]
       refine tk 16 (v:=undef) rfl (Or.inr ⟨by rfl,rfl⟩) ?_
       simp only [pP,pN,pS,pZ,pC]
       refine tk 17 (v:=undef) rfl (Or.inr ⟨by rfl,rfl⟩) ?_
       simp only [pP,pN,pS,pZ,pC]
       refine tk 18 (v:=undef) rfl (Or.inr ⟨by rfl,rfl⟩) ?_
       simp only [pP,pN,pS,pZ,pC]
       refine tk 19 (v:=undef) rfl (Or.inr ⟨by rfl,rfl⟩) ?_
       simp only [pP,pN,pS,pZ,pC]
       refine tk 20 (v:=undef) rfl (Or.inr ⟨by rfl,rfl⟩) ?_
       simp only [pP,pN,pS,pZ,pC]
       refine tk 21 (v:=undef) rfl (Or.inr ⟨by rfl,rfl⟩) ?_
       simp only [pP,pN,pS,pZ,pC]
       refine tk 22 (v:=undef) rfl (Or.inr ⟨by rfl,rfl⟩) ?_
       simp only [pP,pN,pS,pZ,pC]
       refine tk 23 (v:=undef) rfl (Or.inr ⟨by rfl,rfl⟩) ?_
       simp only [pP,pN,pS,pZ,pC]
       refine tk 24 (v:=undef) rfl (Or.inr ⟨by rfl,rfl⟩) ?_
       simp only [pP,pN,pS,pZ,pC]
       refine tk 25 (v:=?_) rfl (Or.inl ⟨by rfl,?_⟩) ?_
       rotate_left
       ·intro w9 hSw
        go_simp
        first | done | with_reducible rfl
       simp only [pP,pN,pS,pZ,pC]
       refine tk 26 (v:=?_) rfl (Or.inl ⟨by rfl,?_⟩) ?_
       rotate_left
       ·intro w9 hSw
        go_simp
        first | done | with_reducible rfl
       simp only [pP,pN,pS,pZ,pC]
       refine wpAnyH_done (by kernel_rfl) ?_ _
       go_wp2
       go_roundw
       case rel=>exact ⟨i+1,_,by omega,by go_num,rfl,HX.out,hBq⟩
       case measure=>simp only [intOf];omega
      ·obtain ⟨m,s9,rfl,hs9,hl9,_⟩:∃ (m:Nat) (s9:RowV),at_=(m:Int)∧R[m]?=some s9∧last < s9.1∧True:=by
        rcases hS with ⟨h1,_⟩ | ⟨m,s9,h1,h2,h3,_⟩
        ·omega
        ·exact ⟨m,s9,h1,h2,h3,trivial⟩
       have e0:=below_cell hBr2 (hcell m s9 hs9).1
       have hml:m < R.length:=(List.getElem?_eq_some_iff.1 hs9).1
       have i3:(0:Int)≤(m:Int):=by omega
       have i4:(m:Int) < (R.length:Int):=by omega
       have i5:((m:Int) < 0)=False:=eq_false (by omega)
       obtain ⟨y,Y⟩:=s9
       simp only at e0 hl9
       by_cases hxy:x < y
       ·have HX:=hide' (hS.less hs9 hr hv1 hxy)
        clear hS hr hs9 hcell HS GN hneg
        go_wp2_with fail
        have bD:Below wr.heap.size wr wr.drew:=(Below.refl _ _).drew
        have km0:=below_cell bD m0
        have km1:=below_cell bD m1
        have kd0:=below_cell bD d0
        have ke0:=below_cell bD e0
        replace hBq:=hBq.trans (bD.mono hBq.size)
        refine wp_region_held_drew (S:=fun w'=>w'.cell? ⟨w.heap.size,0,none⟩=some (.int .i64 V)∧w'.cell? ⟨w.heap.size,1,none⟩=some (.slice (some ⟨bb,off,none⟩) R.length c)∧w'.cell? ⟨bb,off+i*2,none⟩=some (.int .i64 x)∧w'.cell? ⟨bb,off+m*2,none⟩=some (.int .i64 y)) (by kernel_rfl) ⟨km0,km1,kd0,ke0⟩ (fun hHeld=>?_)
        clear km0 km1 kd0 ke0
        generalize wr.drew=w4 at bD hBq hHeld ⊢
        clear m0 m1 d0 e0
        refine tk 0 (v:=?_) rfl (Or.inl ⟨by rfl,?_⟩) ?_
        rotate_left
        ·intro w9 hSw
         go_simp
         first | done | with_reducible rfl
        simp only [pP,pN,pS,pZ,pC]
        refine tk 1 (v:=?_) rfl (Or.inl ⟨by rfl,?_⟩) ?_
        rotate_left
        ·intro w9 hSw
         go_simp
         first | done | with_reducible rfl
        simp only [pP,pN,pS,pZ,pC]
        refine tk 2 (v:=?_) rfl (Or.inl ⟨by rfl,?_⟩) ?_
        rotate_left
        ·intro w9 hSw
         go_simp
         first | done | with_reducible rfl
        simp only [pP,pN,pS,pZ,pC]
        refine tk 3 (v:=?_) rfl (Or.inl ⟨by rfl,?_⟩) ?_
        rotate_left
        ·intro w9 hSw
         go_simp
         first | done | with_reducible rfl
        simp only [pP,pN,pS,pZ,pC]
        refine tk 4 (v:=?_) rfl (Or.inl ⟨by rfl,?_⟩) ?_
        rotate_left
        ·intro w9 hSw
         go_simp
         first | done | with_reducible rfl
        simp only [pP,pN,pS,pZ,pC]
        refine tk 5 (v:=?_) rfl (Or.inl ⟨by rfl,?_⟩) ?_
        rotate_left
        ·intro w9 hSw
         go_simp
         first | done | with_reducible rfl
        simp only [pP,pN,pS,pZ,pC]
        refine tk 6 (v:=?_) rfl (Or.inl ⟨by rfl,?_⟩) ?_
        rotate_left
        ·intro w9 hSw
         go_simp
         first | done | with_reducible rfl
        simp only [pP,pN,pS,pZ,pC]
        refine tk 7 (v:=?_) rfl (Or.inl ⟨by rfl,?_⟩) ?_
        rotate_left
        ·intro w9 hSw
         go_simp
         first | done | with_reducible rfl
        simp only [pP,pN,pS,pZ,pC]
        refine tk 8 (v:=?_) rfl (Or.inl ⟨by rfl,?_⟩) ?_
        rotate_left
        ·intro w9 hSw
         go_simp
         first | done | with_reducible rfl
        simp only [pP,pN,pS,pZ,pC]
        refine tk 9 (v:=?_) rfl (Or.inl ⟨by rfl,?_⟩) ?_
        rotate_left
        ·intro w9 hSw
         go_simp
         first | done | with_reducible rfl
        simp only [pP,pN,pS,pZ,pC]
        refine tk 10 (v:=?_) rfl (Or.inl ⟨by rfl,?_⟩) ?_
        rotate_left
        ·intro w9 hSw
         go_simp
         first | done | with_reducible rfl
        simp only [pP,pN,pS,pZ,pC]
        refine tk 11 (v:=?_) rfl (Or.inl ⟨by rfl,?_⟩) ?_
        rotate_left
        ·intro w9 hSw
         go_simp
         first | done | with_reducible rfl
        simp only [pP,pN,pS,pZ,pC]
        refine tk 12 (v:=?_) rfl (Or.inl ⟨by rfl,?_⟩) ?_
        rotate_left
        ·intro w9 hSw
         go_simp
         first | done | with_reducible rfl
        simp only [pP,pN,pS,pZ,pC]
        refine tk 13 (v:=?_) rfl (Or.inl ⟨by rfl,?_⟩) ?_
        rotate_left
        ·intro w9 hSw
         go_simp
         first | done | with_reducible rfl
        simp only [pP,pN,pS,pZ,pC]
        refine tk 14 (v:=?_) rfl (Or.inl ⟨by rfl,?_⟩) ?_
        rotate_left
        ·intro w9 hSw
         go_simp
         first | done | with_reducible rfl
        simp only [pP,pN,pS,pZ,pC]
        refine tk 15 (v:=?_) rfl (Or.inl ⟨by rfl,?_⟩) ?_
        rotate_left
        ·intro w9 hSw
         go_simp
         first | done | with_reducible rfl
        simp only [pP,pN,pS,pZ,pC]
        refine tk 16 (v:=?_) rfl (Or.inl ⟨by rfl,?_⟩) ?_
        rotate_left
        ·intro w9 hSw
         go_simp
         first | done | with_reducible rfl
        simp only [pP,pN,pS,pZ,pC]
        refine tk 17 (v:=?_) rfl (Or.inl ⟨by rfl,?_⟩) ?_
        rotate_left
        ·intro w9 hSw
         go_simp
         first | done | with_reducible rfl
        simp only [pP,pN,pS,pZ,pC]
        refine tk 18 (v:=?_) rfl (Or.inl ⟨by rfl,?_⟩) ?_
        rotate_left
        ·intro w9 hSw
         go_simp
         first | done | with_reducible rfl
        simp only [pP,pN,pS,pZ,pC]
        refine tk 19 (v:=?_) rfl (Or.inl ⟨by rfl,?_⟩) ?_
        rotate_left
        ·intro w9 hSw
         go_simp
         first | done | with_reducible rfl
        simp only [pP,pN,pS,pZ,pC]
        refine tk 20 (v:=?_) rfl (Or.inl ⟨by rfl,?_⟩) ?_
        rotate_left
        ·intro w9 hSw
         go_simp
         first | done | with_reducible rfl
        simp only [pP,pN,pS,pZ,pC]
        refine tk 21 (v:=?_) rfl (Or.inl ⟨by rfl,?_⟩) ?_
        rotate_left
        ·intro w9 hSw
         go_simp
         first | done | with_reducible rfl
        simp only [pP,pN,pS,pZ,pC]
        refine tk 22 (v:=?_) rfl (Or.inl ⟨by rfl,?_⟩) ?_
        rotate_left
        ·intro w9 hSw
         go_simp
         first | done | with_reducible rfl
        simp only [pP,pN,pS,pZ,pC]
        refine tk 23 (v:=?_) rfl (Or.inl ⟨by rfl,?_⟩) ?_
        rotate_left
        ·intro w9 hSw
         go_simp
         first | done | with_reducible rfl
        simp only [pP,pN,pS,pZ,pC]
        refine tk 24 (v:=?_) rfl (Or.inl ⟨by rfl,?_⟩) ?_
        rotate_left
        ·intro w9 hSw
         go_simp
         first | done | with_reducible rfl
        simp only [pP,pN,pS,pZ,pC]
        refine tk 25 (v:=?_) rfl (Or.inl ⟨by rfl,?_⟩) ?_
        rotate_left
        ·intro w9 hSw
         go_simp
         first | done | with_reducible rfl
        simp only [pP,pN,pS,pZ,pC]
        refine tk 26 (v:=?_) rfl (Or.inl ⟨by rfl,?_⟩) ?_
        rotate_left
        ·intro w9 hSw
         go_simp
         first | done | with_reducible rfl
        simp only [pP,pN,pS,pZ,pC]
        refine wpAnyH_done (by kernel_rfl) ?_ _
        go_wp2
        go_roundw
        case rel=>exact ⟨i+1,_,by omega,by go_num,rfl,HX.out,hBq⟩
        case measure=>simp only [intOf];omega
       ·have HX:=hide' (hS.keep hs9 hr (by simp only;omega))
        clear hS hr hs9 hcell HS GN hneg
        have hxy2:(x < y)=False:=eq_false hxy
        go_wp2_with fail
        have bD:Below wr.heap.size wr wr.drew:=(Below.refl _ _).drew
        have km0:=below_cell bD m0
        have km1:=below_cell bD m1
        have kd0:=below_cell bD d0
        have ke0:=below_cell bD e0
        replace hBq:=hBq.trans (bD.mono hBq.size)
        refine wp_region_held_drew (S:=fun w'=>w'.cell? ⟨w.heap.size,0,none⟩=some (.int .i64 V)∧w'.cell? ⟨w.heap.size,1,none⟩=some (.slice (some ⟨bb,off,none⟩) R.length c)∧w'.cell? ⟨bb,off+i*2,none⟩=some (.int .i64 x)∧w'.cell? ⟨bb,off+m*2,none⟩=some (.int .i64 y)) (by kernel_rfl) ⟨km0,km1,kd0,ke0⟩ (fun hHeld=>?_)
        clear km0 km1 kd0 ke0
        generalize wr.drew=w4 at bD hBq hHeld ⊢
        clear m0 m1 d0 e0
        refine tk 0 (v:=?_) rfl (Or.inl ⟨by rfl,?_⟩) ?_
        rotate_left
        ·intro w9 hSw
         go_simp
         first | done | with_reducible rfl
        simp only [pP,pN,pS,pZ,pC]
        refine tk 1 (v:=?_) rfl (Or.inl ⟨by rfl,?_⟩) ?_
        rotate_left
        ·intro w9 hSw
         go_simp
         first | done | with_reducible rfl
        simp only [pP,pN,pS,pZ,pC]
        refine tk 2 (v:=?_) rfl (Or.inl ⟨by rfl,?_⟩) ?_
        rotate_left
        ·intro w9 hSw
         go_simp
         first | done | with_reducible rfl
        simp only [pP,pN,pS,pZ,pC]
        refine tk 3 (v:=?_) rfl (Or.inl ⟨by rfl,?_⟩) ?_
        rotate_left
        ·intro w9 hSw
         go_simp
         first | done | with_reducible rfl
        simp only [pP,pN,pS,pZ,pC]
        refine tk 4 (v:=?_) rfl (Or.inl ⟨by rfl,?_⟩) ?_
        rotate_left
        ·intro w9 hSw
         go_simp
         first | done | with_reducible rfl
        simp only [pP,pN,pS,pZ,pC]
        refine tk 5 (v:=?_) rfl (Or.inl ⟨by rfl,?_⟩) ?_
        rotate_left
        ·intro w9 hSw
         go_simp
         first | done | with_reducible rfl
        simp only [pP,pN,pS,pZ,pC]
        refine tk 6 (v:=?_) rfl (Or.inl ⟨by rfl,?_⟩) ?_
        rotate_left
        ·intro w9 hSw
         go_simp
         first | done | with_reducible rfl
        simp only [pP,pN,pS,pZ,pC]
        refine tk 7 (v:=?_) rfl (Or.inl ⟨by rfl,?_⟩) ?_
        rotate_left
        ·intro w9 hSw
         go_simp
         first | done | with_reducible rfl
        simp only [pP,pN,pS,pZ,pC]
        refine tk 8 (v:=?_) rfl (Or.inl ⟨by rfl,?_⟩) ?_
        rotate_left
        ·intro w9 hSw
         go_simp
         first | done | with_reducible rfl
        simp only [pP,pN,pS,pZ,pC]
        refine tk 9 (v:=?_) rfl (Or.inl ⟨by rfl,?_⟩) ?_
        rotate_left
        ·intro w9 hSw
         go_simp
         first | done | with_reducible rfl
        simp only [pP,pN,pS,pZ,pC]
        refine tk 10 (v:=?_) rfl (Or.inl ⟨by rfl,?_⟩) ?_
        rotate_left
        ·intro w9 hSw
         go_simp
         first | done | with_reducible rfl
        simp only [pP,pN,pS,pZ,pC]
        refine tk 11 (v:=?_) rfl (Or.inl ⟨by rfl,?_⟩) ?_
        rotate_left
        ·intro w9 hSw
         go_simp
         first | done | with_reducible rfl
        simp only [pP,pN,pS,pZ,pC]
        refine tk 12 (v:=?_) rfl (Or.inl ⟨by rfl,?_⟩) ?_
        rotate_left
        ·intro w9 hSw
         go_simp
         first | done | with_reducible rfl
        simp only [pP,pN,pS,pZ,pC]
        refine tk 13 (v:=?_) rfl (Or.inl ⟨by rfl,?_⟩) ?_
        rotate_left
        ·intro w9 hSw
         go_simp
         first | done | with_reducible rfl
        simp only [pP,pN,pS,pZ,pC]
        refine tk 14 (v:=?_) rfl (Or.inl ⟨by rfl,?_⟩) ?_
        rotate_left
        ·intro w9 hSw
         go_simp
         first | done | with_reducible rfl
        simp only [pP,pN,pS,pZ,pC]
        refine tk 15 (v:=?_) rfl (Or.inl ⟨by rfl,?_⟩) ?_
        rotate_left
        ·intro w9 hSw
         go_simp
         first | done | with_reducible rfl
        simp only [pP,pN,pS,pZ,pC]
        refine tk 16 (v:=?_) rfl (Or.inl ⟨by rfl,?_⟩) ?_
        rotate_left
        ·intro w9 hSw
         go_simp
         first | done | with_reducible rfl
        simp only [pP,pN,pS,pZ,pC]
        refine tk 17 (v:=?_) rfl (Or.inl ⟨by rfl,?_⟩) ?_
        rotate_left
        ·intro w9 hSw
         go_simp
         first | done | with_reducible rfl
        simp only [pP,pN,pS,pZ,pC]
        refine tk 18 (v:=?_) rfl (Or.inl ⟨by rfl,?_⟩) ?_
        rotate_left
        ·intro w9 hSw
         go_simp
         first | done | with_reducible rfl
        simp only [pP,pN,pS,pZ,pC]
        refine tk 19 (v:=?_) rfl (Or.inl ⟨by rfl,?_⟩) ?_
        rotate_left
        ·intro w9 hSw
         go_simp
         first | done | with_reducible rfl
        simp only [pP,pN,pS,pZ,pC]
        refine tk 20 (v:=?_) rfl (Or.inl ⟨by rfl,?_⟩) ?_
        rotate_left
        ·intro w9 hSw
         go_simp
         first | done | with_reducible rfl
        simp only [pP,pN,pS,pZ,pC]
        refine tk 21 (v:=?_) rfl (Or.inl ⟨by rfl,?_⟩) ?_
        rotate_left
        ·intro w9 hSw
         go_simp
         first | done | with_reducible rfl
        simp only [pP,pN,pS,pZ,pC]
        refine tk 22 (v:=?_) rfl (Or.inl ⟨by rfl,?_⟩) ?_
        rotate_left
        ·intro w9 hSw
         go_simp
         first | done | with_reducible rfl
        simp only [pP,pN,pS,pZ,pC]
        refine tk 23 (v:=?_) rfl (Or.inl ⟨by rfl,?_⟩) ?_
        rotate_left
        ·intro w9 hSw
         go_simp
         first | done | with_reducible rfl
        simp only [pP,pN,pS,pZ,pC]
        refine tk 24 (v:=?_) rfl (Or.inl ⟨by rfl,?_⟩) ?_
        rotate_left
        ·intro w9 hSw
         go_simp
         first | done | with_reducible rfl
        simp only [pP,pN,pS,pZ,pC]
        refine tk 25 (v:=?_) rfl (Or.inl ⟨by rfl,?_⟩) ?_
        rotate_left
        ·intro w9 hSw
         go_simp
         first | done | with_reducible rfl
        simp only [pP,pN,pS,pZ,pC]
        refine tk 26 (v:=?_) rfl (Or.inl ⟨by rfl,?_⟩) ?_
        rotate_left
        ·intro w9 hSw
         go_simp
         first | done | with_reducible rfl
        simp only [pP,pN,pS,pZ,pC]
        refine wpAnyH_done (by kernel_rfl) ?_ _
        go_wp2
        go_roundw
        case rel=>exact ⟨i+1,_,by omega,by go_num,rfl,HX.out,hBq⟩
        case measure=>simp only [intOf];omega
    ·obtain rfl:i=R.length:=by omega
     have i9:¬ (R.length:Int) < (R.length:Int):=by omega
     obtain ⟨m,s9,rfl,hs9,hl9,hmin⟩:∃ (m:Nat) (s9:RowV),at_=(m:Int)∧R[m]?=some s9∧last < s9.1∧∀ r∈R,last < r.1→s9.1≤r.1:=by
       rcases hS with ⟨h1,h2⟩ | ⟨m,s9,h1,h2,h3,h4⟩
       ·obtain ⟨r,hr,hr2⟩:=HMo.out
        obtain ⟨k,hk,rfl⟩:=List.mem_iff_getElem.1 hr
        have:=h2 k _ hk (List.getElem?_eq_getElem hk)
        omega
       ·refine ⟨m,s9,h1,h2,h3,fun r hr hr2=>?_⟩
        obtain ⟨k,hk,rfl⟩:=List.mem_iff_getElem.1 hr
        exact h4 k _ hk (List.getElem?_eq_getElem hk) hr2
     have hml:m < R.length:=(List.getElem?_eq_some_iff.1 hs9).1
     have hsm:=List.mem_of_getElem? hs9
     obtain ⟨bb,off,rfl,hbb,hcell⟩:=HAt.out (by intro e;rw [e] at hml;simp at hml)
     obtain ⟨d0,d1⟩:=hcell m s9 hs9
     replace d0:=below_cell hBr2 d0
     replace d1:=below_cell hBr2 d1
     have G1:=hide' (GN.out s9 hsm)
     have hwx:=HWf.out s9 hsm
     have HOw:=HOwn
     have PU:=hide' (fun wB w9 (hb:Below wo.heap.size wo wB) F he hF hFf gb cap hown hg hat=>HI.out.push (wB:=wB) (w9:=w9) (gb:=gb) (cap:=cap) (X:=s9.2) (F:=F) HQ.out.1 HQ.out.2.1 hb HK.out (v:=s9.1) hsm hl9 hmin he hF hFf hwx hown hg hat)
     have hsb:=HI.out.tol.but.size
     have hlt9:=fun j hj=>(HOwn.out.lt j hj)
     have hbq:bb≠q∧w.heap.size≠q:=by have:=HQ.out;omega
     obtain ⟨x,X⟩:=s9
     obtain ⟨Xa,Xc,XL⟩:=X
     unfold FV.val at d1 G1
     simp only at d0 d1 G1 PU hwx
     have i1:(0:Int)≤(m:Int):=by omega
     have i2:(m:Int) < (R.length:Int):=by omega
     clear hcell hs9 hmin hS HS GN HAt hsm hl9
     go_wp2_with fail
     have bT:=hBq
     have bD:Below wr.heap.size wr wr.drew:=(Below.refl _ _).drew
     have km0:=below_cell bD m0
     have km1:=below_cell bD m1
     have kd0:=below_cell bD d0
     have kd1:=below_cell bD d1
     replace bT:=bT.trans (bD.mono bT.size)
     refine wp_region_held_drew (S:=fun w'=>w'.cell? ⟨w.heap.size,0,none⟩=some (.int .i64 V)∧w'.cell? ⟨w.heap.size,1,none⟩=some (.slice (some ⟨bb,off,none⟩) R.length c)∧w'.cell? ⟨bb,off+m*2,none⟩=some (.int .i64 x)∧w'.cell? ⟨bb,off+m*2+1,none⟩=some (.slice Xa XL.length Xc)) (by kernel_rfl) ⟨km0,km1,kd0,kd1⟩ (fun hHeld=>?_)
     clear km0 km1 kd0 kd1
     generalize wr.drew=w4 at bD bT hHeld ⊢
     clear bD m0 m1 d0 d1
     refine tk 0 (v:=?_) rfl (Or.inl ⟨by rfl,?_⟩) ?_
     rotate_left
     ·intro w9 hSw
      go_simp
      first | done | with_reducible rfl
     simp only [pP,pN,pS,pZ,pC]
     refine tk 2 (v:=?_) rfl (Or.inl ⟨by rfl,?_⟩) ?_
     rotate_left
     ·intro w9 hSw
      go_simp
      first | done | with_reducible rfl
     simp only [pP,pN,pS,pZ,pC]
     refine tk 3 (v:=?_) rfl (Or.inl ⟨by rfl,?_⟩) ?_
     rotate_left
     ·intro w9 hSw
      go_simp
      first | done | with_reducible rfl
     simp only [pP,pN,pS,pZ,pC]
     refine tk 4 (v:=?_) rfl (Or.inl ⟨by rfl,?_⟩) ?_
     rotate_left
     ·intro w9 hSw
      go_simp
      first | done | with_reducible rfl
     simp only [pP,pN,pS,pZ,pC]
     refine tk 5 (v:=?_) rfl (Or.inl ⟨by rfl,?_⟩) ?_
     rotate_left
     ·intro w9 hSw
      go_simp
      first | done | with_reducible rfl
     simp only [pP,pN,pS,pZ,pC]
     refine tk 6 (v:=?_) rfl (Or.inl ⟨by rfl,?_⟩) ?_
     rotate_left
     ·intro w9 hSw
      go_simp
      first | done | with_reducible rfl
     simp only [pP,pN,pS,pZ,pC]
     refine tk 7 (v:=?_) rfl (Or.inl ⟨by rfl,?_⟩) ?_
     rotate_left
     ·intro w9 hSw
      go_simp
      first | done | with_reducible rfl
     simp only [pP,pN,pS,pZ,pC]
     refine tk 8 (v:=?_) rfl (Or.inl ⟨by rfl,?_⟩) ?_
     rotate_left
     ·intro w9 hSw
      go_simp
      first | done | with_reducible rfl
     simp only [pP,pN,pS,pZ,pC]
     refine wpAnyH_ready (rs:=[1,9]) (by kernel_rfl) (by simp) ?_
     refine consT rfl (fun KK hKK=>?_) ?_
     ·skip
      have cq:=below_cell bT c1
      go_simp
      clear cq
      refine hKK.out _ _ hHeld ?_
      clear hHeld
      intro hHeld
      clear hKK KK
      try simp only [pP,pN,pS,pZ,pC]
      refine wpAnyH_ready (rs:=[9]) (by kernel_rfl) (by simp) ?_
      refine cons' rfl (fun KK hKK=>?_)
      have hs5:=bT.size
      go_simp
      refine (G1.out _ (hBr.trans (bT.mono hBr.size))).mono ?_
      rintro e w5 ⟨⟨Fa,Fc,FL⟩,rfl,hfo,hFk,hFf,bN⟩
      have bC:=bN
      replace bT:=bT.trans (bC.mono bT.size)
      replace hHeld:=(⟨below_cell bC hHeld.1,below_cell bC hHeld.2.1,below_cell bC hHeld.2.2.1,below_cell bC hHeld.2.2.2⟩:_∧_∧_∧_)
      clear bC
      go_wp2_with fail
      replace hFf:=hFf.mono hs5
      clear bN hs5
      unfold FV.val
      simp only
      refine hKK.out _ _ hHeld ?_
      clear hHeld
      intro hHeld
      clear hKK KK
      try simp only [pP,pN,pS,pZ,pC]
      refine tk 10 (v:=?_) rfl (Or.inl ⟨by rfl,?_⟩) ?_
      rotate_left
      ·intro w9 hSw
       go_simp
       first | done | with_reducible rfl
      simp only [pP,pN,pS,pZ,pC]
      refine wpAnyH_ready (rs:=[11]) (by kernel_rfl) (by simp) ?_
      refine cons' rfl (fun KK hKK=>?_)
      go_simp
      have hnew:=heap_alloc_new w5 (.cells #[.int .i64 x,.slice Fa FL.length Fc] 65)
      have b3:=below_alloc (w:=w5) (.cells #[.int .i64 x,.slice Fa FL.length Fc] 65)
      generalize w5.alloc (.cells #[.int .i64 x,.slice Fa FL.length Fc] 65)=w6 at hnew b3 ⊢
      replace bT:=bT.trans (b3.mono bT.size)
      replace hFk:=hFk.later b3
      replace hHeld:=(⟨below_cell b3 hHeld.1,below_cell b3 hHeld.2.1,below_cell b3 hHeld.2.2.1,below_cell b3 hHeld.2.2.2⟩:_∧_∧_∧_)
      clear b3
      refine hKK.out _ _ hHeld ?_
      clear hHeld
      intro hHeld
      clear hKK KK
      try simp only [pP,pN,pS,pZ,pC]
      refine wpAnyH_ready (rs:=[12]) (by kernel_rfl) (by simp) ?_
      refine cons' rfl (fun KK hKK=>?_)
      have hO3:=own_below HOw.out bT
      have s3:=bT.size
      refine step_append_lies _ (by rfl) _ _ _ (by rfl) w2.heap.size 65 i0 _ 2 32 Tryz.underlying22 hi0 hz0 hz1 hz2 rfl (by omega) (.slice ar S.length cr) S.length (cellsR S) (by rfl) hO3 ⟨w5.heap.size,0,none⟩ 1 1 [.int .i64 x,.slice Fa FL.length Fc] (by rfl) (by rfl) (World.news_of_block (cs:=#[.int .i64 x,.slice Fa FL.length Fc]) (t:=65) (fr:=(0,0)) hnew) (by simp [Value.oneCell']) (by omega) (by simp only [maxLen];omega) (by omega) (by omega) w6.heap.size rfl ?_
      intro gb cap w9 hown4 hgrow hat hlt4
      obtain ⟨p1,p2,p3⟩:=PU.out w6 w9 bT ⟨Fa,Fc,FL⟩ hfo hFk hFf gb cap hown4 hgrow hat
      replace p3:=hide' p3
      have far:∀ {b o:Nat} {u:Value},b < w2.heap.size→w6.cell? ⟨b,o,none⟩=some u→w9.cell? ⟨b,o,none⟩=some u:=fun hb hu=>hgrow.cell hu (fun e=>by have:=(hlt9 _ e.symm).1;simp only at this;omega)
      have hh:=HQ.out
      refine hKK.out _ _ ⟨far (by omega) hHeld.1,far (by omega) hHeld.2.1,far (by omega) hHeld.2.2.1,far (by omega) hHeld.2.2.2⟩ ?_
      clear hHeld
      intro hHeld
      clear hKK KK
      try simp only [pP,pN,pS,pZ,pC]
      clear hh far hown4 hgrow hat hlt4 hO3 hnew
      refine tk 13 (v:=?_) rfl (Or.inl ⟨by rfl,?_⟩) ?_
      rotate_left
      ·intro w9 hSw
       go_simp
       first | done | with_reducible rfl
      simp only [pP,pN,pS,pZ,pC]
      refine wpAnyH_ready (rs:=[14]) (by kernel_rfl) (by simp) ?_
      refine cons' rfl (fun KK hKK=>?_)
      have fz:=fun o=>p2.frozen o
      clear p2
      have hH2:=(⟨far1 (q:=q) (o:=1) (u:=.slice (some ⟨gb,0,none⟩) (S.length+1) cap) hHeld.1 hbq.2,far1 (q:=q) (o:=1) (u:=.slice (some ⟨gb,0,none⟩) (S.length+1) cap) hHeld.2.1 hbq.2,far1 (q:=q) (o:=1) (u:=.slice (some ⟨gb,0,none⟩) (S.length+1) cap) hHeld.2.2.1 hbq.1,far1 (q:=q) (o:=1) (u:=.slice (some ⟨gb,0,none⟩) (S.length+1) cap) hHeld.2.2.2 hbq.1⟩:_∧_∧_∧_)
      go_simp
      refine hKK.out _ _ hH2 ?_
      clear hHeld
      intro hHeld
      clear hKK KK
      try simp only [pP,pN,pS,pZ,pC]
      clear hH2 hHeld fz p1
      refine wpAnyH_done (by kernel_rfl) ?_ _
      go_wp2
      go_roundg (R.length - (S.length+1))
      case measure=>have:=HN.out;omega
      case rel=>exact ⟨_,_,_,by simp,rfl,p3.out⟩
     refine consT rfl (fun KK hKK=>?_) ?_
     ·skip
      have hs5:=bT.size
      go_simp
      refine (G1.out _ (hBr.trans (bT.mono hBr.size))).mono ?_
      rintro e w5 ⟨⟨Fa,Fc,FL⟩,rfl,hfo,hFk,hFf,bN⟩
      have bC:=bN
      replace bT:=bT.trans (bC.mono bT.size)
      replace hHeld:=(⟨below_cell bC hHeld.1,below_cell bC hHeld.2.1,below_cell bC hHeld.2.2.1,below_cell bC hHeld.2.2.2⟩:_∧_∧_∧_)
      clear bC
      go_wp2_with fail
      replace hFf:=hFf.mono hs5
      clear bN hs5
      unfold FV.val
      simp only
      refine hKK.out _ _ hHeld ?_
      clear hHeld
      intro hHeld
      clear hKK KK
      try simp only [pP,pN,pS,pZ,pC]
      refine tk 10 (v:=?_) rfl (Or.inl ⟨by rfl,?_⟩) ?_
      rotate_left
      ·intro w9 hSw
       go_simp
       first | done | with_reducible rfl
      simp only [pP,pN,pS,pZ,pC]
      refine wpAnyH_ready (rs:=[1,11]) (by kernel_rfl) (by simp) ?_
      refine consT rfl (fun KK hKK=>?_) ?_
      ·skip
       have cq:=below_cell bT c1
       go_simp
       clear cq
       refine hKK.out _ _ hHeld ?_
       clear hHeld
       intro hHeld
       clear hKK KK
       try simp only [pP,pN,pS,pZ,pC]
       refine wpAnyH_ready (rs:=[11]) (by kernel_rfl) (by simp) ?_
       refine cons' rfl (fun KK hKK=>?_)
       go_simp
       have hnew:=heap_alloc_new w5 (.cells #[.int .i64 x,.slice Fa FL.length Fc] 65)
       have b3:=below_alloc (w:=w5) (.cells #[.int .i64 x,.slice Fa FL.length Fc] 65)
       generalize w5.alloc (.cells #[.int .i64 x,.slice Fa FL.length Fc] 65)=w6 at hnew b3 ⊢
       replace bT:=bT.trans (b3.mono bT.size)
       replace hFk:=hFk.later b3
       replace hHeld:=(⟨below_cell b3 hHeld.1,below_cell b3 hHeld.2.1,below_cell b3 hHeld.2.2.1,below_cell b3 hHeld.2.2.2⟩:_∧_∧_∧_)
       clear b3
       refine hKK.out _ _ hHeld ?_
       clear hHeld
       intro hHeld
       clear hKK KK
       try simp only [pP,pN,pS,pZ,pC]
       refine wpAnyH_ready (rs:=[12]) (by kernel_rfl) (by simp) ?_
       refine cons' rfl (fun KK hKK=>?_)
       have hO3:=own_below HOw.out bT
       have s3:=bT.size
       refine step_append_lies _ (by rfl) _ _ _ (by rfl) w2.heap.size 65 i0 _ 2 32 Tryz.underlying22 hi0 hz0 hz1 hz2 rfl (by omega) (.slice ar S.length cr) S.length (cellsR S) (by rfl) hO3 ⟨w5.heap.size,0,none⟩ 1 1 [.int .i64 x,.slice Fa FL.length Fc] (by rfl) (by rfl) (World.news_of_block (cs:=#[.int .i64 x,.slice Fa FL.length Fc]) (t:=65) (fr:=(0,0)) hnew) (by simp [Value.oneCell']) (by omega) (by simp only [maxLen];omega) (by omega) (by omega) w6.heap.size rfl ?_
       intro gb cap w9 hown4 hgrow hat hlt4
       obtain ⟨p1,p2,p3⟩:=PU.out w6 w9 bT ⟨Fa,Fc,FL⟩ hfo hFk hFf gb cap hown4 hgrow hat
       replace p3:=hide' p3
       have far:∀ {b o:Nat} {u:Value},b < w2.heap.size→w6.cell? ⟨b,o,none⟩=some u→w9.cell? ⟨b,o,none⟩=some u:=fun hb hu=>hgrow.cell hu (fun e=>by have:=(hlt9 _ e.symm).1;simp only at this;omega)
       have hh:=HQ.out
       refine hKK.out _ _ ⟨far (by omega) hHeld.1,far (by omega) hHeld.2.1,far (by omega) hHeld.2.2.1,far (by omega) hHeld.2.2.2⟩ ?_
       clear hHeld
       intro hHeld
       clear hKK KK
       try simp only [pP,pN,pS,pZ,pC]
       clear hh far hown4 hgrow hat hlt4 hO3 hnew
       refine tk 13 (v:=?_) rfl (Or.inl ⟨by rfl,?_⟩) ?_
       rotate_left
       ·intro w9 hSw
        go_simp
        first | done | with_reducible rfl
       simp only [pP,pN,pS,pZ,pC]
       refine wpAnyH_ready (rs:=[14]) (by kernel_rfl) (by simp) ?_
       refine cons' rfl (fun KK hKK=>?_)
       have fz:=fun o=>p2.frozen o
       clear p2
       have hH2:=(⟨far1 (q:=q) (o:=1) (u:=.slice (some ⟨gb,0,none⟩) (S.length+1) cap) hHeld.1 hbq.2,far1 (q:=q) (o:=1) (u:=.slice (some ⟨gb,0,none⟩) (S.length+1) cap) hHeld.2.1 hbq.2,far1 (q:=q) (o:=1) (u:=.slice (some ⟨gb,0,none⟩) (S.length+1) cap) hHeld.2.2.1 hbq.1,far1 (q:=q) (o:=1) (u:=.slice (some ⟨gb,0,none⟩) (S.length+1) cap) hHeld.2.2.2 hbq.1⟩:_∧_∧_∧_)
       go_simp
       refine hKK.out _ _ hH2 ?_
       clear hHeld
       intro hHeld
       clear hKK KK
       try simp only [pP,pN,pS,pZ,pC]
       clear hH2 hHeld fz p1
       refine wpAnyH_done (by kernel_rfl) ?_ _
       go_wp2
       go_roundg (R.length - (S.length+1))
       case measure=>have:=HN.out;omega
       case rel=>exact ⟨_,_,_,by simp,rfl,p3.out⟩
      refine consT rfl (fun KK hKK=>?_) ?_
      ·skip
       go_simp
       have hnew:=heap_alloc_new w5 (.cells #[.int .i64 x,.slice Fa FL.length Fc] 65)
       have b3:=below_alloc (w:=w5) (.cells #[.int .i64 x,.slice Fa FL.length Fc] 65)
       generalize w5.alloc (.cells #[.int .i64 x,.slice Fa FL.length Fc] 65)=w6 at hnew b3 ⊢
       replace bT:=bT.trans (b3.mono bT.size)
       replace hFk:=hFk.later b3
       replace hHeld:=(⟨below_cell b3 hHeld.1,below_cell b3 hHeld.2.1,below_cell b3 hHeld.2.2.1,below_cell b3 hHeld.2.2.2⟩:_∧_∧_∧_)
       clear b3
       refine hKK.out _ _ hHeld ?_
       clear hHeld
       intro hHeld
       clear hKK KK
       try simp only [pP,pN,pS,pZ,pC]
       refine wpAnyH_ready (rs:=[1]) (by kernel_rfl) (by simp) ?_
       refine cons' rfl (fun KK hKK=>?_)
       have cq:=below_cell bT c1
       go_simp
       clear cq
       refine hKK.out _ _ hHeld ?_
       clear hHeld
       intro hHeld
       clear hKK KK
       try simp only [pP,pN,pS,pZ,pC]
       refine wpAnyH_ready (rs:=[12]) (by kernel_rfl) (by simp) ?_
       refine cons' rfl (fun KK hKK=>?_)
       have hO3:=own_below HOw.out bT
       have s3:=bT.size
       refine step_append_lies _ (by rfl) _ _ _ (by rfl) w2.heap.size 65 i0 _ 2 32 Tryz.underlying22 hi0 hz0 hz1 hz2 rfl (by omega) (.slice ar S.length cr) S.length (cellsR S) (by rfl) hO3 ⟨w5.heap.size,0,none⟩ 1 1 [.int .i64 x,.slice Fa FL.length Fc] (by rfl) (by rfl) (World.news_of_block (cs:=#[.int .i64 x,.slice Fa FL.length Fc]) (t:=65) (fr:=(0,0)) hnew) (by simp [Value.oneCell']) (by omega) (by simp only [maxLen];omega) (by omega) (by omega) w6.heap.size rfl ?_
       intro gb cap w9 hown4 hgrow hat hlt4
       obtain ⟨p1,p2,p3⟩:=PU.out w6 w9 bT ⟨Fa,Fc,FL⟩ hfo hFk hFf gb cap hown4 hgrow hat
       replace p3:=hide' p3
       have far:∀ {b o:Nat} {u:Value},b < w2.heap.size→w6.cell? ⟨b,o,none⟩=some u→w9.cell? ⟨b,o,none⟩=some u:=fun hb hu=>hgrow.cell hu (fun e=>by have:=(hlt9 _ e.symm).1;simp only at this;omega)
       have hh:=HQ.out
       refine hKK.out _ _ ⟨far (by omega) hHeld.1,far (by omega) hHeld.2.1,far (by omega) hHeld.2.2.1,far (by omega) hHeld.2.2.2⟩ ?_
       clear hHeld
       intro hHeld
       clear hKK KK
       try simp only [pP,pN,pS,pZ,pC]
       clear hh far hown4 hgrow hat hlt4 hO3 hnew
       refine tk 13 (v:=?_) rfl (Or.inl ⟨by rfl,?_⟩) ?_
       rotate_left
       ·intro w9 hSw
        go_simp
        first | done | with_reducible rfl
       simp only [pP,pN,pS,pZ,pC]
       refine wpAnyH_ready (rs:=[14]) (by kernel_rfl) (by simp) ?_
       refine cons' rfl (fun KK hKK=>?_)
       have fz:=fun o=>p2.frozen o
       clear p2
       have hH2:=(⟨far1 (q:=q) (o:=1) (u:=.slice (some ⟨gb,0,none⟩) (S.length+1) cap) hHeld.1 hbq.2,far1 (q:=q) (o:=1) (u:=.slice (some ⟨gb,0,none⟩) (S.length+1) cap) hHeld.2.1 hbq.2,far1 (q:=q) (o:=1) (u:=.slice (some ⟨gb,0,none⟩) (S.length+1) cap) hHeld.2.2.1 hbq.1,far1 (q:=q) (o:=1) (u:=.slice (some ⟨gb,0,none⟩) (S.length+1) cap) hHeld.2.2.2 hbq.1⟩:_∧_∧_∧_)
       go_simp
       refine hKK.out _ _ hH2 ?_
       clear hHeld
       intro hHeld
       clear hKK KK
       try simp only [pP,pN,pS,pZ,pC]
       clear hH2 hHeld fz p1
       refine wpAnyH_done (by kernel_rfl) ?_ _
       go_wp2
       go_roundg (R.length - (S.length+1))
       case measure=>have:=HN.out;omega
       case rel=>exact ⟨_,_,_,by simp,rfl,p3.out⟩
      exact AllReadyH.nil
     exact AllReadyH.nil
  ·have j0:¬ (S.length:Int) < (R.length:Int):=by omega
   have HD:=hide' (hI.so.done (by omega))
   have HNk:=hide' (fun r hr=>(hI.nk r hr).1)
   have HNf:=hide' (fun r hr=>(hI.nk r hr).2.1)
   have HRW:=hide' (fun ad (e:ar=some ad)=>show w2.heap.size≤ad.block from by rw [e] at hown;exact (hown.lt ad.block rfl).1)
   have z0:=hI.tol.but.cell HZ.out.1 HQ.out.2.2.2.2.1
   have z1:=hI.tol.but.cell HZ.out.2.1 HQ.out.2.2.2.2.1
   have zR:Row wr rb:=by obtain ⟨cur,t,hc⟩:=HZ.out.2.2;exact ⟨cur,t,(hI.tol.but.block _ (Array.getElem?_eq_some_iff.1 hc).1 HQ.out.2.2.2.2.1).trans hc⟩
   have fz:=fun o=>zR.frozen o
   have HX:=hide' (show SoA w V R (.returned (Value.agg #[.int .i64 V,.slice ar S.length cr])) ((wr.setCell ⟨rb,0,none⟩ (.int .i64 V)).setCell ⟨rb,1,none⟩ (.slice ar S.length cr)) from by
     have hq5:=HQ.out
     have hB:Below w.heap.size w ((wr.setCell ⟨rb,0,none⟩ (.int .i64 V)).setCell ⟨rb,1,none⟩ (.slice ar S.length cr)):=(hI.tol.bel.setCell hq5.2.2.2.1 _).setCell hq5.2.2.2.1 _
     have hne:∀ ad,ar=some ad→S≠[]→ad.block≠rb:=fun ad e _=>by have h1:=HRW.out ad e;omega
     refine ⟨_,S,rfl,⟨⟨ar,cr,rfl,⟨(hTA.far hne).far hne,fun r hr=>?_,fun r hr=>hI.wf r hr⟩,hcr,fun ad e _=>by have h1:=HRW.out ad e;omega⟩,hB,hI.so.rise⟩,HD.out,by omega⟩
     have h7:=(HNf.out r hr).off hq5.2.2.2.2.2
     exact ((HNk.out r hr).setq h7).setq h7)
   rw [hTQ.out] at HX
   clear hI hown hTA zR HRW HD HNk HNf
   go_wp2
   first | exact HX.out | (refine bodyPost_ret (v:=.agg #[.int .i64 V,.slice ar S.length cr]) (by rw [results_cell rfl];go_simp) rfl ?_;exact HX.out)
def Bk2 (w:World) (c:Nat) (z:Int) (a:Option Addr) (n m:Nat):Prop:=∃ t,w.heap[c]?=some (.cells #[.int .i64 z,.slice a n m] t (0,0))
theorem Bk2.later {w w':World} {c:Nat} {z:Int} {a:Option Addr} {n m:Nat} (h:Bk2 w c z a n m) (hb:Below w.heap.size w w'):Bk2 w' c z a n m:=by
 obtain ⟨t,ht⟩:=h
 exact ⟨t,(hb.block c (Array.getElem?_eq_some_iff.1 ht).1).trans ht⟩
theorem Bk2.lt {w:World} {c:Nat} {z:Int} {a:Option Addr} {n m:Nat} (h:Bk2 w c z a n m):c < w.heap.size:=by
 obtain ⟨t,ht⟩:=h
 exact (Array.getElem?_eq_some_iff.1 ht).1
theorem Bk2.row {w:World} {c:Nat} {z:Int} {a:Option Addr} {n m:Nat} (h:Bk2 w c z a n m):Row w c:=by
 obtain ⟨t,ht⟩:=h
 exact ⟨_,t,ht⟩
theorem Bk2.cell0 {w:World} {c:Nat} {z:Int} {a:Option Addr} {n m:Nat} (h:Bk2 w c z a n m):w.cell? ⟨c,0,none⟩=some (.int .i64 z):=by
 obtain ⟨t,ht⟩:=h
 simp [World.cell?,ht]
theorem Bk2.cell1 {w:World} {c:Nat} {z:Int} {a:Option Addr} {n m:Nat} (h:Bk2 w c z a n m):w.cell? ⟨c,1,none⟩=some (.slice a n m):=by
 obtain ⟨t,ht⟩:=h
 simp [World.cell?,ht]
theorem Bk2.new (w:World) (z:Int) (a:Option Addr) (n m:Nat) (t:TypeId):Bk2 (w.alloc (.cells #[.int .i64 z,.slice a n m] t)) w.heap.size z a n m:=⟨t,World.alloc_heap_new w _⟩
theorem Bk2.cells {w:World} {c:Nat} {z:Int} {a:Option Addr} {n m:Nat} (h:Bk2 w c z a n m) {o:Nat} {u:Value} (hu:w.cell? ⟨c,o,none⟩=some u):(o=0∧u=.int .i64 z)∨(o=1∧u=.slice a n m):=by
 match o with
 | 0=>rw [h.cell0] at hu;exact Or.inl ⟨rfl,(Option.some.inj hu).symm⟩
 | 1=>rw [h.cell1] at hu;exact Or.inr ⟨rfl,(Option.some.inj hu).symm⟩
 | o+2 =>
  obtain ⟨t,ht⟩:=h
  simp [World.cell?,ht] at hu
theorem seg_off {w:World} {c:Nat} {z:Int} {a:Option Addr} {n m:Nat} (h:Bk2 w c z a n m) {p:Option Addr} {X k:Nat} (hs:Seg w p X k):0 < k→∀ ad,p=some ad→ad.block≠c:=fun hk ad e hc=>by
 obtain ⟨b,off,e2,hl,hcell⟩:=hs.2 hk
 rw [e] at e2
 obtain rfl:=Option.some.inj e2
 simp only at hc
 subst hc
 have:=hcell 0 hk
 rcases h.cells this with ⟨_,h2⟩ | ⟨_,h2⟩ <;> cases h2
theorem FV.ok.apart {w:World} {c:Nat} {z:Int} {a:Option Addr} {n m:Nat} {F:FV} (hF:F.ok w) (h:Bk2 w c z a n m):F.off c:=by
 refine ⟨fun hn ad e hc=>?_,fun p hp=>⟨seg_off h (hF.nums p hp).1,seg_off h (hF.nums p hp).2.2.2.1⟩⟩
 obtain ⟨b,off,e2,hl,hcell⟩:=hF.lies hn
 rw [e] at e2
 obtain rfl:=Option.some.inj e2
 simp only at hc
 subst hc
 have hL:F.L[0]?=some (F.L.head hn):=by rw [←List.head?_eq_getElem?,List.head?_eq_some_head hn]
 obtain ⟨d0,d1,_⟩:=hcell 0 _ hL
 rcases h.cells d1 with ⟨_,h2⟩ | ⟨_,h2⟩ <;> cases h2
theorem TNk.set {w:World} {a:Option Addr} {R:List RowV} {c o:Nat} {u:Value} {z:Int} {b:Option Addr} {n m:Nat} (h:TNk w a R) (hB:Bk2 w c z b n m) (hf:∀ ad,a=some ad→R≠[]→ad.block≠c):TNk (w.setCell ⟨c,o,none⟩ u) a R :=
 ⟨h.at_.far hf,fun r hr=>(h.forms r hr).setq ((h.forms r hr).ok.apart hB),h.wf⟩
theorem Bk2.set {w:World} {c:Nat} {z y:Int} {a b:Option Addr} {n m k l:Nat} (h:Bk2 w c z a n m):Bk2 (w.setCell ⟨c,0,none⟩ (.int .i64 y)) c y a n m:=by
 obtain ⟨t,ht⟩:=h
 refine ⟨t,?_⟩
 simp [World.setCell,Array.getElem?_modify,ht]
abbrev noTb:Value:=.agg #[.int .i64 0,.slice none 0 0]
def NmA (w:World) (V:Int) (R:List RowV) (e:Ending) (w':World):Prop :=
 (mayBe V (tb R)∧∃ v S,e=.returned (.tuple #[v,.int .i64 0])∧TbA w V S v w'∧NrmT (tb R) (tb S)∧S.length≤R.length)∨(¬ mayBe V (tb R)∧e=.returned (.tuple #[noTb,.int .i64 70])∧Below w.heap.size w w')
theorem TbA.store {w w1 w':World} {V:Int} {S:List RowV} {a:Option Addr} {c:Nat} {rb:Nat} {z:Int} {b:Option Addr} {n m:Nat} (hn:TNk w' a S) (hl:S.length≤c) (hf:∀ ad,a=some ad→S≠[]→w1.heap.size≤ad.block) (hw:w.heap.size≤w1.heap.size) (hB:Below w.heap.size w w') (hr:rising S) (hk:Bk2 w' rb z b n m) (h1:rb < w1.heap.size) (h2:w.heap.size≤rb) :
  TbA w V S (.agg #[.int .i64 V,.slice a S.length c]) ((w'.setCell ⟨rb,0,none⟩ (.int .i64 V)).setCell ⟨rb,1,none⟩ (.slice a S.length c)):=by
 have hne:∀ ad,a=some ad→S≠[]→ad.block≠rb:=fun ad e h=>by have:=hf ad e h;omega
 exact ⟨⟨a,c,rfl,(hn.set hk hne).set (hk.set (b:=b) (k:=n) (l:=m)) hne,hl,fun ad e h=>Nat.le_trans hw (hf ad e h)⟩,(hB.setCell h2 _).setCell h2 _,hr⟩
set_option maxHeartbeats 4000000 in
set_option maxRecDepth 100000 in
theorem rNormT_is (V:Int) (a:Option Addr) (c:Nat) (R:List RowV) (w:World) (hT:TSm w a R) (hc:R.length≤c) :
  Calls Tryz.prog 16 #[.agg #[.int .i64 V,.slice a R.length c]] w (NmA w V R):=by
 obtain ⟨TQ,hTQ⟩:∃ TQ,NmA w V R=TQ:=⟨_,rfl⟩
 rw [hTQ]
 replace hTQ:=hide' hTQ
 have GC:=hide' (fun w' (hb:Below w.heap.size w w')=>rCheck_is V a c R w' (hT.later hb) hc)
 have GS:=hide' (fun w' (hb:Below w.heap.size w w') (h:mayBe V (tb R))=>rsorted_is V a c R w' (hT.later hb) hc h)
 clear hT
 have b1:=below_alloc (w:=w) (.cells #[.int .i64 V,.slice a R.length c] 24)
 have b2:=below_alloc (w:=w.alloc (.cells #[.int .i64 V,.slice a R.length c] 24)) (.cells #[.int .i64 0,.slice none 0 0] 24)
 have m0:((w.alloc (.cells #[.int .i64 V,.slice a R.length c] 24)).alloc (.cells #[.int .i64 0,.slice none 0 0] 24)).cell? ⟨w.heap.size,0,none⟩=some (.int .i64 V):=by go_simp
 have m1:((w.alloc (.cells #[.int .i64 V,.slice a R.length c] 24)).alloc (.cells #[.int .i64 0,.slice none 0 0] 24)).cell? ⟨w.heap.size,1,none⟩=some (.slice a R.length c):=by go_simp
 have k2:Bk2 ((w.alloc (.cells #[.int .i64 V,.slice a R.length c] 24)).alloc (.cells #[.int .i64 0,.slice none 0 0] 24)) (w.heap.size+1) 0 none 0 0:=by have:=Bk2.new (w.alloc (.cells #[.int .i64 V,.slice a R.length c] 24)) 0 none 0 0 24;simpa using this
 have hsz:((w.alloc (.cells #[.int .i64 V,.slice a R.length c] 24)).alloc (.cells #[.int .i64 0,.slice none 0 0] 24)).heap.size=w.heap.size+1+1:=by simp
 have hBw:=b1.trans (b2.mono b1.size)
 clear b1 b2
 go_enter Tryz.func16,Tryz.ntmps16
 go_wp2_with fail
 obtain ⟨wA,hwA⟩:∃ wA,((w.alloc (.cells #[.int .i64 V,.slice a R.length c] 24)).alloc (.cells #[.int .i64 0,.slice none 0 0] 24))=wA:=⟨_,rfl⟩
 rw [hwA] at m0 m1 hBw k2 hsz ⊢
 clear hwA
 obtain ⟨rb,hrb⟩:∃ rb,w.heap.size+1=rb:=⟨_,rfl⟩
 rw [hrb] at k2 hsz
 try rw [hrb]
 have HQ:=hide' (show w.heap.size≤rb∧rb < wA.heap.size by omega)
 clear hrb hsz
 refine (GC.out _ hBw).mono ?_
 rintro e w1 ⟨b1,⟨hmb,rfl⟩ | ⟨hmb,rfl⟩⟩
 ·skip
  replace m0:=below_cell b1 m0
  replace m1:=below_cell b1 m1
  replace k2:=k2.later b1
  replace hBw:=hBw.trans (b1.mono hBw.size)
  have hs1:=b1.size
  clear b1 GC
  have G2:=hide' (GS.out w1 hBw hmb)
  have HMB:=hide' hmb
  clear GS hmb
  go_wp2_with fail
  refine G2.out.mono ?_
  rintro e w2 ⟨v,S,rfl,⟨⟨ar,cr,rfl,hn,hl,hf⟩,hb2,hr⟩,hN,hSl⟩
  have hSl2:S.length≤R.length:=Nat.le_of_eq hSl
  clear hSl
  replace k2:=k2.later hb2
  have z0:=k2.cell0
  have z1:=k2.cell1
  have fz:=fun o=>k2.row.frozen o
  have HX:=hide' (show NmA w V R (.returned (.tuple #[.agg #[.int .i64 V,.slice ar S.length cr],.int .i64 0])) ((w2.setCell ⟨rb,0,none⟩ (.int .i64 V)).setCell ⟨rb,1,none⟩ (.slice ar S.length cr)) from Or.inl ⟨HMB.out,_,S,rfl,TbA.store hn hl hf hBw.size (hBw.trans (hb2.mono hBw.size)) hr k2 (by have:=HQ.out;omega) HQ.out.1,hN,hSl2⟩)
  rw [hTQ.out] at HX
  clear hn hf hb2 hr hN k2 G2
  go_wp2
  first | exact HX.out | (refine bodyPost_ret (v:=.tuple #[.agg #[.int .i64 V,.slice ar S.length cr],.int .i64 0]) (by rw [results_ct rfl];go_simp) rfl ?_;exact HX.out)
 ·skip
  replace m0:=below_cell b1 m0
  replace m1:=below_cell b1 m1
  replace k2:=k2.later b1
  replace hBw:=hBw.trans (b1.mono hBw.size)
  have hs1:=b1.size
  clear b1 GC
  have z0:=k2.cell0
  have z1:=k2.cell1
  have fz:=fun o=>k2.row.frozen o
  have HX:=hide' (show ∀ w',Below w.heap.size w w'→NmA w V R (.returned (.tuple #[noTb,.int .i64 70])) w' from fun w' hb=>Or.inr ⟨hmb,rfl,hb⟩)
  rw [hTQ.out] at HX
  clear hmb GS k2
  go_wp2
  first | exact HX.out _ (by first | exact hBw | (refine Below.setCell (Below.setCell hBw ?_ _) ?_ _ <;> exact HQ.out.1)) | (refine bodyPost_ret (v:=.tuple #[noTb,.int .i64 70]) (by rw [results_ct rfl];go_simp) rfl ?_;exact HX.out _ (by first | exact hBw | (refine Below.setCell (Below.setCell hBw ?_ _) ?_ _ <;> exact HQ.out.1)))
end Go.Proofs.YtlklfkkbdcglbaaGreat
