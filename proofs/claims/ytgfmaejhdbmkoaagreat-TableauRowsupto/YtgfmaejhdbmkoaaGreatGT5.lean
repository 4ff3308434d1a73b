import Derived.Test.YtgfmaejhdbmkoaaGreatGT4
set_option linter.unusedSimpArgs false
namespace Go.Proofs.YtgfmaejhdbmkoaaGreat
open Go.RowKit
set_option linter.unusedVariables false
def ReadA (w:World) (V:Int) (R:List RowV) (e:Ending) (w':World):Prop :=
 Below w.heap.size w w'∧((¬ mayBe V (tb R)∧e=.returned (.tuple #[.map none,.int .i64 70])) ∨
  (mayBe V (tb R)∧∃ b g,e=.returned (.tuple #[.map (some b),.int .i64 0])∧w.heap.size≤b∧MapT w' b R.length g∧RF w' g (tb R)))
structure RdI (w wB:World) (V:Int) (T:Tb) (mb k:Nat) (g:Int→Option FV) (wr:World):Prop where
 bel:Below w.heap.size w wr
 map:MapT wr mb k g
 rf:RF wr g (T.take k)
 once:onceK (T.take k)
 basic:∀ r∈T.take k,0≤r.1∧r.1 < V
 kc:Kc wB wr
theorem RdI.step {w wB:World} {V:Int} {T:Tb} {mb k:Nat} {g:Int→Option FV} {wr w2 w3:World} (h:RdI w wB V T mb k g wr) (hb:Below wr.heap.size wr w2) (hm:w.heap.size≤mb) {r:Int × Fo} (hr:T[k]?=some r) (hn:g r.1=none) (hv:0≤r.1∧r.1 < V) {F:FV} (hF:F.nk w2) (he:F.fo=nfm r.2)
  (hM:MapI Tryz.prog 3 w3 mb (k+1) (fput (mapf g) r.1 F.val)) (hd:Mvd mb w2 w3):RdI w wB V T mb (k+1) (gput g r.1 F) w3:=by
 have hk2:Kc wr w3:=(Kc.of hb).trans hd.kc
 have hnl:=h.rf.miss.1 hn
 refine ⟨h.bel.trans ((hb.mono h.bel.size).trans (hd.below hm)),by rw [mapf_put] at hM;exact hM,?_,?_,?_,h.kc.trans hk2⟩
 ·rw [take_snoc hr]
  exact h.rf.put hn hk2 (hF.kc hd.kc) he
 ·rw [take_snoc hr]
  exact h.once.append hnl
 ·rw [take_snoc hr]
  intro s hs
  rcases List.mem_append.1 hs with hs | hs
  ·exact h.basic s hs
  ·rw [List.mem_singleton.1 hs];exact hv
structure RdJ (w w1:World) (V:Int) (mb it n:Nat) (g:Int→Option FV) (left:Int→Bool) (cnt:Nat) (wr:World):Prop where
 bel:Below w.heap.size w wr
 rng:RngI Tryz.prog 3 wr mb it n (mapf g) left cnt
 kc:Kc w1 wr
 seen:∀ v F,g v=some F→left v=false→okFm V g F.L=true
set_option maxHeartbeats 16000000 in
set_option maxRecDepth 100000 in
theorem tabRead_is (V:Int) (a:Option Addr) (c:Nat) (R:List RowV) (w:World) (hT:TIn w a R) (hc:R.length≤c) (hbu:bulT R≤1048576) (hw:∀ r∈R,wfo r.2.fo) :
  Calls Tryz.prog 16 #[.agg #[.int .i64 V,.slice a R.length c]] w (ReadA w V R):=by
 obtain ⟨TT,hTT⟩:∃ TT,ReadA w V R=TT:=⟨_,rfl⟩
 rw [hTT]
 replace hTT:=xQ1 hTT
 have hlen:R.length≤1048576:=by have:=bulT_len R;omega
 have HW:=xQ1 hw
 clear hw
 have HI:=xQ1 (fun x w'=>isVar_is x V w')
 have HNo:=xQ1 (fun w' (hb:Below w.heap.size w w') (h:¬ mayBe V (tb R))=>show ReadA w V R (.returned (.tuple #[.map none,.int .i64 70])) w' from ⟨hb,Or.inl ⟨h,rfl⟩⟩)
 have bA:=xQ2 (w:=w) (.cells #[.int .i64 V,.slice a R.length c] 24)
 have m0:(w.alloc (.cells #[.int .i64 V,.slice a R.length c] 24)).cell? ⟨w.heap.size,0,none⟩=some (.int .i64 V):=by go_simp
 have m1:(w.alloc (.cells #[.int .i64 V,.slice a R.length c] 24)).cell? ⟨w.heap.size,1,none⟩=some (.slice a R.length c):=by go_simp
 have hmm:=@run_makeMap Tryz.prog
 by_cases h1:V < 0
 ·have HZ:=xQ1 (HNo.out _ bA (fun h=>by have:=h.lo;have:=h.hi;omega))
  have c1:V < 0:=h1
  rw [hTT.out] at HZ
  clear hT HI HNo h1
  go_enter Tryz.func16,Tryz.ntmps16
  go_wp2
  first | exact HZ.out | (go_ret;exact HZ.out)
 by_cases h2:65536 < V
 ·have HZ:=xQ1 (HNo.out _ bA (fun h=>by have:=h.lo;have:=h.hi;omega))
  have c1:¬ V < 0:=h1
  have c2:65536 < V:=h2
  have c3:((65536:Int) < V)=True:=eq_true h2
  rw [hTT.out] at HZ
  clear hT HI HNo h1 h2
  go_enter Tryz.func16,Tryz.ntmps16
  go_wp2
  first | exact HZ.out | (go_ret;exact HZ.out)
 have c1:¬ V < 0:=h1
 have c3:((65536:Int) < V)=False:=eq_false h2
 have HV:=xQ1 (show 0≤V∧V≤65536 by omega)
 clear h1 h2
 have HM0:=MapI.made (w.alloc (.cells #[.int .i64 V,.slice a R.length c] 24)) Tryz.prog 3
 simp only [World.size_alloc] at HM0
 have bM:=xQ2 (w:=w.alloc (.cells #[.int .i64 V,.slice a R.length c] 24)) (.map #[] 0)
 go_enter Tryz.func16,Tryz.ntmps16
 go_wp2_with fail
 obtain ⟨wB,hwB⟩:∃ wB,w.alloc (.cells #[.int .i64 V,.slice a R.length c] 24)=wB:=⟨_,rfl⟩
 have hsB:wB.heap.size=w.heap.size+1:=by rw [←hwB];simp
 rw [hwB] at HM0 bM bA m0 m1 ⊢
 clear hwB
 obtain ⟨mb,hmb⟩:∃ mb,w.heap.size+1=mb:=⟨_,rfl⟩
 rw [hmb] at HM0 hsB
 try rw [hsB]
 try rw [hmb]
 have hwm:w.heap.size≤mb:=by omega
 have HS:=xQ1 hsB
 clear hsB hmb
 obtain ⟨wM,hwM⟩:∃ wM,wB.alloc (.map #[] 0)=wM:=⟨_,rfl⟩
 rw [hwM] at HM0 bM ⊢
 clear hwM
 have I0:RdI w wB V (tb R) mb 0 (fun _=>none) wM:=⟨bA.trans (bM.mono bA.size),HM0,⟨(fun _ _ h=>by cases h),fun _=>rfl⟩,List.Pairwise.nil,fun r hr=>absurd hr (by simp),Kc.of bM⟩
 clear HM0 bM
 go_loopw [23] (fun vi wr=>∃ (k:Nat) (g:Int→Option FV),k≤R.length∧vi=.int .i64 k∧RdI w wB V (tb R) mb k g wr) (fun vi _=>R.length - (intOf vi).toNat)
 case atStart=>exact ⟨0,_,Nat.zero_le _,rfl,I0⟩
 case round =>
  clear I0
  obtain ⟨k,g,hk,rfl,hI⟩:=hrel
  have n0:=hI.kc.cell _ _ m0
  have n1:=hI.kc.cell _ _ m1
  by_cases hlt:k < R.length
  ·obtain ⟨r,hr⟩:∃ r,R[k]?=some r:=⟨R[k],List.getElem?_eq_getElem hlt⟩
   have hrm:=List.mem_of_getElem? hr
   obtain ⟨bb,off,rfl,hbb,hcell⟩:=hT.at_ (by intro e;rw [e] at hlt;simp at hlt)
   obtain ⟨d0,d1⟩:=hcell k r hr
   replace d0:=xQ0 hI.bel d0
   replace d1:=xQ0 hI.bel d1
   have hv:=hT.wf r hrm
   have hok:=hT.forms r hrm
   have hbr:=bulT_mem hrm
   have hrt:=tb_at hr
   have HNe:=xQ1 (fun f (hf:lk ((tb R).take k) r.1=some f)=>fun (h:mayBe V (tb R))=>not_once hrt hf h.once)
   have HNb:=xQ1 (fun (h0:¬ (0≤r.1∧r.1 < V))=>fun (h:mayBe V (tb R))=>h0 (h.basic _ (List.mem_of_getElem? hrt)))
   have HNm:=xQ1 (fun w' (hb:Below w.heap.size w w')=>lNorm_new r.2.a r.2.c r.2.L w' (hok.later hb).lies (hok.later hb).nums hok.len (by have:=bul_len r.2.L;omega) (fun p hp=>by have:=bul_mem hp;omega) (thin_of (by have h1:=wts_bulk r.2.L hok.nums;have h2:=bul_bulkL r.2.L;omega)))
   have HST:=xQ1 (fun w2 w3 (hb:Below wr.heap.size wr w2) hn hv F hF he hM hd=>hI.step (w2:=w2) (w3:=w3) hb hwm hrt hn hv (F:=F) hF he hM hd)
   obtain ⟨v,X⟩:=r
   obtain ⟨Xa,Xc,XL⟩:=X
   unfold FV.val at d1
   simp only at d0 d1 hv HNe HNb HNm HST
   have j0:(0:Int)≤(k:Int):=by omega
   have j1:(k:Int) < (R.length:Int):=by omega
   have bX:=xQ2 (w:=wr) (.cells #[.int .i64 v,.slice Xa XL.length Xc] 46)
   have e0:(wr.alloc (.cells #[.int .i64 v,.slice Xa XL.length Xc] 46)).cell? ⟨wr.heap.size,0,none⟩=some (.int .i64 v):=by go_simp
   have e1:(wr.alloc (.cells #[.int .i64 v,.slice Xa XL.length Xc] 46)).cell? ⟨wr.heap.size,1,none⟩=some (.slice Xa XL.length Xc):=by go_simp
   obtain ⟨wX,hwX⟩:∃ wX,wr.alloc (.cells #[.int .i64 v,.slice Xa XL.length Xc] 46)=wX:=⟨_,rfl⟩
   rw [hwX] at bX e0 e1
   have hM3:=hI.map.later bX
   have hB3:=hI.bel.trans (bX.mono hI.bel.size)
   have f0:=xQ0 bX n0
   have HRF:=xQ1 hI.rf
   clear hcell hT hr hrm hrt hok hbr hI
   cases hg:g v with
   | none =>
    have hrr:=mapf_none hg
    have HG:=xQ1 hg
    clear hg HNe HRF
    have HD:=xQ1 (HI.out v wX)
    cases hd:(decide (0≤v) && decide (v < V)) with
    | false =>
     have HD2:=HD.out
     rw [hd] at HD2
     replace HD2:=xQ1 HD2
     have HZ:=xQ1 (HNo.out wX hB3 (HNb.out (fun h=>by simp [h.1,h.2] at hd)))
     rw [hTT.out] at HZ
     clear hd HD HNb HI
     go_wp2_with (at_lookup;(try rw [hwX]);refine xZ3 _ rfl _ _ 40 true rfl xZ9 xZ7 (zeroF _) mb k (mapf g) rfl hM3 v rfl hv none hrr ?_)
     go_wp2_with fail
     refine HD2.out.mono ?_
     rintro e w2 ⟨rfl,hw2⟩
     subst hw2
     go_wp2
     first | exact HZ.out | (go_ret;exact HZ.out)
    | true =>
     have HD2:=HD.out
     rw [hd] at HD2
     replace HD2:=xQ1 HD2
     have HB:=xQ1 (show 0≤v∧v < V by simp at hd;exact hd)
     clear hd HD HNb HI
     go_wp2_with (at_lookup;(try rw [hwX]);refine xZ3 _ rfl _ _ 40 true rfl xZ9 xZ7 (zeroF _) mb k (mapf g) rfl hM3 v rfl hv none hrr ?_)
     go_wp2_with fail
     refine HD2.out.mono ?_
     rintro e w2 ⟨rfl,hw2⟩
     subst hw2
     go_wp2_with fail
     have bD:Below w2.heap.size w2 w2.drew:=(Below.refl _ _).drew
     have ke0:=xQ0 bD e0
     have ke1:=xQ0 bD e1
     replace hB3:=hB3.trans (bD.mono hB3.size)
     replace bX:=bX.trans (bD.mono bX.size)
     replace hM3:=hM3.later bD
     refine wp_region_held_drew (S:=fun w'=>w'.cell? ⟨wr.heap.size,0,none⟩=some (.int .i64 v)∧w'.cell? ⟨wr.heap.size,1,none⟩=some (.slice Xa XL.length Xc)) (by kernel_rfl) ⟨ke0,ke1⟩ (fun hHeld=>?_)
     clear ke0 ke1
     generalize w2.drew=w4 at bD hM3 hB3 bX hHeld ⊢
     clear bD e0 e1
     refine tk 0 (v:=?_) rfl (Or.inl ⟨by rfl,?_⟩) ?_
     rotate_left
     ·intro w9 hSw
      go_simp
      try with_reducible rfl
     simp only [pA]
     refine tk 1 (v:=?_) rfl (Or.inl ⟨by rfl,?_⟩) ?_
     rotate_left
     ·intro w9 hSw
      go_simp
      try with_reducible rfl
     simp only [pA]
     refine tk 2 (v:=?_) rfl (Or.inl ⟨by rfl,?_⟩) ?_
     rotate_left
     ·intro w9 hSw
      go_simp
      try with_reducible rfl
     simp only [pA]
     refine tk 3 (v:=?_) rfl (Or.inl ⟨by rfl,?_⟩) ?_
     rotate_left
     ·intro w9 hSw
      go_simp
      try with_reducible rfl
     simp only [pA]
     refine tk 4 (v:=?_) rfl (Or.inl ⟨by rfl,?_⟩) ?_
     rotate_left
     ·intro w9 hSw
      go_simp
      try with_reducible rfl
     simp only [pA]
     refine wpAnyH_ready (rs:=[5]) (by kernel_rfl) (by simp) ?_
     refine xX0 rfl (fun KK hKK=>?_)
     go_simp
     refine (HNm.out _ hB3).mono ?_
     rintro e w5 ⟨fa,fc,FL,rfl,b5,s5,E5,fo5,_⟩
     have bC:=b5
     replace hB3:=hB3.trans (bC.mono hB3.size)
     replace bX:=bX.trans (bC.mono bX.size)
     replace hM3:=hM3.later bC
     replace hHeld:=(⟨xQ0 bC hHeld.1,xQ0 bC hHeld.2⟩:_∧_)
     clear bC
     go_wp2_with fail
     clear b5
     have E6:Ents w5 FL:=E5
     clear E5
     refine hKK.out _ _ hHeld ?_
     clear hHeld
     intro hHeld
     clear hKK KK
     try simp only [pA]
     refine wpAnyH_ready (rs:=[6]) (by kernel_rfl) (by simp) ?_
     refine xX0 rfl (fun KK hKK=>?_)
     have hkm:k < maxLen:=by simp only [maxLen];omega
     obtain ⟨w6,hrun,hM6,hd6⟩:=store_run (e:=26) w5 hM3 xZ9 xZ7 hkm hv (.slice fa FL.length fc)
     have I1:=xQ1 (HST.out w5 w6 bX HG.out HB.out ⟨fa,fc,FL⟩ ⟨s5,E6⟩ fo5 hM6 hd6)
     have hH2:=(⟨hd6.cell hHeld.1,hd6.cell hHeld.2⟩:_∧_)
     clear HST hM6 hd6 s5 E6 fo5 hM3 hB3
     go_simp
     refine hKK.out _ _ hH2 ?_
     clear hHeld
     intro hHeld
     clear hKK KK
     try simp only [pA]
     clear hH2 hHeld hrun
     refine wpAnyH_done (by kernel_rfl) ?_ _
     go_wp2
     go_roundw
     case rel=>exact ⟨k+1,_,by omega,by go_num,I1.out⟩
     case measure=>simp only [intOf];omega
   | some G =>
    have hrr:=mapf_some hg
    obtain ⟨f,hf,_⟩:=HRF.out.hit hg
    have HZ:=xQ1 (HNo.out wX hB3 (HNe.out f hf))
    rw [hTT.out] at HZ
    clear hg hf HNe HNb HNm HST HI
    go_wp2_with (at_lookup;(try rw [hwX]);refine xZ3 _ rfl _ _ 40 true rfl xZ9 xZ7 (zeroF _) mb k (mapf g) rfl hM3 v rfl hv (some G.val) hrr ?_)
    clear hM3 hrr
    go_wp2
    first | exact HZ.out | (go_ret;exact HZ.out)
  ·obtain rfl:k=R.length:=by omega
   have i1:¬ (R.length:Int) < (R.length:Int):=by omega
   have hI2:=hI
   obtain ⟨hb,hM,hRF,hon,hba,hkc⟩:=hI2
   have eT:(tb R).take R.length=tb R:=by rw [←tb_length R,List.take_length]
   rw [eT] at hRF hon hba
   have HMB:=xQ1 (fun w' (hk:Kc wr w')=>mayBe_iff (V:=V) HV.out.1 HV.out.2 hon hba (hRF.kc hk))
   have HRF:=xQ1 hRF
   have HX:=xQ1 (fun v F (h:g v=some F)=>(hRF.nk v F h))
   have HWF:=xQ1 (fun v F (h:g v=some F)=>show wfo F.fo from by
     obtain ⟨f,hf,e⟩:=hRF.hit h
     rw [e]
     have h1:=lk_mem hf
     unfold tb at h1
     obtain ⟨s,hs,e2⟩:=List.mem_map.1 h1
     simp only [Prod.mk.injEq] at e2
     rw [←e2.2]
     exact (HW.out s hs).nfm)
   have HL:=xQ1 (fun v F (h:g v=some F)=>show F.L.length≤4194304 from by
     obtain ⟨f,hf,e⟩:=hRF.hit h
     have h1:=lk_mem hf
     unfold tb at h1
     obtain ⟨s,hs,e2⟩:=List.mem_map.1 h1
     simp only [Prod.mk.injEq] at e2
     have h2:=congrArg List.length e
     unfold FV.fo at h2
     rw [xX3,←e2.2] at h2
     have h3:=xJ0 s.2.fo
     have h4:=bulT_mem hs
     have h5:=bul_len s.2.L
     unfold FV.fo at h3
     rw [xX3] at h3
     unfold FV.fo at h2
     omega)
   have hml:=hM.lt
   clear hon hba hRF hkc hI HW HNo n1
   go_wp2_with (at_range;refine wpList_rng _ rfl _ 40 rfl xZ9 xZ7 mb R.length (mapf g) rfl hM ?_;intro w1 cnt0 hR0 hcn hb1 hs1)
   try go_frame
   have n2:=xQ0 hb1 n0
   have hit:w.heap.size≤wr.heap.size:=hb.size
   have J0:RdJ w w1 V mb wr.heap.size R.length g (fun v=>(mapf g v).isSome) cnt0 w1:=⟨hb.trans (hb1.mono hb.size),hR0,Kc.refl _,fun v F hv hl=>by simp [mapf,hv] at hl⟩
   have HK1:=xQ1 (Kc.of hb1)
   clear hR0 hb hM hs1 hcn n0 hb1 hml
   obtain ⟨it,hitt⟩:∃ it,wr.heap.size=it:=⟨_,rfl⟩
   rw [hitt] at J0 hit ⊢
   clear hitt
   go_loopg [10] cnt0 (fun cnt v10 wq=>∃ left,RdJ w w1 V mb it R.length g left cnt wq)
   case atStart=>exact ⟨_,J0⟩
   case round =>
    clear J0
    obtain ⟨left,hJ⟩:=hrel
    have n3:=hJ.kc.cell _ _ n2
    have hrg:=hJ.rng
    have hJH:=xQ1 hJ
    clear hJ
    go_wp2_with (at_next;refine wpList_nxt _ rfl _ rfl xZ9 mb it R.length (mapf g) left gk rfl hrg ?_ ?_)
    ·intro hdone
     have HZ:=xQ1 (show ReadA w V R (.returned (.tuple #[.map (some mb),.int .i64 0])) wr from ⟨hJH.out.bel,Or.inr ⟨(HMB.out wr (HK1.out.trans hJH.out.kc)).2 (fun v F hv=>hJH.out.seen v F hv (hdone v _ (mapf_some hv))),mb,g,rfl,hwm,hJH.out.rng.map,HRF.out.kc (HK1.out.trans hJH.out.kc)⟩⟩)
     rw [hTT.out] at HZ
     clear hdone hrg
     go_wp2
     first | exact HZ.out | (go_ret;exact HZ.out)
    ·intro v x w2 cnt2 hfx hlx hrg2 hlt2 hg2 hs2 hen
     obtain ⟨F,hF,hxF⟩:∃ F,g v=some F∧x=F.val:=by unfold mapf at hfx;cases hgv:g v with | none=>rw [hgv] at hfx;cases hfx | some F=>rw [hgv] at hfx;exact ⟨F,rfl,(Option.some.inj hfx).symm⟩
     subst hxF
     have hk2:Kc wr w2:=hrg.step hg2
     have hB2:=hJH.out.bel.trans (hrg.bel hg2 (Nat.le_of_eq hs2.symm) hit)
     have n4:=hk2.cell _ _ n3
     have HMH:=xQ1 (mayHave_is F V mb R.length g w2 ((HX.out v F hF).kc (HK1.out.trans (hJH.out.kc.trans hk2))).ok (HL.out v F hF) hrg2.map (HWF.out v F hF))
     have HNX:=xQ1 (fun w3 (hb:Below w2.heap.size w2 w3) (hok:okFm V g F.L=true)=>show RdJ w w1 V mb it R.length g (fun z=>left z && !decide (z=v)) cnt2 w3 from ⟨hB2.trans (hb.mono hB2.size),hrg2.later _ hb,hJH.out.kc.trans (hk2.trans (Kc.of hb)),fun u G hu hl=>by
       by_cases e:u=v
       ·subst e;rw [hF] at hu;cases hu;exact hok
       ·exact hJH.out.seen u G hu (by simpa [e] using hl)⟩)
     have HBD:=xQ1 (fun w3 (hb:Below w2.heap.size w2 w3) (hok:okFm V g F.L=false)=>show ReadA w V R (.returned (.tuple #[.map none,.int .i64 70])) w3 from ⟨hB2.trans (hb.mono hB2.size),Or.inl ⟨(fun hmb=>by rw [(HMB.out wr (HK1.out.trans hJH.out.kc)).1 hmb v F hF] at hok;cases hok),rfl⟩⟩)
     clear hrg2 hs2 hg2 hfx hlx hrg hk2 hJH
     obtain ⟨fa,fc,FL⟩:=F
     unfold FV.val at hen HMH
     simp only at hen HMH
     try unfold FV.val
     try simp only
     cases hd:okFm V g FL with
     | false =>
      have HM2:=HMH.out
      rw [hd] at HM2
      replace HM2:=xQ1 HM2
      have HD:=xQ1 hd
      clear hd HMH
      go_wp2_with fail
      refine HM2.out.mono ?_
      rintro e w3 ⟨rfl,b3⟩
      have HZ:=xQ1 (HBD.out w3 b3 HD.out)
      rw [hTT.out] at HZ
      clear b3 HNX HBD
      go_wp2
      first | exact HZ.out | (go_ret;exact HZ.out)
     | true =>
      have HM2:=HMH.out
      rw [hd] at HM2
      replace HM2:=xQ1 HM2
      have HD:=xQ1 hd
      clear hd HMH
      go_wp2_with fail
      refine HM2.out.mono ?_
      rintro e w3 ⟨rfl,b3⟩
      have HZ:=xQ1 (HNX.out w3 b3 HD.out)
      clear b3 HNX HBD
      go_wp2
      go_roundg cnt2
      case measure=>exact hlt2
      case rel=>exact ⟨_,HZ.out⟩
end Go.Proofs.YtgfmaejhdbmkoaaGreat
