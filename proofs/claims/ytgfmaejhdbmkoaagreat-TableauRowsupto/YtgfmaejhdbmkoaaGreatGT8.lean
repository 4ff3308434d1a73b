import Derived.Test.YtgfmaejhdbmkoaaGreatWO5
import Derived.Test.YtgfmaejhdbmkoaaGreatWN11
import Derived.Test.YtgfmaejhdbmkoaaGreatGT4
set_option linter.unusedSimpArgs false
namespace Go.Proofs.YtgfmaejhdbmkoaaGreat
open Go.RowKit
set_option linter.unusedVariables false
def IAns (w:World) (zs:List Int) (e:Ending) (w':World):Prop:=∃ a c,e=.returned (.slice a zs.length c)∧Below w.heap.size w w'∧IAt w' a zs∧zs.length≤c
theorem LInv.ans {w:World} {zs:List Int} {vo:Value} {wr:World} (h:LInv w zs vo wr):IAns w zs (.returned vo) wr:=by
 obtain ⟨a,c,rfl,hc,hI⟩:=own_ints h.1
 exact ⟨a,c,rfl,h.2,hI,hc⟩
theorem IAns.from {w W:World} {zs:List Int} {e:Ending} {w':World} (h:IAns W zs e w') (hB:Below w.heap.size w W):IAns w zs e w':=by
 obtain ⟨a,c,he,hb,r⟩:=h
 exact ⟨a,c,he,hB.trans (hb.mono hB.size),r⟩
theorem vs_fo {L:List Mo} {l:Fo} (h:fo L=l):vs L=l.map (·.1):=by
 rw [←h]
 unfold vs fo
 rw [List.map_map]
 rfl
set_option maxHeartbeats 4000000 in
set_option maxRecDepth 100000 in
theorem vlVars_is (a:Option Addr) (ca:Nat) (L:List Mo) (w:World) (hm:L.length≤1048576) (G0:Calls Tryz.prog 22 #[.slice a L.length ca] w (FAns w (nfm (fo L)))) :
  Calls Tryz.prog 37 #[.slice a L.length ca] w (IAns w ((nfm (fo L)).map (·.1))):=by
 obtain ⟨i0,hi0,hz0,hz1,hz2⟩:=info_parts info_int
 have hln:=xJ0 (fo L)
 rw [xX3] at hln
 have G:=xQ1 G0
 clear G0
 obtain ⟨T,hT⟩:∃ T,nfm (fo L)=T:=⟨_,rfl⟩
 rw [hT] at G hln ⊢
 clear hT
 obtain ⟨ZZ,hZZ⟩:∃ ZZ,T.map (·.1)=ZZ:=⟨_,rfl⟩
 rw [hZZ]
 replace hZZ:=xQ1 hZZ
 go_enter Tryz.func37,Tryz.ntmps37
 go_wp2_with fail
 refine G.out.mono ?_
 rintro e w1 ⟨a1,c1,R,rfl,b1,s1,e1,f1⟩
 have HV:=xQ1 (show vs R=ZZ by rw [vs_fo f1];exact hZZ.out)
 have hlR:R.length≤1048576:=by rw [←xX3 R,f1];omega
 have hF:=s1.lies
 have hcR:=s1.len
 clear s1 e1 f1 G hln
 go_wp2_with fail
 go_loopw [3,5] (fun vo vi wr=>∃ k:Nat,k≤R.length∧vi=.int .i64 k∧LInv w1 (vs (R.take k)) vo wr) (fun _ vi _=>R.length - (intOf vi).toNat)
 case atStart=>exact ⟨0,Nat.zero_le _,rfl,World.ownsRow_nil _ _ _ _,Below.refl _ _⟩
 case round =>
  obtain ⟨k,hk,rfl,hO,hB⟩:=hrel
  by_cases hlt:k < R.length
  ·skip
   obtain ⟨p,hp⟩:∃ p,R[k]?=some p:=⟨R[k],List.getElem?_eq_getElem hlt⟩
   obtain ⟨bb,off,rfl,hb,hcell⟩:=hF (by intro e;rw [e] at hlt;simp at hlt)
   obtain ⟨c0,d1,d2,d3⟩:=hcell k p hp
   replace c0:=xQ0 hB c0
   replace d1:=xQ0 hB d1
   replace d2:=xQ0 hB d2
   replace d3:=xQ0 hB d3
   obtain ⟨t1,t2⟩:=xJ6 hp
   have hv:vs (R.take (k+1))=vs (R.take k) ++ [p.1]:=by rw [t1];unfold vs;rw [List.map_append];rfl
   obtain ⟨x,q⟩:=p
   simp only at c0 d1 d2 d3 hv
   clear t1 t2 hp hcell
   have i1:(0:Int)≤(k:Int):=by omega
   have i2:(k:Int) < (R.length:Int):=by omega
   obtain ⟨zs,hzs⟩:∃ zs,vs (R.take k)=zs:=⟨_,rfl⟩
   rw [hzs] at hO
   have hzl:zs.length≤2097152:=by rw [←hzs,vs_length,List.length_take];omega
   obtain ⟨wB,hwB⟩:∃ wB,wr.alloc (.cells #[.int .i64 x] 3)=wB:=⟨_,rfl⟩
   have hnew:=heap_alloc_new wr (.cells #[.int .i64 x] 3)
   have b3:=xQ2 (w:=wr) (.cells #[.int .i64 x] 3)
   rw [hwB] at hnew b3
   have hO3:=xQ6 hO b3
   have s3:=b3.size
   have s4:=hB.size
   have hbB:w1.heap.size≤wB.heap.size:=by omega
   have hbl:(zs.length+1)*8≤140737488355328:=by omega
   have hrow:=fun k hk=>(hO.lt k hk)
   go_wp2_with (at_builtin;(try rw [hwB]);refine wpList_append_lies _ (by rfl) _ _ _ (by rfl) w1.heap.size 3 i0 _ 1 8 Tryz.underlying32 hi0 hz0 hz1 hz2 rfl (by omega) u3 zs.length (iv zs) (by rfl) hO3 ⟨wr.heap.size,0,none⟩ 1 1 [.int .i64 x] (by rfl) (by rfl) (World.news_of_block (cs:=#[.int .i64 x]) (t:=3) (fr:=(0,0)) hnew) (by simp [Value.oneCell']) (by omega) (by simp only [maxLen];omega) hbl hbB wB.heap.size rfl ?_)
   intro gb cap w9 hown4 hgrow hat hlt4
   have hB3:=hB.trans (b3.mono hB.size)
   have b9:=xQ8 hB3.size (fun k hk=>(hrow k hk).1) hgrow
   have I1:LInv w1 (zs ++ [x]) (.slice (some ⟨gb,0,none⟩) (zs.length+1) cap) w9:=⟨by rw [List.length_append,iv_append];exact hown4,hB3.trans b9⟩
   replace I1:=xQ1 I1
   replace hzs:=xQ1 hzs
   clear hown4 hgrow hat hnew b3 hO3 hB3 b9 hrow s3 hbB hbl hO hB
   go_wp2
   go_roundw
   case rel=>exact ⟨k+1,by omega,by go_num,by rw [hv,hzs.out];exact I1.out⟩
   case measure=>simp [intOf];omega
  ·obtain rfl:k=R.length:=by omega
   have i1:¬ (R.length:Int) < (R.length:Int):=by omega
   rw [List.take_length,HV.out] at hO
   obtain ⟨ai,ci,e9,h9⟩:=(show LInv w1 ZZ u3 wr from ⟨hO,hB⟩).ans.from b1
   obtain rfl:u3=.slice ai ZZ.length ci:=by injection e9
   have I1:=xQ1 (show IAns w ZZ (.returned (.slice ai ZZ.length ci)) wr from ⟨ai,ci,rfl,h9⟩)
   clear hO h9 e9
   go_wp2
   go_ret
   exact I1.out
def vsN (f:Fo):List Int:=(nfm f).map (·.1)
def inVs (V:Int) (zs:List Int):Bool:=zs.all fun z=>decide (0≤z) && decide (z < V)
theorem inVs_false {V:Int} {zs:List Int} {k:Nat} {z:Int} (hk:zs[k]?=some z) (h:(decide (0≤z) && decide (z < V))=false):inVs V zs=false:=by
 cases hc:inVs V zs with
 | false=>rfl
 | true =>
  unfold inVs at hc
  have:=List.all_eq_true.1 hc z (List.mem_of_getElem? hk)
  rw [h] at this
  cases this
theorem inVs_true {V:Int} {zs:List Int} (h:∀ k z,k < zs.length→zs[k]?=some z→(decide (0≤z) && decide (z < V))=true):inVs V zs=true:=List.all_eq_true.2 fun z hz=>by
 obtain ⟨k,hk,rfl⟩:=List.mem_iff_getElem.1 hz
 exact h k _ hk (List.getElem?_eq_getElem hk)
theorem inVs_iff {V:Int} {f:Fo}:inVs V (vsN f)=true↔inV V f:=by
 unfold inVs vsN inV
 rw [List.all_eq_true]
 constructor
 ·intro h p hp
  have:=h p.1 (List.mem_map.2 ⟨p,hp,rfl⟩)
  simpa using this
 ·intro h z hz
  obtain ⟨p,hp,rfl⟩:=List.mem_map.1 hz
  have:=h p hp
  simpa using this
structure FV.sm (w:World) (F:FV):Prop where
 ok:F.ok w
 b:bul F.L≤2097152
theorem FV.sm.later {w w':World} {F:FV} (h:F.sm w) (hb:Below w.heap.size w w'):F.sm w':=⟨h.ok.later hb,h.b⟩
theorem FV.sm.len {w:World} {F:FV} (h:F.sm w):F.L.length≤1048576:=by have:=bul_len F.L;have:=h.b;omega
theorem sm_wts {w:World} {F:FV} (h:F.sm w):wts (fo F.L)+1≤1099511627776:=by have h1:=wts_bulk F.L h.ok.nums;have h2:=bul_bulkL F.L;have:=h.b;omega
theorem rNormF_is (F:FV) (w:World) (h:F.sm w):Calls Tryz.prog 22 #[F.val] w (FAns w (nfm F.fo)) :=
 vlNorm_is F.a F.c F.L w h.ok.lies (fun p hp=>⟨h.ok.nums p hp,by have:=bul_mem hp;have:=h.b;omega,by have:=bul_mem hp;have:=h.b;omega⟩) h.ok.len h.len (sm_wts h)
theorem rVarsF_is (F:FV) (w:World) (h:F.sm w):Calls Tryz.prog 37 #[F.val] w (IAns w (vsN F.fo)) :=
 vlVars_is F.a F.c F.L w h.len (rNormF_is F w h)
theorem vsN_len (F:FV):(vsN F.fo).length≤F.L.length:=by
 unfold vsN
 rw [List.length_map]
 have:=xJ0 (fo F.L)
 rw [xX3] at this
 exact this
set_option maxHeartbeats 8000000 in
set_option maxRecDepth 100000 in
theorem rknows_is (V:Int) (a:Option Addr) (n c:Nat) (X:FV) (w:World) (hX:X.sm w) :
  Calls Tryz.prog 36 #[.agg #[.int .i64 V,.slice a n c],X.val] w fun e w'=>e=.returned (.bool (inVs V (vsN X.fo)))∧Below w.heap.size w w':=by
 have HL:=xQ1 (Nat.le_trans (vsN_len X) hX.len)
 have HX:=xQ1 (fun w' (hb:Below w.heap.size w w')=>rVarsF_is X w' (hX.later hb))
 clear hX
 have HI:=xQ1 (fun x w'=>ris_is V x a n c w')
 obtain ⟨zs,hzs⟩:∃ zs,vsN X.fo=zs:=⟨_,rfl⟩
 rw [hzs] at HL HX ⊢
 clear hzs
 have bA:=xQ2 (w:=w) (.cells #[.int .i64 V,.slice a n c] 24)
 have m0:(w.alloc (.cells #[.int .i64 V,.slice a n c] 24)).cell? ⟨w.heap.size,0,none⟩=some (.int .i64 V):=by go_simp
 have m1:(w.alloc (.cells #[.int .i64 V,.slice a n c] 24)).cell? ⟨w.heap.size,1,none⟩=some (.slice a n c):=by go_simp
 go_enter Tryz.func36,Tryz.ntmps36
 go_wp2_with fail
 obtain ⟨wA,hwA⟩:∃ wA,w.alloc (.cells #[.int .i64 V,.slice a n c] 24)=wA:=⟨_,rfl⟩
 rw [hwA] at bA m0 m1 ⊢
 clear hwA
 refine (HX.out wA bA).mono ?_
 rintro e w1 ⟨av,cv,rfl,b1,hI,hcv⟩
 clear HX
 replace m0:=xQ0 b1 m0
 replace m1:=xQ0 b1 m1
 have hB1:=bA.trans (b1.mono bA.size)
 clear bA b1
 go_wp2_with fail
 go_loopw [6] (fun vi wr=>∃ k:Nat,k≤zs.length∧vi=.int .i64 k∧(∀ j z,j < k→zs[j]?=some z→(decide (0≤z) && decide (z < V))=true)∧Below w1.heap.size w1 wr) (fun vi _=>zs.length - (intOf vi).toNat)
 case atStart=>exact ⟨0,Nat.zero_le _,rfl,fun j p hj=>absurd hj (by omega),Below.refl _ _⟩
 case round =>
  obtain ⟨k,hk,rfl,hN,hB⟩:=hrel
  have HN:=xQ1 hN
  clear hN
  have hBw:=hB1.trans (hB.mono hB1.size)
  by_cases hlt:k < zs.length
  ·obtain ⟨z,hz⟩:∃ z,zs[k]?=some z:=⟨zs[k],List.getElem?_eq_getElem hlt⟩
   obtain ⟨bb,off,rfl,hbb,hcell⟩:=hI (by intro e;rw [e] at hlt;simp at hlt)
   have d0:=xQ0 hB (hcell k z hz)
   have n0:=xQ0 hB m0
   have n1:=xQ0 hB m1
   have j0:(0:Int)≤(k:Int):=by omega
   have j1:(k:Int) < (zs.length:Int):=by omega
   have hzl:=HL.out
   have HD:=xQ1 (HI.out z)
   have HF:=xQ1 (fun h=>inVs_false (V:=V) hz h)
   have HT:=xQ1 (fun (h:(decide (0≤z) && decide (z < V))=true)=>show ∀ j q,j < k+1→zs[j]?=some q→(decide (0≤q) && decide (q < V))=true from fun j q hj hq=>by
     by_cases e:j=k
     ·subst e;rw [hz] at hq;cases hq;exact h
     ·exact HN.out j q (by omega) hq)
   clear hcell hI hz
   cases hd:(decide (0≤z) && decide (z < V)) with
   | false =>
    have HD2:=HD.out
    rw [hd] at HD2
    replace HD2:=xQ1 HD2
    have HZ:=xQ1 (HF.out hd)
    clear hd HD HF HT
    go_wp2_with fail
    have bD:Below wr.heap.size wr wr.drew:=(Below.refl _ _).drew
    have kn0:=xQ0 bD n0
    have kn1:=xQ0 bD n1
    have kd0:=xQ0 bD d0
    replace hB:=hB.trans (bD.mono hB.size)
    replace hBw:=hBw.trans (bD.mono hBw.size)
    refine wp_region_held_drew (S:=fun w'=>w'.cell? ⟨w.heap.size,0,none⟩=some (.int .i64 V)∧w'.cell? ⟨w.heap.size,1,none⟩=some (.slice a n c)∧w'.cell? ⟨bb,off+k,none⟩=some (.int .i64 z)) (by kernel_rfl) ⟨kn0,kn1,kd0⟩ (fun hHeld=>?_)
    clear kn0 kn1 kd0
    generalize wr.drew=w4 at bD hB hBw hHeld ⊢
    clear bD n0 n1 d0
    refine tk 0 (v:=?_) rfl (Or.inl ⟨by rfl,?_⟩) ?_
    rotate_left
    ·intro w9 hSw
     go_simp
     try with_reducible rfl
    simp only [pA]
    refine tk 1 (v:=?_) rfl (Or.inl ⟨by rfl,?_⟩) ?_
    rotate_left
    ·intro w9 hSw
     go_simp
     try with_reducible rfl
    simp only [pA]
    refine tk 2 (v:=?_) rfl (Or.inl ⟨by rfl,?_⟩) ?_
    rotate_left
    ·intro w9 hSw
     go_simp
     try with_reducible rfl
    simp only [pA]
    refine tk 3 (v:=?_) rfl (Or.inl ⟨by rfl,?_⟩) ?_
    rotate_left
    ·intro w9 hSw
     go_simp
     try with_reducible rfl
    simp only [pA]
    refine tk 4 (v:=?_) rfl (Or.inl ⟨by rfl,?_⟩) ?_
    rotate_left
    ·intro w9 hSw
     go_simp
     try with_reducible rfl
    simp only [pA]
    refine wpAnyH_ready (rs:=[5]) (by kernel_rfl) (by simp) ?_
    refine xX0 rfl (fun KK hKK=>?_)
    go_simp
    refine (HD2.out _).mono ?_
    rintro e w5 ⟨rfl,b5⟩
    have bC:=b5
    replace hB:=hB.trans (bC.mono hB.size)
    replace hBw:=hBw.trans (bC.mono hBw.size)
    replace hHeld:=(⟨xQ0 bC hHeld.1,xQ0 bC hHeld.2.1,xQ0 bC hHeld.2.2⟩:_∧_∧_)
    clear bC
    go_wp2_with fail
    clear b5
    refine hKK.out _ _ hHeld ?_
    clear hHeld
    intro hHeld
    clear hKK KK
    try simp only [pA]
    refine tk 6 (v:=?_) rfl (Or.inl ⟨by rfl,?_⟩) ?_
    rotate_left
    ·intro w9 hSw
     go_simp
     try with_reducible rfl
    simp only [pA]
    refine wpAnyH_done (by kernel_rfl) ?_ _
    go_wp2
    first | exact ⟨(by rw [HZ.out];try rfl),hBw⟩ | (go_ret;exact ⟨(by rw [HZ.out];try rfl),hBw⟩)
   | true =>
    have HD2:=HD.out
    rw [hd] at HD2
    replace HD2:=xQ1 HD2
    have HZ:=xQ1 (HT.out hd)
    clear hd HD HF HT
    go_wp2_with fail
    have bD:Below wr.heap.size wr wr.drew:=(Below.refl _ _).drew
    have kn0:=xQ0 bD n0
    have kn1:=xQ0 bD n1
    have kd0:=xQ0 bD d0
    replace hB:=hB.trans (bD.mono hB.size)
    replace hBw:=hBw.trans (bD.mono hBw.size)
    refine wp_region_held_drew (S:=fun w'=>w'.cell? ⟨w.heap.size,0,none⟩=some (.int .i64 V)∧w'.cell? ⟨w.heap.size,1,none⟩=some (.slice a n c)∧w'.cell? ⟨bb,off+k,none⟩=some (.int .i64 z)) (by kernel_rfl) ⟨kn0,kn1,kd0⟩ (fun hHeld=>?_)
    clear kn0 kn1 kd0
    generalize wr.drew=w4 at bD hB hBw hHeld ⊢
    clear bD n0 n1 d0
    refine tk 0 (v:=?_) rfl (Or.inl ⟨by rfl,?_⟩) ?_
    rotate_left
    ·intro w9 hSw
     go_simp
     try with_reducible rfl
    simp only [pA]
    refine tk 1 (v:=?_) rfl (Or.inl ⟨by rfl,?_⟩) ?_
    rotate_left
    ·intro w9 hSw
     go_simp
     try with_reducible rfl
    simp only [pA]
    refine tk 2 (v:=?_) rfl (Or.inl ⟨by rfl,?_⟩) ?_
    rotate_left
    ·intro w9 hSw
     go_simp
     try with_reducible rfl
    simp only [pA]
    refine tk 3 (v:=?_) rfl (Or.inl ⟨by rfl,?_⟩) ?_
    rotate_left
    ·intro w9 hSw
     go_simp
     try with_reducible rfl
    simp only [pA]
    refine tk 4 (v:=?_) rfl (Or.inl ⟨by rfl,?_⟩) ?_
    rotate_left
    ·intro w9 hSw
     go_simp
     try with_reducible rfl
    simp only [pA]
    refine wpAnyH_ready (rs:=[5]) (by kernel_rfl) (by simp) ?_
    refine xX0 rfl (fun KK hKK=>?_)
    go_simp
    refine (HD2.out _).mono ?_
    rintro e w5 ⟨rfl,b5⟩
    have bC:=b5
    replace hB:=hB.trans (bC.mono hB.size)
    replace hBw:=hBw.trans (bC.mono hBw.size)
    replace hHeld:=(⟨xQ0 bC hHeld.1,xQ0 bC hHeld.2.1,xQ0 bC hHeld.2.2⟩:_∧_∧_)
    clear bC
    go_wp2_with fail
    clear b5
    refine hKK.out _ _ hHeld ?_
    clear hHeld
    intro hHeld
    clear hKK KK
    try simp only [pA]
    refine tk 6 (v:=?_) rfl (Or.inl ⟨by rfl,?_⟩) ?_
    rotate_left
    ·intro w9 hSw
     go_simp
     try with_reducible rfl
    simp only [pA]
    refine wpAnyH_done (by kernel_rfl) ?_ _
    go_wp2
    go_roundw
    case rel=>exact ⟨k+1,by omega,by go_num,HZ.out,hB⟩
    case measure=>simp only [intOf];omega
  ·obtain rfl:k=zs.length:=by omega
   have i1:¬ (zs.length:Int) < (zs.length:Int):=by omega
   have HZ:=xQ1 (show inVs V zs=true from inVs_true fun j z hj hz=>HN.out j z hj hz)
   clear HN HI
   go_wp2
   first | exact ⟨(by rw [HZ.out];try rfl),hBw⟩ | (go_ret;exact ⟨(by rw [HZ.out];try rfl),hBw⟩)
def chk1 (V:Int) (R:List RowV) (k:Nat):Prop:=∀ i r,i < k→R[i]?=some r→(0≤r.1∧r.1 < V)∧ix R r.1=(i:Int)∧inV V r.2.fo
def chk2 (R:List RowV) (k:Nat):Prop:=∀ i r,i < k→R[i]?=some r→∀ z∈vsN r.2.fo,ix R z < 0
theorem ix_lk {R:List RowV} {z:Int}:ix R z < 0↔lk (tb R) z=none:=by
 rw [tb_lk]
 rcases ix_cases R z with ⟨h1,h2⟩ | ⟨k,f,h1,h2,h3,h4,h5⟩
 ·rw [h1,h2];simp
 ·rw [h2,h4]
  simp
theorem once_ix {R:List RowV} (h:onceK (tb R)) {k:Nat} {r:RowV} (hk:R[k]?=some r):ix R r.1=(k:Int):=by
 have hf:=h.fresh (tb_at hk)
 rw [←tb_take,tb_lk] at hf
 have hf2:lk (R.take k) r.1=none:=by cases hc:lk (R.take k) r.1 with | none=>rfl | some x=>rw [hc] at hf;cases hf
 rcases ix_cases R r.1 with ⟨h1,h2⟩ | ⟨j,f,h1,h2,h3,h4,h5⟩
 ·exact absurd rfl (lk_none.1 h2 r (List.mem_of_getElem? hk))
 ·rw [h2]
  rcases Nat.lt_trichotomy j k with hh | hh | hh
  ·exact absurd rfl (lk_none.1 hf2 (r.1,f) (List.mem_take_iff_getElem.2 ⟨j,by have:=(List.getElem?_eq_some_iff.1 hk).1;omega,(List.getElem?_eq_some_iff.1 h3).2⟩))
  ·rw [hh]
  ·exact absurd rfl (lk_none.1 h5 r (List.mem_take_iff_getElem.2 ⟨k,by omega,(List.getElem?_eq_some_iff.1 hk).2⟩))
theorem chk_mayBe {V:Int} {R:List RowV} (lo:0≤V) (hi:V≤65536) (h1:chk1 V R R.length) (h2:chk2 R R.length):mayBe V (tb R):=by
 have hat:∀ r∈tb R,∃ (k:Nat) (s:RowV),k < R.length∧R[k]?=some s∧r=(s.1,s.2.fo):=fun r hr=>by
  obtain ⟨s,hs,rfl⟩:=List.mem_map.1 hr
  obtain ⟨k,hk,rfl⟩:=List.mem_iff_getElem.1 hs
  exact ⟨k,_,hk,List.getElem?_eq_getElem hk,rfl⟩
 refine ⟨lo,hi,List.pairwise_iff_getElem.2 fun i j hi hj hij e=>?_,fun r hr=>?_,fun r hr p hp=>?_⟩
 ·rw [tb_length] at hi hj
  have a1:=(h1 i R[i] hi (List.getElem?_eq_getElem hi)).2.1
  have a2:=(h1 j R[j] hj (List.getElem?_eq_getElem hj)).2.1
  have e2:R[i].1=R[j].1:=by simpa [tb] using e
  rw [e2,a2] at a1
  omega
 ·obtain ⟨k,s,hk,hs,rfl⟩:=hat r hr
  exact (h1 k s hk hs).1
 ·obtain ⟨k,s,hk,hs,rfl⟩:=hat r hr
  exact ⟨(h1 k s hk hs).2.2 p hp,ix_lk.1 (h2 k s hk hs p.1 (List.mem_map.2 ⟨p,hp,rfl⟩))⟩
theorem mayBe_1 {V:Int} {R:List RowV} (h:mayBe V (tb R)) {k:Nat} {r:RowV} (hk:R[k]?=some r):(0≤r.1∧r.1 < V)∧ix R r.1=(k:Int)∧inV V r.2.fo∧∀ z∈vsN r.2.fo,ix R z < 0:=by
 have hm:=List.mem_of_getElem? (tb_at hk)
 refine ⟨h.basic _ hm,once_ix h.once hk,fun p hp=>(h.vars _ hm p hp).1,fun z hz=>?_⟩
 obtain ⟨p,hp,rfl⟩:=List.mem_map.1 hz
 exact ix_lk.2 (h.vars _ hm p hp).2
structure TSm (w:World) (a:Option Addr) (R:List RowV):Prop where
 tin:TIn w a R
 b:bulT R≤2097152
theorem TSm.later {w w':World} {a:Option Addr} {R:List RowV} (h:TSm w a R) (hb:Below w.heap.size w w'):TSm w' a R:=⟨h.tin.later hb,h.b⟩
theorem TSm.form {w:World} {a:Option Addr} {R:List RowV} (h:TSm w a R) {r:RowV} (hr:r∈R):r.2.sm w:=⟨h.tin.forms r hr,by have:=bulT_mem hr;have:=h.b;omega⟩
theorem TSm.len {w:World} {a:Option Addr} {R:List RowV} (h:TSm w a R):R.length≤1048576:=by have:=bulT_len R;have:=h.b;omega
end Go.Proofs.YtgfmaejhdbmkoaaGreat
